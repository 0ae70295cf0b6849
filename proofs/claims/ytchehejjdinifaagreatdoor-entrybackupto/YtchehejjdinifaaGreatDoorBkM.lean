/-
  What can be written is read back between any bytes: types, groups; plain mathematics; no statement is proved here.
-/
import Derived.Test.YtchehejjdinifaaGreatDoorWrT
namespace Go.Proofs.YtchehejjdinifaaGreatDoor
set_option linter.unusedVariables false
set_option linter.unusedSimpArgs false

theorem addAt_is {A X : Int} {i : Nat} (hA0 : 0 ≤ A) (hi : i ≤ 4) (h0 : 0 ≤ X) (c : Int) (hc : c % 128 = X) : addAt A c i = A + X * 2 ^ (7 * i) := by
  unfold addAt
  rw [hc]
  have hX : X < 128 := by omega
  have h4 : i = 0 ∨ i = 1 ∨ i = 2 ∨ i = 3 ∨ i = 4 := by omega
  rcases h4 with rfl | rfl | rfl | rfl | rfl <;> simp <;> omega
theorem scan32 (d : Nat) : ∀ (i : Nat) (X A : Int) (r : List Int), i + d = 4 → 0 ≤ X → X < 2 ^ (32 - 7 * i) → 0 ≤ A →
    scan 4 (okB 4 false) false (putU (10 - i) X ++ r) i A = (A + X * 2 ^ (7 * i), ((i + (putU (10 - i) X).length : Nat) : Int), 0) := by
  induction d with
  | zero =>
    intro i X A r hi h0 hX hA
    obtain rfl : i = 4 := by omega
    have hX' : X < 16 := by simpa using hX
    rw [show 10 - 4 = 5 + 1 from rfl, putU, if_neg (by omega)]
    simp only [List.cons_append, List.nil_append, scan]
    have ho : okB 4 false X = true := by unfold okB; simp; omega
    rw [if_neg (by rw [ho]; simp), if_pos (by omega), addAt_is hA (by omega) h0 X (by omega)]
    simp [ws]
  | succ d ih =>
    intro i X A r hi h0 hX hA
    obtain ⟨g, hg⟩ : ∃ g, 10 - i = g + 1 := ⟨9 - i, by omega⟩
    have hg' : 10 - (i + 1) = g := by omega
    rw [hg, putU]
    by_cases h : 128 ≤ X
    · rw [if_pos h]
      simp only [List.cons_append, scan]
      rw [if_neg (by omega), if_neg (by omega), addAt_is hA (by omega) (X := X % 128) (by omega) _ (by omega)]
      have hp : (0 : Int) < 2 ^ (7 * i) := pow_pos7 i
      have hX2 : X / 128 < 2 ^ (32 - 7 * (i + 1)) := by
        have e : (2 : Int) ^ (32 - 7 * i) = 2 ^ (32 - 7 * (i + 1)) * 128 := by
          rw [show 32 - 7 * i = (32 - 7 * (i + 1)) + 7 from by omega, Int.pow_add]; rfl
        rw [e] at hX
        omega
      have hm : 0 ≤ X % 128 * 2 ^ (7 * i) := Int.mul_nonneg (by omega) (by omega)
      have := ih (i + 1) (X / 128) (A + X % 128 * 2 ^ (7 * i)) r (by omega) (by omega) hX2 (by omega)
      rw [hg'] at this
      rw [this]
      have e2 : X = X / 128 * 128 + X % 128 := by omega
      have e3 : X * 2 ^ (7 * i) = X / 128 * (2 ^ (7 * i) * 128) + X % 128 * 2 ^ (7 * i) := by
        conv => lhs; rw [e2]
        rw [Int.add_mul, Int.mul_assoc, Int.mul_comm 128 (2 ^ (7 * i))]
      rw [pow7 i, e3]
      simp only [List.length_cons, Prod.mk.injEq]
      refine ⟨by omega, by omega, trivial⟩
    · rw [if_neg h]
      simp only [List.cons_append, List.nil_append, scan]
      rw [if_neg (by omega), if_pos (by omega), addAt_is hA (by omega) h0 X (by omega)]
      simp [ws]
/- A number of 33 bits that is not below 0, signed. -/
theorem ws_low {A X : Int} {i : Nat} (hi : i ≤ 4) (hA0 : 0 ≤ A) (hA : A < 2 ^ (7 * i)) (h0 : 0 ≤ X) (hX : X < 64) : ws (A + X * 2 ^ (7 * i)) (7 * i + 7) true = A + X * 2 ^ (7 * i) := by
  unfold ws
  rw [if_neg]
  rintro ⟨_, h, _⟩
  revert h
  have h4 : i = 0 ∨ i = 1 ∨ i = 2 ∨ i = 3 ∨ i = 4 := by omega
  rcases h4 with rfl | rfl | rfl | rfl | rfl <;> simp at hA ⊢ <;> omega
theorem scanS31 (d : Nat) : ∀ (i : Nat) (X A : Int) (r : List Int), i + d = 4 → 0 ≤ X → X < 2 ^ (31 - 7 * i) → 0 ≤ A → A < 2 ^ (7 * i) →
    scan 4 (okB 5 true) true (putS (10 - i) X ++ r) i A = (A + X * 2 ^ (7 * i), ((i + (putS (10 - i) X).length : Nat) : Int), 0) := by
  induction d with
  | zero =>
    intro i X A r hi h0 hX hA hA2
    obtain rfl : i = 4 := by omega
    have hX' : X < 8 := by simpa using hX
    rw [show 10 - 4 = 5 + 1 from rfl, putS, if_neg (by omega)]
    simp only [List.cons_append, List.nil_append, scan]
    have e8 : X % 128 = X := by omega
    rw [e8]
    have ho : okB 5 true X = true := by unfold okB; simp; omega
    rw [if_neg (by rw [ho]; simp), if_pos (by omega), addAt_is hA (by omega) h0 X (by omega), ws_low (by omega) hA hA2 h0 (by omega)]
    simp
  | succ d ih =>
    intro i X A r hi h0 hX hA hA2
    obtain ⟨g, hg⟩ : ∃ g, 10 - i = g + 1 := ⟨9 - i, by omega⟩
    have hg' : 10 - (i + 1) = g := by omega
    rw [hg, putS]
    by_cases h : 64 ≤ X
    · rw [if_pos (Or.inr h)]
      simp only [List.cons_append, scan]
      have hp : (0 : Int) < 2 ^ (7 * i) := pow_pos7 i
      have hlt : addAt A (X % 128 + 128) i < 2 ^ (7 * (i + 1)) := addAt_hi hA2 (by omega)
      rw [if_neg (by omega), if_neg (by omega)]
      rw [addAt_is hA (by omega) (X := X % 128) (by omega) _ (by omega)] at hlt ⊢
      have hX2 : X / 128 < 2 ^ (31 - 7 * (i + 1)) := by
        have e : (2 : Int) ^ (31 - 7 * i) = 2 ^ (31 - 7 * (i + 1)) * 128 := by
          rw [show 31 - 7 * i = (31 - 7 * (i + 1)) + 7 from by omega, Int.pow_add]; rfl
        rw [e] at hX
        omega
      have hm : 0 ≤ X % 128 * 2 ^ (7 * i) := Int.mul_nonneg (by omega) (by omega)
      have := ih (i + 1) (X / 128) (A + X % 128 * 2 ^ (7 * i)) r (by omega) (by omega) hX2 (by omega) hlt
      rw [hg'] at this
      rw [this]
      have e2 : X = X / 128 * 128 + X % 128 := by omega
      have e3 : X * 2 ^ (7 * i) = X / 128 * (2 ^ (7 * i) * 128) + X % 128 * 2 ^ (7 * i) := by
        conv => lhs; rw [e2]
        rw [Int.add_mul, Int.mul_assoc, Int.mul_comm 128 (2 ^ (7 * i))]
      rw [pow7 i, e3]
      simp only [List.length_cons, Prod.mk.injEq]
      refine ⟨by omega, by omega, trivial⟩
    · rw [if_neg (by omega)]
      simp only [List.cons_append, List.nil_append, scan]
      have e8 : X % 128 = X := by omega
      rw [e8, if_neg (by omega), if_pos (by omega), addAt_is hA (by omega) h0 X (by omega), ws_low (by omega) hA hA2 h0 (by omega)]
      simp
theorem seg_mid (f u r : List Int) : seg (f ++ (u ++ r)) f.length (f ++ (u ++ r)).length = u ++ r := by
  unfold seg; rw [List.take_length, List.drop_left' rfl]
/- What was read, by its bits. -/
theorem scan_val (ok : Int → Bool) (hok : ∀ c, ok c = true → c < 128) (sg : Bool) : ∀ (x : List Int) (i : Nat) (A n q : Int), i ≤ 4 → 0 ≤ A → A < 2 ^ (7 * i) → scan 4 ok sg x i A = (n, q, 0) →
    ∃ (V : Int) (k : Nat), q = (k : Int) ∧ i < k ∧ k ≤ 5 ∧ 0 ≤ V ∧ V < 2 ^ (7 * k) ∧ n = ws V (7 * k) sg := by
  intro x
  induction x with
  | nil => intro i A n q _ _ _ h; simp [scan] at h
  | cons c r ih =>
    intro i A n q hi hA hA2 h
    rw [scan] at h
    split at h
    · simp at h
    · rename_i h1
      split at h
      · simp only [Prod.mk.injEq, and_true] at h
        exact ⟨addAt A c i, i + 1, by omega, by omega, by omega, addAt_lo i hA, addAt_hi hA2 (by omega), by rw [← h.1]; rfl⟩
      · rename_i h2
        have hi4 : i < 4 := by
          rcases Nat.lt_or_ge i 4 with h | h
          · exact h
          · exfalso
            obtain rfl : i = 4 := by omega
            by_cases ho : ok c = true
            · have := hok c ho; omega
            · exact h1 ⟨rfl, by simpa using ho⟩
        obtain ⟨V, k, hq, hk, hk5, hV, hV2, hn⟩ := ih (i + 1) (addAt A c i) n q (by omega) (addAt_lo i hA) (addAt_hi hA2 (by omega)) h
        exact ⟨V, k, hq, by omega, hk5, hV, hV2, hn⟩
theorem putU_lenK : ∀ (k f : Nat) (n : Int), 0 ≤ n → n < 2 ^ (7 * (k + 1)) → (putU f n).length ≤ k + 1 := by
  intro k
  induction k with
  | zero =>
    intro f n h0 h
    cases f with
    | zero => simp [putU]
    | succ f => rw [putU, if_neg (by simp at h; omega)]; simp
  | succ k ih =>
    intro f n h0 h
    cases f with
    | zero => simp [putU]
    | succ f =>
      rw [putU]
      split
      · have := ih f (n / 128) (by omega) (by rw [pow7] at h; omega)
        simp; omega
      · simp
theorem putS_lenK : ∀ (k f : Nat) (n : Int), 0 ≤ n → n < 2 ^ (7 * k + 6) → (putS f n).length ≤ k + 1 := by
  intro k
  induction k with
  | zero =>
    intro f n h0 h
    cases f with
    | zero => simp [putS]
    | succ f => rw [putS, if_neg (by simp at h; omega)]; simp
  | succ k ih =>
    intro f n h0 h
    cases f with
    | zero => simp [putS]
    | succ f =>
      rw [putS]
      split
      · have := ih f (n / 128) (by omega) (by
          rw [show 7 * (k + 1) + 6 = (7 * k + 6) + 7 from by omega, Int.pow_add] at h
          have : (2 : Int) ^ 7 = 128 := by decide
          rw [this] at h
          omega)
        simp; omega
      · simp
theorem putU_byte (f : Nat) (X : Int) (h0 : 0 ≤ X) (hX : X < 128 * 2 ^ (7 * f)) : ∀ c ∈ putU f X, 0 ≤ c ∧ c ≤ 255 := by
  induction f generalizing X with
  | zero => simp [putU] at hX ⊢; omega
  | succ f ih =>
    rw [putU]
    split
    · intro c hc
      rcases List.mem_cons.1 hc with rfl | hc
      · omega
      · refine ih (X / 128) (by omega) ?_ c hc
        rw [pow7] at hX; omega
    · intro c hc; simp at hc; omega
theorem putS_byte (f : Nat) (X : Int) : ∀ c ∈ putS f X, 0 ≤ c ∧ c ≤ 255 := by
  induction f generalizing X with
  | zero => simp [putS]; omega
  | succ f ih =>
    rw [putS]
    split
    · intro c hc
      rcases List.mem_cons.1 hc with rfl | hc
      · omega
      · exact ih (X / 128) c hc
    · intro c hc; simp at hc; omega
theorem PU_ne (n : Int) : 0 < (PU n).length := by unfold PU; rw [putU]; split <;> simp
/- The first byte of a number that is not below 0, signed: below 64, or 128 and more. -/
theorem PS_head (n : Int) (h0 : 0 ≤ n) : ∃ c r, PS n = c :: r ∧ 0 ≤ c ∧ (c < 64 ∨ 128 ≤ c) := by
  unfold PS
  rw [putS]
  split
  · exact ⟨_, _, rfl, by omega, by omega⟩
  · exact ⟨_, _, rfl, by omega, by omega⟩
/- Bytes. -/
def By (l : List Int) : Prop := ∀ c ∈ l, 0 ≤ c ∧ c ≤ 255
theorem By.app {a b : List Int} (h : By a) (k : By b) : By (a ++ b) := fun c hc => (List.mem_append.1 hc).elim (h c) (k c)
theorem By.one {c : Int} (h : 0 ≤ c ∧ c ≤ 255) : By [c] := fun d hd => by simp at hd; subst hd; exact h
theorem PU_by {n : Int} (h0 : 0 ≤ n) (h : n ≤ 18446744073709551615) : By (PU n) := putU_byte 10 n h0 (by simp; omega)
theorem PS_by (n : Int) : By (PS n) := putS_byte 10 n
/- What is read as this between any bytes. -/
def Bk {α : Type} (rd : List Int → Nat → RS α) (a : α) (m : List Int) : Prop := ∀ pre post : List Int, rd (pre ++ (m ++ post)) pre.length = .ok (a, pre.length + m.length)
theorem num_ok {b : Nat} {sg : Bool} {l : List Int} {p q : Nat} {n : Int} (hp : p ≤ l.length) (h : numR b sg l p = .ok (n, q)) :
    ∃ k : Nat, scan ((b + 6) / 7 - 1) (okB (b - 7 * ((b + 6) / 7 - 1)) sg) sg (seg l p l.length) 0 0 = (n, (k : Int), 0) ∧ q = p + k := by
  obtain ⟨n', k', e', hs⟩ : ∃ n k e, scan ((b + 6) / 7 - 1) (okB (b - 7 * ((b + 6) / 7 - 1)) sg) sg (seg l p l.length) 0 0 = (n, k, e) := ⟨_, _, _, rfl⟩
  obtain ⟨h1, h2, h3, h4⟩ := scan_in _ _ _ _ 0 0 n' k' e' hs
  have hr := rd_in hp (Nat.le_refl _) hs
  unfold numR at h
  rw [hr] at h
  simp only at h
  split at h
  · rename_i he
    subst he
    simp only [Except.ok.injEq, Prod.mk.injEq] at h
    refine ⟨k'.toNat, ?_, by omega⟩
    rw [hs, h.1, Int.toNat_of_nonneg (by omega)]
  · cases h
theorem num_of {b : Nat} {sg : Bool} {f u r : List Int} {n : Int} (h : scan ((b + 6) / 7 - 1) (okB (b - 7 * ((b + 6) / 7 - 1)) sg) sg (u ++ r) 0 0 = (n, (u.length : Int), 0)) :
    numR b sg (f ++ (u ++ r)) f.length = .ok (n, f.length + u.length) := by
  have hr := rd_in (b := b) (sg := sg) (l := f ++ (u ++ r)) (a := f.length) (e := (f ++ (u ++ r)).length) (n := n) (p := (u.length : Int)) (q := 0) (by simp) (Nat.le_refl _) (by rw [seg_mid]; exact h)
  unfold numR
  rw [hr]
  simp only [if_true, Except.ok.injEq, Prod.mk.injEq, true_and]
  omega
theorem num32_back {n : Int} (h0 : 0 ≤ n) (h1 : n < 4294967296) : Bk (numR 32 false) n (PU n) := by
  intro f r
  refine num_of ?_
  have hs := scan32 4 0 n 0 r rfl h0 (by simp; omega) (Int.le_refl 0)
  simpa [PU] using hs
theorem num33_back {n : Int} (h0 : 0 ≤ n) (h1 : n ≤ 2147483647) : Bk (numR 33 true) n (PS n) := by
  intro f r
  refine num_of ?_
  have hs := scanS31 4 0 n 0 r rfl h0 (by simp; omega) (Int.le_refl 0) (by decide)
  simpa [PS] using hs
theorem num32_least {l : List Int} {p q : Nat} {n : Int} (hp : p ≤ l.length) (h : numR 32 false l p = .ok (n, q)) (h32 : 0 ≤ n) : p + (PU n).length ≤ q := by
  obtain ⟨k, hs, rfl⟩ := num_ok hp h
  obtain ⟨V, k', hq, h1, h2, hV, hV2, hn⟩ := scan_val _ (fun c hc => okB_lt hc) _ _ 0 0 n k (by omega) (Int.le_refl 0) (by decide) hs
  obtain rfl : k = k' := by omega
  simp [ws] at hn
  subst hn
  obtain ⟨j, rfl⟩ : ∃ j, k = j + 1 := ⟨k - 1, by omega⟩
  have := putU_lenK j 10 n hV hV2
  unfold PU
  omega
theorem num33_least {l : List Int} {p q : Nat} {n : Int} (hp : p ≤ l.length) (h : numR 33 true l p = .ok (n, q)) (h0 : 0 ≤ sg64 n) (h31 : sg64 n ≤ 2147483647) : p + (PS (sg64 n)).length ≤ q := by
  obtain ⟨k, hs, rfl⟩ := num_ok hp h
  obtain ⟨V, k', hq, h1, h2, hV, hV2, hn⟩ := scan_val _ (fun c hc => okB_lt hc) _ _ 0 0 n k (by omega) (Int.le_refl 0) (by decide) hs
  obtain rfl : k = k' := by omega
  obtain ⟨j, rfl⟩ : ∃ j, k = j + 1 := ⟨k - 1, by omega⟩
  have hj : j = 0 ∨ j = 1 ∨ j = 2 ∨ j = 3 ∨ j = 4 := by omega
  have key : sg64 n < 2 ^ (7 * j + 6) := by
    rw [hn] at h0 ⊢
    unfold ws sg64 at *
    rcases hj with rfl | rfl | rfl | rfl | rfl <;> simp at hV2 h0 ⊢ <;> split at h0 <;> (try simp_all) <;> omega
  have := putS_lenK j 10 (sg64 n) h0 key
  unfold PS
  omega
end Go.Proofs.YtchehejjdinifaaGreatDoor

namespace Go.Proofs.YtchehejjdinifaaGreatDoor
set_option linter.unusedVariables false
set_option linter.unusedSimpArgs false

theorem mean_out {c : Int} (h : c < 94 ∨ 127 < c) : mean c = (0, 0) := by
  unfold mean codeL
  iterate 24 rw [findC, if_neg (by simp only; omega)]
  rfl
theorem in_range {c : Int} (h : ¬ (c < 94 ∨ 127 < c)) : ∃ k : _root_.Fin 34, c = 94 + (k.val : Int) := ⟨⟨(c - 94).toNat, by omega⟩, by simp only; omega⟩
theorem code_of1 : ∀ k : _root_.Fin 34, (mean (94 + (k.val : Int))).1 = 1 → codeW 1 (mean (94 + (k.val : Int))).2 = some (94 + (k.val : Int)) ∧ 1 ≤ (mean (94 + (k.val : Int))).2 ∧ (mean (94 + (k.val : Int))).2 ≤ 4 := by decide +kernel
theorem code_of3 : ∀ k : _root_.Fin 34, (mean (94 + (k.val : Int))).1 = 3 → codeW 3 (mean (94 + (k.val : Int))).2 = some (94 + (k.val : Int)) ∧ ((mean (94 + (k.val : Int))).2 = 6 ∨ (mean (94 + (k.val : Int))).2 = 7) := by decide +kernel
theorem code_of4 : ∀ k : _root_.Fin 34, (mean (94 + (k.val : Int))).1 = 4 → codeW 4 (mean (94 + (k.val : Int))).2 = some (94 + (k.val : Int)) ∧ (mean (94 + (k.val : Int))).2 < 0 := by decide +kernel
theorem code_of5 : ∀ k : _root_.Fin 34, (mean (94 + (k.val : Int))).1 = 5 → (mean (94 + (k.val : Int))).2 = 0 ∨ (mean (94 + (k.val : Int))).2 = 1 := by decide +kernel
theorem code_of6 : ∀ k : _root_.Fin 34, (mean (94 + (k.val : Int))).1 = 6 → (mean (94 + (k.val : Int))).2 = 1 ∨ (mean (94 + (k.val : Int))).2 = 2 ∨ (mean (94 + (k.val : Int))).2 = 3 := by decide +kernel
theorem kind_in {c : Int} {k : Int} (hk : k ≠ 0) (h : (mean c).1 = k) : ∃ j : _root_.Fin 34, c = 94 + (j.val : Int) := by
  refine in_range fun ho => ?_
  rw [mean_out ho] at h
  exact hk h.symm
theorem code1 {c : Int} (h : (mean c).1 = 1) : codeR 1 (mean c).2 = .ok [c] ∧ 1 ≤ (mean c).2 ∧ (mean c).2 ≤ 4 := by
  obtain ⟨j, rfl⟩ := kind_in (by decide) h
  obtain ⟨h1, h2⟩ := code_of1 j h
  exact ⟨by unfold codeR; rw [h1], h2⟩
theorem code3 {c : Int} (h : (mean c).1 = 3) : codeR 3 (mean c).2 = .ok [c] ∧ ((mean c).2 = 6 ∨ (mean c).2 = 7) := by
  obtain ⟨j, rfl⟩ := kind_in (by decide) h
  obtain ⟨h1, h2⟩ := code_of3 j h
  exact ⟨by unfold codeR; rw [h1], h2⟩
theorem code4 {c : Int} (h : (mean c).1 = 4) : codeR 4 (mean c).2 = .ok [c] ∧ (mean c).2 < 0 := by
  obtain ⟨j, rfl⟩ := kind_in (by decide) h
  obtain ⟨h1, h2⟩ := code_of4 j h
  exact ⟨by unfold codeR; rw [h1], h2⟩
theorem code5 {c : Int} (h : (mean c).1 = 5) : (mean c).2 = 0 ∨ (mean c).2 = 1 := by
  obtain ⟨j, rfl⟩ := kind_in (by decide) h
  exact code_of5 j h
theorem code6 {c : Int} (h : (mean c).1 = 6) : (mean c).2 = 1 ∨ (mean c).2 = 2 ∨ (mean c).2 = 3 := by
  obtain ⟨j, rfl⟩ := kind_in (by decide) h
  exact code_of6 j h

/- What is read is written, in at most as many bytes, opening with a byte of P, and read back between any bytes. -/
def Wd {α : Type} (P : Int → Prop) (rd : List Int → Nat → RS α) (wr : α → Except Nat (List Int)) (a : α) (len : Nat) : Prop :=
  ∃ (c : Int) (r : List Int), wr a = .ok (c :: r) ∧ P c ∧ r.length + 1 ≤ len ∧ By (c :: r) ∧ Bk rd a (c :: r)
def Ls {α : Type} (P : Int → Prop) (rd : List Int → Nat → RS α) (wr : α → Except Nat (List Int)) : Prop := ∀ (l : List Int) (p : Nat) (a : α) (q : Nat), p ≤ l.length → By l → rd l p = .ok (a, q) → Wd P rd wr a (q - p)
theorem at_byte {α : Type} {l : List Int} {p : Nat} {k : Int → RS α} {x : α × Nat} (h : atR l p k = .ok x) : p < l.length ∧ k (l.getD p 0) = .ok x := by
  unfold atR at h
  split at h
  · exact ⟨by assumption, h⟩
  · cases h
theorem at_mid {α : Type} (pre r : List Int) (c : Int) (k : Int → RS α) : atR (pre ++ (c :: r)) pre.length k = k c := by
  unfold atR
  rw [if_pos (by simp)]
  congr 1
  simp [List.getD]
theorem By.get {l : List Int} (h : By l) {p : Nat} (hp : p < l.length) : 0 ≤ l.getD p 0 ∧ l.getD p 0 ≤ 255 := by
  have : l.getD p 0 = l[p] := by simp [List.getD, hp]
  rw [this]
  exact h _ (List.getElem_mem hp)
theorem lim_ok {p : Nat} {m : Int} {r : RS Int} {n : Int} {q : Nat} (h : limR p m r = .ok (n, q)) : r = .ok (n, q) ∧ n ≤ m := by
  cases r with
  | error e => cases h
  | ok x =>
    obtain ⟨a, b⟩ := x
    simp only [limR] at h
    split at h
    · cases h
    · simp only [Except.ok.injEq, Prod.mk.injEq] at h
      obtain ⟨rfl, rfl⟩ := h
      exact ⟨rfl, by omega⟩
theorem num32_lo {l : List Int} {p q : Nat} {n : Int} (hp : p ≤ l.length) (h : numR 32 false l p = .ok (n, q)) : 0 ≤ n := by
  obtain ⟨k, hs, rfl⟩ := num_ok hp h
  obtain ⟨V, k', hq, h1, h2, hV, hV2, hn⟩ := scan_val _ (fun c hc => okB_lt hc) _ _ 0 0 n k (by omega) (Int.le_refl 0) (by decide) hs
  simp [ws] at hn
  omega
/- Type numbers. -/
theorem PU_cons (n : Int) : ∃ c r, PU n = c :: r := by
  have := PU_ne n
  cases h : PU n with
  | nil => rw [h] at this; simp at this
  | cons c r => exact ⟨c, r, rfl⟩
theorem tyU_ls : Ls (fun _ => True) tyU uidxW := by
  intro l p n q hp hl h
  obtain ⟨h1, h2⟩ := lim_ok h
  have h0 := num32_lo hp h1
  have hk := num32_least hp h1 h0
  obtain ⟨c, r, hc⟩ := PU_cons n
  refine ⟨c, r, by rw [uidxW, if_pos ⟨h0, h2⟩, hc], trivial, by rw [hc] at hk; simp at hk; omega, by rw [← hc]; exact PU_by h0 (by omega), ?_⟩
  intro pre post
  rw [← hc, tyU, num32_back h0 (by omega) pre post]
  rw [limR, if_neg (by omega)]
theorem tyS_ok {l : List Int} {p q : Nat} {n : Int} (h : tyS l p = .ok (n, q)) : ∃ N, numR 33 true l p = .ok (N, q) ∧ n = sg64 N ∧ 0 ≤ n ∧ n ≤ 2147483647 := by
  unfold tyS at h
  cases hx : numR 33 true l p with
  | error e => rw [hx] at h; cases h
  | ok x =>
    obtain ⟨N, q'⟩ := x
    rw [hx] at h
    simp only at h
    split at h
    · cases h
    · split at h
      · cases h
      · simp only [Except.ok.injEq, Prod.mk.injEq] at h
        obtain ⟨rfl, rfl⟩ := h
        exact ⟨N, rfl, rfl, by omega, by omega⟩
theorem tyS_back {n : Int} (h0 : 0 ≤ n) (h1 : n ≤ 2147483647) : Bk tyS n (PS n) := by
  intro pre post
  rw [tyS, num33_back h0 h1 pre post]
  have e : sg64 n = n := by unfold sg64; omega
  simp only [e]
  rw [if_neg (by omega), if_neg (by omega)]
theorem tyS_ls : Ls (fun c => c < 64 ∨ 128 ≤ c) tyS sidxW := by
  intro l p n q hp hl h
  obtain ⟨N, h1, rfl, h0, h2⟩ := tyS_ok h
  have hk := num33_least hp h1 h0 h2
  obtain ⟨c, r, hc, _, hc2⟩ := PS_head (sg64 N) h0
  refine ⟨c, r, by rw [sidxW, if_pos ⟨h0, h2⟩, hc], hc2, by rw [hc] at hk; simp at hk; omega, by rw [← hc]; exact PS_by _, ?_⟩
  rw [← hc]
  exact tyS_back h0 h2
theorem mean_big {c : Int} (h : c < 64 ∨ 128 ≤ c) : mean c = (0, 0) := mean_out (by omega)
theorem heap_ls : Ls (fun c => (mean c).1 = 4 ∨ (mean c).1 = 0) heapR heapW := by
  intro l p n q hp hl h
  obtain ⟨hlt, h⟩ := at_byte h
  split at h
  · rename_i h4
    obtain ⟨hc, hn⟩ := code4 h4
    simp only [Except.ok.injEq, Prod.mk.injEq] at h
    obtain ⟨rfl, rfl⟩ := h
    refine ⟨l.getD p 0, [], by rw [heapW, if_neg (by omega), hc], Or.inl h4, by simp, By.one (hl.get hlt), fun pre post => ?_⟩
    rw [List.cons_append, heapR, at_mid, if_pos h4]
    simp
  · obtain ⟨c, r, h1, h2, h3, h4, h5⟩ := tyS_ls l p n q hp hl h
    obtain ⟨N, _, _, hn0, _⟩ := tyS_ok h
    refine ⟨c, r, by rw [heapW, if_pos hn0, h1], Or.inr (by rw [mean_big h2]), h3, h4, fun pre post => ?_⟩
    have := h5 pre post
    rw [List.cons_append] at this ⊢
    rw [heapR, at_mid, if_neg (by rw [mean_big h2]; simp), this]
theorem ref_ls : Ls (fun c => (mean c).1 = 4 ∨ (mean c).1 = 5) refR refW := by
  intro l p n q hp hl h
  obtain ⟨hlt, h⟩ := at_byte h
  split at h
  · rename_i h4
    obtain ⟨hc, hn⟩ := code4 h4
    simp only [Except.ok.injEq, Prod.mk.injEq] at h
    obtain ⟨rfl, rfl⟩ := h
    refine ⟨l.getD p 0, [], ?_, Or.inl h4, by simp, By.one (hl.get hlt), fun pre post => ?_⟩
    · rw [refW, if_pos rfl, if_neg (by simp), if_neg (by simp only; omega), heapW, if_neg (by simp only; omega)]
      simp only [hc, thenW, List.nil_append]
    · rw [List.cons_append, refR, at_mid, if_pos h4]
      simp
  · rename_i h4
    split at h
    · rename_i h5
      obtain ⟨v, hv, rfl⟩ := mapR_ok h
      obtain ⟨c, r, h1, h2, h3, hby, hbk⟩ := heap_ls l (p + 1) v q (by omega) hl hv
      have hq := (heap_adv l (p + 1) (by omega)).1 v q hv
      have hbk' : ∀ (x : Int) (pre post : List Int), heapR (pre ++ (x :: (c :: (r ++ post)))) (pre.length + 1) = .ok (v, pre.length + 1 + (r.length + 1)) := by
        intro x pre post
        have := hbk (pre ++ [x]) post
        simpa using this
      by_cases hnull : (mean (l.getD p 0)).2 = 1
      · rw [show decide ((mean (l.getD p 0)).2 = 1) = true from decide_eq_true hnull]
        by_cases hv0 : 0 ≤ v
        · refine ⟨99, c :: r, ?_, Or.inr (by decide), by simp; omega, By.app (By.one (by omega)) hby, fun pre post => ?_⟩
          · rw [refW, if_pos rfl, if_neg (by simp), if_pos hv0]
            simp only [h1, thenW]
            rfl
          · rw [List.cons_append, refR, at_mid, if_neg (by decide), if_pos (by decide)]
            rw [List.cons_append, hbk' 99 pre post]
            simp only [mapR, List.length_cons]
            rw [show decide ((mean 99).2 = 1) = true from by decide +kernel, Nat.add_assoc, Nat.add_comm 1]
        · -- an abstract heap type: by its byte alone
          have hw : heapW v = codeR 4 v := by rw [heapW, if_neg hv0]
          have h4c : (mean c).1 = 4 ∧ v = (mean c).2 ∧ r = [] := by
            have hb := hbk [] []
            simp only [List.nil_append, List.append_nil, List.length_nil, Nat.zero_add, List.length_cons] at hb
            have hb' : atR ([] ++ (c :: r)) ([] : List Int).length (fun c' => if (mean c').1 = 4 then .ok ((mean c').2, 0 + 1) else tyS (c :: r) 0) = .ok (v, r.length + 1) := hb
            rw [at_mid] at hb'
            split at hb'
            · rename_i h4'
              simp only [Except.ok.injEq, Prod.mk.injEq] at hb'
              refine ⟨h4', hb'.1.symm, List.eq_nil_of_length_eq_zero (by omega)⟩
            · obtain ⟨N, _, _, hn0, _⟩ := tyS_ok hb'
              omega
          obtain ⟨h4m, hvm, rfl⟩ := h4c
          refine ⟨c, [], ?_, Or.inl h4m, by simp; omega, hby, fun pre post => ?_⟩
          · rw [refW, if_pos rfl, if_neg (by simp), if_neg hv0]
            simp only [h1, thenW, List.nil_append]
          · rw [List.cons_append, refR, at_mid, if_pos h4m]
            simp [hvm]
      · have hz : (mean (l.getD p 0)).2 = 0 := by rcases code5 h5 with h | h <;> omega
        rw [show decide ((mean (l.getD p 0)).2 = 1) = false from decide_eq_false hnull]
        refine ⟨100, c :: r, ?_, Or.inr (by decide), by simp; omega, By.app (By.one (by omega)) hby, fun pre post => ?_⟩
        · rw [refW, if_pos rfl, if_pos rfl]
          simp only [h1, thenW]
          rfl
        · rw [List.cons_append, refR, at_mid, if_neg (by decide), if_pos (by decide)]
          rw [List.cons_append, hbk' 100 pre post]
          simp only [mapR, List.length_cons]
          rw [show decide ((mean 100).2 = 1) = false from by decide +kernel, Nat.add_assoc, Nat.add_comm 1]
    · cases h
theorem val_ls : Ls (fun c => (mean c).1 = 1 ∨ (mean c).1 = 4 ∨ (mean c).1 = 5) valR valW := by
  intro l p n q hp hl h
  obtain ⟨hlt, h⟩ := at_byte h
  split at h
  · cases h
  · split at h
    · rename_i h1
      obtain ⟨hc, hn⟩ := code1 h1
      simp only [Except.ok.injEq, Prod.mk.injEq] at h
      obtain ⟨rfl, rfl⟩ := h
      refine ⟨l.getD p 0, [], ?_, Or.inl h1, by simp, By.one (hl.get hlt), fun pre post => ?_⟩
      · rw [valW, if_neg (by simp only; omega), plainW, if_pos (by simp)]
        exact hc
      · rw [List.cons_append, valR, at_mid, if_neg (by omega), if_pos h1]
        simp
    · obtain ⟨c, r, h1, h2, h3, h4, h5⟩ := ref_ls l p n q hp hl h
      have h5n : n.num = 5 := by
        cases hn : decide (n.num = 5) with
        | true => simpa using hn
        | false => simp at hn; rw [refW, if_neg hn] at h1; cases h1
      refine ⟨c, r, by rw [valW, if_pos h5n, h1], Or.inr h2, h3, h4, fun pre post => ?_⟩
      have := h5 pre post
      rw [List.cons_append] at this ⊢
      rw [valR, at_mid, if_neg (by omega), if_neg (by omega), this]
theorem val_num {l : List Int} {p q : Nat} {v : VT} (hp : p ≤ l.length) (hl : By l) (h : valR l p = .ok (v, q)) : ¬ (v.num = 6 ∨ v.num = 7) := by
  obtain ⟨c, r, h1, _⟩ := val_ls l p v q hp hl h
  intro hn
  rw [valW, if_neg (by omega), plainW] at h1
  split at h1
  · rcases hn with hn | hn <;> rw [hn] at h1 <;> simp [codeR, codeW, codeL, findW] at h1
  · cases h1
theorem stor_ls : Ls (fun c => (mean c).1 = 3 ∨ (mean c).1 = 1 ∨ (mean c).1 = 4 ∨ (mean c).1 = 5) storR storW := by
  intro l p n q hp hl h
  obtain ⟨hlt, h⟩ := at_byte h
  split at h
  · rename_i h1
    obtain ⟨hc, hn⟩ := code3 h1
    simp only [Except.ok.injEq, Prod.mk.injEq] at h
    obtain ⟨rfl, rfl⟩ := h
    refine ⟨l.getD p 0, [], ?_, Or.inl h1, by simp, By.one (hl.get hlt), fun pre post => ?_⟩
    · rw [storW, if_pos hn, plainW, if_pos (by simp)]
      exact hc
    · rw [List.cons_append, storR, at_mid, if_pos h1]
      simp
  · obtain ⟨c, r, h1, h2, h3, h4, h5⟩ := val_ls l p n q hp hl h
    refine ⟨c, r, by rw [storW, if_neg (val_num hp hl h), h1], Or.inr h2, h3, h4, fun pre post => ?_⟩
    have := h5 pre post
    rw [List.cons_append] at this ⊢
    rw [storR, at_mid, if_neg (by omega), this]
theorem flag_back (x : Bool) : Bk flagR x (flagB x) := by
  intro pre post
  rw [flagB, List.cons_append, flagR, belowR, at_mid]
  cases x <;> simp [mapR]
theorem field_ls : Ls (fun _ => True) fieldR fieldW := by
  intro l p f q hp hl h
  unfold fieldR at h
  cases hs : storR l p with
  | error e => rw [hs] at h; cases h
  | ok x =>
    obtain ⟨v, q1⟩ := x
    rw [hs] at h
    simp only [thenR] at h
    obtain ⟨m, hm, rfl⟩ := mapR_ok h
    have a1 := (stor_adv l p hp).1 v q1 hs
    have a2 := (flag_adv l q1 a1.2).1 m q hm
    obtain ⟨c, r, h1, h2, h3, h4, h5⟩ := stor_ls l p v q1 hp hl hs
    refine ⟨c, r ++ flagB m, ?_, trivial, by simp [flagB]; omega, ?_, fun pre post => ?_⟩
    · rw [fieldW, h1]; rfl
    · rw [← List.cons_append]; exact By.app h4 (by unfold flagB; split <;> exact By.one (by omega))
    · have e1 := h5 pre (flagB m ++ post)
      have e2 := flag_back m (pre ++ (c :: r)) post
      have el : pre ++ (c :: (r ++ flagB m) ++ post) = pre ++ (c :: r ++ (flagB m ++ post)) := by simp
      have el2 : pre ++ (c :: r) ++ (flagB m ++ post) = pre ++ (c :: r ++ (flagB m ++ post)) := by simp
      rw [el2] at e2
      rw [fieldR, el, e1]
      simp only [thenR]
      have e3 : pre.length + (c :: r).length = (pre ++ (c :: r)).length := by simp
      rw [e3, e2]
      simp [mapR, flagB]
      omega
/- So many, one behind another. -/
theorem many_ls {α : Type} {P : Int → Prop} {rd : List Int → Nat → RS α} {wr : α → Except Nat (List Int)} (H : Ls P rd wr) (l : List Int) (hA : Adv l (rd l)) (hl : By l) :
    ∀ (n : Nat) (acc : List α) (p : Nat) (xs : List α) (q : Nat), p ≤ l.length → manyR (rd l) n acc p = .ok (xs, q) →
      ∃ ys m, xs = acc ++ ys ∧ ys.length = n ∧ manyW wr ys = .ok m ∧ p + m.length ≤ q ∧ By m ∧
        ∀ pre post acc', manyR (rd (pre ++ (m ++ post))) n acc' pre.length = .ok (acc' ++ ys, pre.length + m.length)
  | 0, acc, p, xs, q, hp, h => by
    simp only [manyR, Except.ok.injEq, Prod.mk.injEq] at h
    obtain ⟨rfl, rfl⟩ := h
    exact ⟨[], [], by simp, rfl, rfl, by simp, (by intro c hc; cases hc), fun pre post acc' => by simp [manyR]⟩
  | n + 1, acc, p, xs, q, hp, h => by
    rw [manyR] at h
    cases hx : rd l p with
    | error e => rw [hx] at h; cases h
    | ok y =>
      obtain ⟨a, q1⟩ := y
      rw [hx] at h
      simp only [thenR] at h
      have a1 := (hA p hp).1 a q1 hx
      obtain ⟨c, r, h1, h2, h3, h4, h5⟩ := H l p a q1 hp hl hx
      obtain ⟨ys, m, rfl, hy, hw, hle, hby, hbk⟩ := many_ls H l hA hl n (acc ++ [a]) q1 xs q a1.2 h
      refine ⟨a :: ys, c :: r ++ m, by simp, by simp [hy], ?_, by simp; omega, By.app h4 hby, fun pre post acc' => ?_⟩
      · rw [manyW, h1, hw]; rfl
      · have e1 := h5 pre (m ++ post)
        have e2 := hbk (pre ++ (c :: r)) post (acc' ++ [a])
        have el : pre ++ (c :: r ++ m ++ post) = pre ++ (c :: r ++ (m ++ post)) := by simp
        have el2 : pre ++ (c :: r) ++ (m ++ post) = pre ++ (c :: r ++ (m ++ post)) := by simp
        rw [el2] at e2
        rw [manyR, el, e1]
        simp only [thenR]
        have e3 : pre.length + (c :: r).length = (pre ++ (c :: r)).length := by simp
        rw [e3, e2]
        simp
        omega
theorem list_ls {α : Type} {P : Int → Prop} {rd : List Int → Nat → RS α} {wr : α → Except Nat (List Int)} (H : Ls P rd wr) (hA : ∀ l, Adv l (rd l)) (lim : Nat) (hlim : lim ≤ 100000) :
    Ls (fun _ => True) (fun l p => listR (lim : Int) (rd l) l p) (listW lim wr) := by
  intro l p xs q hp hl h
  simp only [listR] at h
  cases hx : limR p (lim : Int) (numR 32 false l p) with
  | error e => rw [hx] at h; cases h
  | ok y =>
    obtain ⟨n, q1⟩ := y
    rw [hx] at h
    simp only [thenR] at h
    obtain ⟨hn, hnl⟩ := lim_ok hx
    have h0 := num32_lo hp hn
    have hk := num32_least hp hn h0
    have a1 := (num_adv 32 false l p hp).1 n q1 hn
    obtain ⟨ys, m, he, hy, hw, hle, hby, hbk⟩ := many_ls H l (hA l) hl n.toNat [] q1 xs q a1.2 h
    rw [List.nil_append] at he
    subst he
    have hyn : (xs.length : Int) = n := by omega
    obtain ⟨c, r, hc⟩ := PU_cons n
    refine ⟨c, r ++ m, ?_, trivial, by rw [hc] at hk; simp at hk ⊢; omega, ?_, fun pre post => ?_⟩
    · rw [listW, if_neg (by omega), hyn, hc, hw]; rfl
    · rw [← List.cons_append, ← hc]; exact By.app (PU_by h0 (by omega)) hby
    · have e1 := num32_back h0 (by omega) pre (m ++ post)
      have e2 := hbk (pre ++ PU n) post []
      have el : pre ++ (c :: (r ++ m) ++ post) = pre ++ (PU n ++ (m ++ post)) := by rw [hc]; simp
      have el2 : pre ++ PU n ++ (m ++ post) = pre ++ (PU n ++ (m ++ post)) := by simp
      rw [el2] at e2
      simp only [listR]
      rw [el, e1, limR, if_neg (by omega)]
      simp only [thenR]
      have e3 : pre.length + (PU n).length = (pre ++ PU n).length := by simp
      rw [e3, e2, hc]
      simp
      omega
theorem vals_ls : Ls (fun _ => True) valsR (listW 1000 valW) := list_ls val_ls val_adv 1000 (by omega)
theorem fields_ls : Ls (fun _ => True) (fun l p => listR 10000 (fieldR l) l p) (listW 10000 fieldW) := list_ls field_ls field_adv 10000 (by omega)
theorem sups_ls : Ls (fun _ => True) (fun l p => listR 1000 (tyU l) l p) (listW 1000 uidxW) := list_ls tyU_ls tyU_adv 1000 (by omega)
/- A byte ahead. -/
theorem Bk.after {α : Type} {rd : List Int → Nat → RS α} {a : α} {m : List Int} (h : Bk rd a m) (x : Int) (pre post : List Int) : rd (pre ++ (x :: (m ++ post))) (pre.length + 1) = .ok (a, pre.length + 1 + m.length) := by
  have := h (pre ++ [x]) post
  simpa using this
theorem comp_ls : Ls (fun c => (mean c).1 = 6) compR compW := by
  intro l p t q hp hl h
  obtain ⟨hlt, h⟩ := at_byte h
  split at h
  · cases h
  · rename_i h6
    have h6' : (mean (l.getD p 0)).1 = 6 := by omega
    split at h
    · cases hx : valsR l (p + 1) with
      | error e => rw [hx] at h; cases h
      | ok y =>
        obtain ⟨ps, q1⟩ := y
        rw [hx] at h
        simp only [thenR] at h
        obtain ⟨rs, hr, rfl⟩ := mapR_ok h
        have a1 := (vals_adv l (p + 1) (by omega)).1 ps q1 hx
        have a2 := (vals_adv l q1 a1.2).1 rs q hr
        obtain ⟨c, r, h1, h2, h3, h4, h5⟩ := vals_ls l (p + 1) ps q1 (by omega) hl hx
        obtain ⟨c', r', h1', h2', h3', h4', h5'⟩ := vals_ls l q1 rs q a1.2 hl hr
        refine ⟨96, c :: r ++ c' :: r', ?_, by decide, by simp; omega, By.app (By.one (by omega)) (By.app h4 h4'), fun pre post => ?_⟩
        · rw [compW, if_pos (by simp [wholeC]), if_pos rfl]
          simp only [h1, h1', thenW]
          rfl
        · have e1 := h5.after 96 pre (c' :: r' ++ post)
          have e2 := h5' (pre ++ (96 :: (c :: r))) post
          have el : pre ++ (96 :: (c :: r ++ c' :: r') ++ post) = pre ++ (96 :: (c :: r ++ (c' :: r' ++ post))) := by simp
          have el2 : pre ++ (96 :: (c :: r)) ++ (c' :: r' ++ post) = pre ++ (96 :: (c :: r ++ (c' :: r' ++ post))) := by simp
          rw [el2] at e2
          rw [el, compR, at_mid, if_neg (by decide), if_pos (by decide), e1]
          simp only [thenR]
          have e3 : pre.length + 1 + (c :: r).length = (pre ++ (96 :: (c :: r))).length := by simp; omega
          rw [e3, e2]
          simp [mapR]
          omega
    · rename_i hk1
      split at h
      · obtain ⟨fs, hf, rfl⟩ := mapR_ok h
        have a1 := (list_adv 10000 l (field_adv l) (p + 1) (by omega)).1 fs q hf
        obtain ⟨c, r, h1, h2, h3, h4, h5⟩ := fields_ls l (p + 1) fs q (by omega) hl hf
        refine ⟨95, c :: r, ?_, by decide, by simp; omega, By.app (By.one (by omega)) h4, fun pre post => ?_⟩
        · rw [compW, if_pos (by simp [wholeC]), if_neg (by simp), if_pos rfl]
          simp only [h1, thenW]
          rfl
        · have e1 := h5.after 95 pre post
          rw [List.cons_append, compR, at_mid, if_neg (by decide), if_neg (by decide), if_pos (by decide), e1]
          simp [mapR]
          omega
      · obtain ⟨f, hf, rfl⟩ := mapR_ok h
        have a1 := (field_adv l (p + 1) (by omega)).1 f q hf
        obtain ⟨c, r, h1, h2, h3, h4, h5⟩ := field_ls l (p + 1) f q (by omega) hl hf
        refine ⟨94, c :: r, ?_, by decide, by simp; omega, By.app (By.one (by omega)) h4, fun pre post => ?_⟩
        · rw [compW, if_pos (by simp [wholeC]), if_neg (by simp), if_neg (by simp)]
          simp only [List.headD_cons, h1, thenW]
          rfl
        · have e1 := h5.after 94 pre post
          rw [List.cons_append, compR, at_mid, if_neg (by decide), if_neg (by decide), if_neg (by decide), e1]
          simp [mapR]
          omega
theorem mean79 {c : Int} (h : (mean c).1 = 6) : ¬ (c = 80 ∨ c = 79) ∧ c ≠ 78 := by
  obtain ⟨j, rfl⟩ := kind_in (by decide) h
  have := j.isLt
  omega
theorem sub_ls : Ls (fun c => c ≠ 78) subR subW := by
  intro l p t q hp hl h
  obtain ⟨hlt, h⟩ := at_byte h
  split at h
  · rename_i h78
    cases hx : listR 1000 (tyU l) l (p + 1) with
    | error e => rw [hx] at h; cases h
    | ok y =>
      obtain ⟨ss, q1⟩ := y
      rw [hx] at h
      simp only [thenR] at h
      obtain ⟨x, hr, rfl⟩ := mapR_ok h
      have a1 := (list_adv 1000 l (tyU_adv l) (p + 1) (by omega)).1 ss q1 hx
      have a2 := (comp_adv l q1 a1.2).1 x q hr
      obtain ⟨c, r, h1, h2, h3, h4, h5⟩ := sups_ls l (p + 1) ss q1 (by omega) hl hx
      obtain ⟨c', r', h1', h2', h3', h4', h5'⟩ := comp_ls l q1 x q a1.2 hl hr
      by_cases hs : decide (l.getD p 0 = 79) = false ∨ 0 < ss.length
      · have key : ∀ (k : Int), (k = 80 ∨ k = 79) → (decide (k = 79) = decide (l.getD p 0 = 79)) → Wd (fun c => c ≠ 78) subR subW ⟨decide (l.getD p 0 = 79), ss, x⟩ (q - p) := by
          intro k hk hkd
          refine ⟨k, c :: r ++ c' :: r', ?_, by omega, by simp; omega, By.app (By.one (by omega)) (By.app h4 h4'), fun pre post => ?_⟩
          · rw [subW, if_pos hs, declW]
            simp only [h1, h1', thenW]
            congr 2
            rw [← hkd]
            rcases hk with rfl | rfl <;> simp
          · have e1 := h5.after k pre (c' :: r' ++ post)
            have e2 := h5' (pre ++ (k :: (c :: r))) post
            have el : pre ++ (k :: (c :: r ++ c' :: r') ++ post) = pre ++ (k :: (c :: r ++ (c' :: r' ++ post))) := by simp
            have el2 : pre ++ (k :: (c :: r)) ++ (c' :: r' ++ post) = pre ++ (k :: (c :: r ++ (c' :: r' ++ post))) := by simp
            rw [el2] at e2
            rw [el, subR, at_mid, if_pos hk]
            simp only [e1, thenR]
            have e3 : pre.length + 1 + (c :: r).length = (pre ++ (k :: (c :: r))).length := by simp; omega
            rw [e3, e2]
            simp [mapR]
            refine ⟨by simpa using hkd, by omega⟩
        rcases h78 with e | e
        · exact key 80 (Or.inl rfl) (by rw [e])
        · exact key 79 (Or.inr rfl) (by rw [e])
      · have hd : decide (l.getD p 0 = 79) = true := by
          cases hdd : decide (l.getD p 0 = 79) with
          | true => rfl
          | false => exact absurd (Or.inl hdd) hs
        have hss : ss = [] := List.eq_nil_of_length_eq_zero (by omega)
        subst hss
        refine ⟨c', r', by rw [subW, if_neg hs, h1'], (mean79 h2').2, by omega, h4', fun pre post => ?_⟩
        have := h5' pre post
        rw [List.cons_append] at this ⊢
        rw [subR, at_mid, if_neg (mean79 h2').1, this, hd]
        rfl
  · obtain ⟨x, hr, rfl⟩ := mapR_ok h
    obtain ⟨c', r', h1', h2', h3', h4', h5'⟩ := comp_ls l p x q hp hl hr
    refine ⟨c', r', by rw [subW, if_neg (by simp), h1'], (mean79 h2').2, h3', h4', fun pre post => ?_⟩
    have := h5' pre post
    rw [List.cons_append] at this ⊢
    rw [subR, at_mid, if_neg (mean79 h2').1, this]
    rfl
theorem subs_ls : Ls (fun _ => True) (fun l p => listR 10000 (subR l) l p) (listW 10000 subW) := list_ls sub_ls sub_adv 10000 (by omega)
/- A group that is read and written again. -/
theorem rec_least {l : List Int} {p q : Nat} {g : RT} (hp : p ≤ l.length) (hl : By l) (h : recR l p = .ok (g, q)) :
    ∃ m, recW g = .ok m ∧ p + m.length ≤ q ∧ By m ∧ recR m 0 = .ok (⟨g.types, g.explicit && decide (g.types.length ≠ 1)⟩, m.length) := by
  obtain ⟨hlt, h⟩ := at_byte h
  split at h
  · obtain ⟨ts, hr, rfl⟩ := mapR_ok h
    have a1 := (list_adv 10000 l (sub_adv l) (p + 1) (by omega)).1 ts q hr
    by_cases h1 : ts.length = 1
    · obtain ⟨t, rfl⟩ := List.length_eq_one_iff.1 h1
      have hr' := hr
      simp only [listR] at hr'
      cases hx : limR (p + 1) (10000 : Int) (numR 32 false l (p + 1)) with
      | error e => rw [hx] at hr'; cases hr'
      | ok y =>
        obtain ⟨n, q1⟩ := y
        rw [hx] at hr'
        simp only [thenR] at hr'
        obtain ⟨hn, _⟩ := lim_ok hx
        have a2 := (num_adv 32 false l (p + 1) (by omega)).1 n q1 hn
        obtain ⟨ys, m, he, hy, hw, hle, hby, hbk⟩ := many_ls sub_ls l (sub_adv l) hl n.toNat [] q1 [t] q a2.2 hr'
        simp only [List.nil_append] at he
        subst he
        have hn1 : n.toNat = 1 := by simpa using hy.symm
        rw [hn1] at hr'
        simp only [manyR] at hr'
        cases hz : subR l q1 with
        | error e => rw [hz] at hr'; cases hr'
        | ok z =>
          obtain ⟨t', q2⟩ := z
          rw [hz] at hr'
          simp only [thenR, List.nil_append, Except.ok.injEq, Prod.mk.injEq, List.cons.injEq, and_true] at hr'
          obtain ⟨rfl, rfl⟩ := hr'
          obtain ⟨c, r, k1, k2, k3, k4, k5⟩ := sub_ls l q1 t' q2 a2.2 hl hz
          have a3 := (sub_adv l q1 a2.2).1 t' q2 hz
          refine ⟨c :: r, (if_pos (by simp)).trans k1, by simp; omega, k4, ?_⟩
          have := k5 [] []
          simp only [List.nil_append, List.append_nil, List.length_nil, Nat.zero_add] at this
          have hm : recR (c :: r) 0 = atR ([] ++ (c :: r)) ([] : List Int).length (fun c' => if c' = 78 then mapR (fun ts => ⟨ts, true⟩) (listR 10000 (subR (c :: r)) (c :: r) (0 + 1)) else mapR (fun t => ⟨[t], false⟩) (subR (c :: r) 0)) := rfl
          rw [hm, at_mid, if_neg k2, this]
          simp [mapR]
    · obtain ⟨c, r, k1, k2, k3, k4, k5⟩ := subs_ls l (p + 1) ts q (by omega) hl hr
      refine ⟨78 :: (c :: r), by rw [recW, if_neg h1, k1]; rfl, by simp; omega, By.app (By.one (by omega)) k4, ?_⟩
      have := k5.after 78 [] []
      simp only [List.nil_append, List.append_nil, List.length_nil, Nat.zero_add] at this
      have hm : recR (78 :: c :: r) 0 = atR ([] ++ (78 :: c :: r)) ([] : List Int).length (fun c' => if c' = 78 then mapR (fun ts => ⟨ts, true⟩) (listR 10000 (subR (78 :: c :: r)) (78 :: c :: r) (0 + 1)) else mapR (fun t => ⟨[t], false⟩) (subR (78 :: c :: r) 0)) := rfl
      rw [hm, at_mid, if_pos rfl, Nat.zero_add, this]
      simp [mapR, h1]
      omega
  · obtain ⟨t, hr, rfl⟩ := mapR_ok h
    obtain ⟨c, r, k1, k2, k3, k4, k5⟩ := sub_ls l p t q hp hl hr
    have a3 := (sub_adv l p hp).1 t q hr
    refine ⟨c :: r, (if_pos (by simp)).trans k1, by simp; omega, k4, ?_⟩
    have := k5 [] []
    simp only [List.nil_append, List.append_nil, List.length_nil, Nat.zero_add] at this
    have hm : recR (c :: r) 0 = atR ([] ++ (c :: r)) ([] : List Int).length (fun c' => if c' = 78 then mapR (fun ts => ⟨ts, true⟩) (listR 10000 (subR (c :: r)) (c :: r) (0 + 1)) else mapR (fun t => ⟨[t], false⟩) (subR (c :: r) 0)) := rfl
    rw [hm, at_mid, if_neg k2, this]
    simp [mapR]
end Go.Proofs.YtchehejjdinifaaGreatDoor

namespace Go.Proofs.YtchehejjdinifaaGreatDoor
open Go.RowKit
set_option linter.unusedVariables false
set_option linter.unusedSimpArgs false

def Wb {α : Type} (P : Int → Prop) (rd : List Int → Nat → RS α) (wr : α → Except Nat (List Int)) : Prop :=
  ∀ (a : α) (m : List Int), wr a = .ok m → ∃ c r, m = c :: r ∧ P c ∧ By m ∧ Bk rd a m
theorem Bk.seq {α β γ : Type} {rd : List Int → Nat → RS α} {rd2 : List Int → Nat → RS β} {f : α → β → γ} {a : α} {b : β} {m n : List Int} (h : Bk rd a m) (k : Bk rd2 b n) :
    Bk (fun l p => thenR (rd l p) fun x q => mapR (f x) (rd2 l q)) (f a b) (m ++ n) := by
  intro pre post
  have e1 := h pre (n ++ post)
  have e2 := k (pre ++ m) post
  simp only
  rw [List.append_assoc m n post, e1]
  simp only [thenR]
  rw [← List.length_append, ← List.append_assoc pre m, e2]
  simp [mapR, Nat.add_assoc]
theorem Bk.seq2 {α β : Type} {rd : List Int → Nat → RS α} {rd2 : List Int → Nat → RS β} {a : α} {b : β} {m n : List Int} (h : Bk rd a m) (k : Bk rd2 b n) :
    Bk (fun l p => thenR (rd l p) fun x q => rd2 l q) b (m ++ n) := by
  intro pre post
  have e1 := h pre (n ++ post)
  have e2 := k (pre ++ m) post
  simp only
  rw [List.append_assoc m n post, e1]
  simp only [thenR]
  rw [← List.length_append, ← List.append_assoc pre m, e2]
  simp [Nat.add_assoc]
theorem Bk.map {α β : Type} {rd : List Int → Nat → RS α} {f : α → β} {a : α} {m : List Int} (h : Bk rd a m) : Bk (fun l p => mapR f (rd l p)) (f a) m := by
  intro pre post
  simp only
  rw [h pre post]
  rfl
theorem Bk.at {α : Type} {rd : List Int → Nat → RS α} {k : List Int → Nat → Int → RS α} {a : α} {c : Int} {m : List Int} (hc : ∀ l p, k l p c = rd l (p + 1)) (h : Bk rd a m) : Bk (fun l p => atR l p (k l p)) a (c :: m) := by
  intro pre post
  simp only
  rw [List.cons_append, at_mid, hc, h.after c pre post]
  simp
  omega
theorem Bk.hd {α : Type} {rd : List Int → Nat → RS α} {k : List Int → Nat → Int → RS α} {a : α} {c : Int} {r : List Int} (hc : ∀ l p, k l p c = rd l p) (h : Bk rd a (c :: r)) : Bk (fun l p => atR l p (k l p)) a (c :: r) := by
  intro pre post
  have := h pre post
  simp only
  rw [List.cons_append] at this ⊢
  rw [at_mid, hc, this]
theorem Bk.one {α : Type} {k : List Int → Nat → Int → RS α} {a : α} {c : Int} (hc : ∀ l p, k l p c = .ok (a, p + 1)) : Bk (fun l p => atR l p (k l p)) a [c] := by
  intro pre post
  simp only
  rw [List.cons_append, at_mid, hc]
  simp
theorem thenW_is {a b : Except Nat (List Int)} {m : List Int} (h : thenW a b = .ok m) : ∃ x y, a = .ok x ∧ b = .ok y ∧ m = x ++ y := by
  cases a with
  | error e => cases h
  | ok x =>
    cases b with
    | error e => cases h
    | ok y =>
      refine ⟨x, y, rfl, rfl, ?_⟩
      simp only [thenW, Except.ok.injEq] at h
      exact h.symm
theorem codes_all : ∀ x ∈ codeL, mean x.1 = x.2 ∧ 0 ≤ x.1 ∧ x.1 ≤ 255 := by decide +kernel
theorem findW_is {k n c : Int} : ∀ (L : List (Int × Int × Int)), (∀ x ∈ L, mean x.1 = x.2 ∧ 0 ≤ x.1 ∧ x.1 ≤ 255) → findW k n L = some c → mean c = (k, n) ∧ 0 ≤ c ∧ c ≤ 255
  | [], _, h => by simp [findW] at h
  | x :: r, hL, h => by
    rw [findW] at h
    split at h
    · rename_i hx
      simp only [Option.some.injEq] at h
      obtain ⟨h1, h2, h3⟩ := hL x (by simp)
      subst h
      refine ⟨?_, h2, h3⟩
      rw [h1]
      obtain ⟨a, b, d⟩ := x
      simp only at hx ⊢
      rw [hx.1, hx.2]
    · exact findW_is r (fun y hy => hL y (by simp [hy])) h
theorem codeR_is {k n : Int} {m : List Int} (h : codeR k n = .ok m) : ∃ c, m = [c] ∧ mean c = (k, n) ∧ 0 ≤ c ∧ c ≤ 255 := by
  unfold codeR at h
  split at h
  · rename_i c hc
    simp only [Except.ok.injEq] at h
    exact ⟨c, h.symm, findW_is codeL codes_all hc⟩
  · cases h
theorem tyU_wb : Wb (fun _ => True) tyU uidxW := by
  intro n m h
  unfold uidxW at h
  split at h
  · rename_i hn
    simp only [Except.ok.injEq] at h
    subst h
    obtain ⟨c, r, hc⟩ := PU_cons n
    refine ⟨c, r, hc, trivial, PU_by hn.1 (by omega), fun pre post => ?_⟩
    rw [tyU, num32_back hn.1 (by omega) pre post, limR, if_neg (by omega)]
  · cases h
theorem tyS_wb : Wb (fun c => c < 64 ∨ 128 ≤ c) tyS sidxW := by
  intro n m h
  unfold sidxW at h
  split at h
  · rename_i hn
    simp only [Except.ok.injEq] at h
    subst h
    obtain ⟨c, r, hc, _, hc2⟩ := PS_head n hn.1
    exact ⟨c, r, hc, hc2, PS_by n, tyS_back hn.1 hn.2⟩
  · cases h
theorem heap_wb : Wb (fun c => (mean c).1 = 4 ∨ (mean c).1 = 0) heapR heapW := by
  intro n m h
  unfold heapW at h
  split at h
  · obtain ⟨c, r, rfl, h2, h3, h4⟩ := tyS_wb n m h
    refine ⟨c, r, rfl, Or.inr (by rw [mean_big h2]), h3, ?_⟩
    exact Bk.hd (k := fun l p c => if (mean c).1 = 4 then .ok ((mean c).2, p + 1) else tyS l p) (fun l p => if_neg (by rw [mean_big h2]; simp)) h4
  · obtain ⟨c, rfl, hm, h0, h1⟩ := codeR_is h
    refine ⟨c, [], rfl, Or.inl (by rw [hm]), By.one ⟨h0, h1⟩, ?_⟩
    exact Bk.one (k := fun l p c => if (mean c).1 = 4 then .ok ((mean c).2, p + 1) else tyS l p) (fun l p => by simp [hm])
theorem ref_wb : Wb (fun c => (mean c).1 = 4 ∨ (mean c).1 = 5) refR refW := by
  intro t m h
  obtain ⟨tn, tb, th⟩ := t
  unfold refW at h
  simp only at h
  split at h
  · rename_i h5
    subst h5
    obtain ⟨x, y, hx, hy, rfl⟩ := thenW_is h
    obtain ⟨c', r', rfl, h2, h3, h4⟩ := heap_wb th y hy
    split at hx
    · rename_i hb
      subst hb
      obtain ⟨c, rfl, hm, h0, h1⟩ := codeR_is hx
      refine ⟨c, c' :: r', rfl, Or.inr (by rw [hm]), By.app (By.one ⟨h0, h1⟩) h3, ?_⟩
      exact Bk.at (rd := fun l p => mapR (fun h => (⟨5, false, h⟩ : VT)) (heapR l p)) (fun l p => by simp [hm]) (Bk.map h4)
    · rename_i hb
      have hb' : tb = true := by cases tb <;> simp_all
      subst hb'
      split at hx
      · obtain ⟨c, rfl, hm, h0, h1⟩ := codeR_is hx
        refine ⟨c, c' :: r', rfl, Or.inr (by rw [hm]), By.app (By.one ⟨h0, h1⟩) h3, ?_⟩
        exact Bk.at (rd := fun l p => mapR (fun h => (⟨5, true, h⟩ : VT)) (heapR l p)) (fun l p => by simp [hm]) (Bk.map h4)
      · rename_i hneg
        simp only [Except.ok.injEq] at hx
        subst hx
        unfold heapW at hy
        rw [if_neg hneg] at hy
        obtain ⟨c, hc, hm, h0, h1⟩ := codeR_is hy
        obtain ⟨rfl, rfl⟩ := List.cons.inj hc
        refine ⟨c', [], rfl, Or.inl (by rw [hm]), h3, ?_⟩
        exact Bk.one (fun l p => by simp [hm])
  · cases h
theorem plain_is {k : Int} {t : VT} {m : List Int} (h : plainW k t = .ok m) : ∃ c, m = [c] ∧ mean c = (k, t.num) ∧ 0 ≤ c ∧ c ≤ 255 ∧ t = ⟨t.num, false, 0⟩ := by
  unfold plainW at h
  split at h
  · rename_i hz
    obtain ⟨c, h1, h2, h3, h4⟩ := codeR_is h
    refine ⟨c, h1, h2, h3, h4, ?_⟩
    obtain ⟨a, b, d⟩ := t
    simp only at hz ⊢
    rw [hz.1, hz.2]
  · cases h
theorem val_wb : Wb (fun c => (mean c).1 = 1 ∨ (mean c).1 = 4 ∨ (mean c).1 = 5) valR valW := by
  intro t m h
  unfold valW at h
  split at h
  · obtain ⟨c, r, rfl, h2, h3, h4⟩ := ref_wb t m h
    refine ⟨c, r, rfl, Or.inr h2, h3, ?_⟩
    exact Bk.hd (k := fun l p c => if (mean c).1 = 2 then .error (p, 8) else if (mean c).1 = 1 then .ok (⟨(mean c).2, false, 0⟩, p + 1) else refR l p) (fun l p => by rw [if_neg (by omega), if_neg (by omega)]) h4
  · obtain ⟨c, rfl, hm, h0, h1, ht⟩ := plain_is h
    refine ⟨c, [], rfl, Or.inl (by rw [hm]), By.one ⟨h0, h1⟩, ?_⟩
    rw [ht]
    exact Bk.one (fun l p => by simp [hm])
theorem stor_wb : Wb (fun c => (mean c).1 = 3 ∨ (mean c).1 = 1 ∨ (mean c).1 = 4 ∨ (mean c).1 = 5) storR storW := by
  intro t m h
  unfold storW at h
  split at h
  · obtain ⟨c, rfl, hm, h0, h1, ht⟩ := plain_is h
    refine ⟨c, [], rfl, Or.inl (by rw [hm]), By.one ⟨h0, h1⟩, ?_⟩
    rw [ht]
    exact Bk.one (fun l p => by simp [hm])
  · obtain ⟨c, r, rfl, h2, h3, h4⟩ := val_wb t m h
    refine ⟨c, r, rfl, Or.inr h2, h3, ?_⟩
    exact Bk.hd (k := fun l p c => if (mean c).1 = 3 then .ok (⟨(mean c).2, false, 0⟩, p + 1) else valR l p) (fun l p => by rw [if_neg (by omega)]) h4
theorem flagB_by (x : Bool) : By (flagB x) := by unfold flagB; split <;> exact By.one (by omega)
theorem field_wb : Wb (fun _ => True) fieldR fieldW := by
  intro f m h
  unfold fieldW at h
  obtain ⟨x, y, hx, hy, rfl⟩ := thenW_is h
  simp only [Except.ok.injEq] at hy
  subst hy
  obtain ⟨c, r, rfl, h2, h3, h4⟩ := stor_wb _ _ hx
  exact ⟨c, r ++ flagB f.mut_, rfl, trivial, By.app h3 (flagB_by _), Bk.seq (f := fun v m => (⟨v, m⟩ : FT)) h4 (flag_back f.mut_)⟩
theorem many_wb {α : Type} {P : Int → Prop} {rd : List Int → Nat → RS α} {wr : α → Except Nat (List Int)} (H : Wb P rd wr) :
    ∀ (xs : List α) (m : List Int), manyW wr xs = .ok m → By m ∧ ∀ pre post acc, manyR (rd (pre ++ (m ++ post))) xs.length acc pre.length = .ok (acc ++ xs, pre.length + m.length)
  | [], m, h => by
    simp only [manyW, Except.ok.injEq] at h
    subst h
    exact ⟨fun c hc => (by cases hc), fun pre post acc => by simp [manyR]⟩
  | x :: xs, m, h => by
    rw [manyW] at h
    obtain ⟨u, v, hu, hv, rfl⟩ := thenW_is h
    obtain ⟨c, r, rfl, h2, h3, h4⟩ := H x u hu
    obtain ⟨k1, k2⟩ := many_wb H xs v hv
    refine ⟨By.app h3 k1, fun pre post acc => ?_⟩
    have e1 := h4 pre (v ++ post)
    have e2 := k2 (pre ++ (c :: r)) post (acc ++ [x])
    rw [List.append_assoc (c :: r) v post, List.length_cons, manyR, e1]
    simp only [thenR]
    rw [← List.length_append, ← List.append_assoc pre (c :: r), e2]
    simp [Nat.add_assoc]
    omega
theorem list_wb {α : Type} {P : Int → Prop} {rd : List Int → Nat → RS α} {wr : α → Except Nat (List Int)} (H : Wb P rd wr) (lim : Nat) (hlim : lim ≤ 100000) :
    Wb (fun _ => True) (fun l p => listR (lim : Int) (rd l) l p) (listW lim wr) := by
  intro xs m h
  unfold listW at h
  split at h
  · cases h
  · rename_i hl
    obtain ⟨u, v, hu, hv, rfl⟩ := thenW_is h
    simp only [Except.ok.injEq] at hu
    subst hu
    obtain ⟨k1, k2⟩ := many_wb H xs v hv
    obtain ⟨c, r, hc⟩ := PU_cons (xs.length : Int)
    refine ⟨c, r ++ v, by rw [hc]; rfl, trivial, By.app (PU_by (by omega) (by omega)) k1, fun pre post => ?_⟩
    have e1 := num32_back (n := (xs.length : Int)) (by omega) (by omega) pre (v ++ post)
    have e2 := k2 (pre ++ PU xs.length) post []
    simp only [listR]
    rw [List.append_assoc (PU _) v post, e1, limR, if_neg (by omega)]
    simp only [thenR]
    rw [← List.length_append, ← List.append_assoc pre (PU _), Int.toNat_natCast, e2]
    simp [Nat.add_assoc]
theorem vals_wb : Wb (fun _ => True) valsR (listW 1000 valW) := list_wb val_wb 1000 (by omega)
theorem fields_wb : Wb (fun _ => True) (fun l p => listR 10000 (fieldR l) l p) (listW 10000 fieldW) := list_wb field_wb 10000 (by omega)
theorem sups_wb : Wb (fun _ => True) (fun l p => listR 1000 (tyU l) l p) (listW 1000 uidxW) := list_wb tyU_wb 1000 (by omega)
theorem comp_wb : Wb (fun c => (mean c).1 = 6) compR compW := by
  intro t m h
  obtain ⟨k, ps, rs, fs⟩ := t
  unfold compW at h
  simp only at h
  split at h
  · rename_i hw
    unfold wholeC at hw
    simp only at hw
    split at h
    · rename_i h1
      subst h1
      simp only [if_true, decide_eq_true_eq] at hw
      subst hw
      obtain ⟨x, y, hx, hy, rfl⟩ := thenW_is h
      simp only [Except.ok.injEq] at hx
      subst hx
      obtain ⟨u, v, hu, hv, rfl⟩ := thenW_is hy
      obtain ⟨c, r, rfl, a2, a3, a4⟩ := vals_wb _ _ hu
      obtain ⟨c', r', rfl, b2, b3, b4⟩ := vals_wb _ _ hv
      refine ⟨96, (c :: r) ++ (c' :: r'), rfl, by decide, By.app (By.one (by omega)) (By.app a3 b3), ?_⟩
      show Bk compR _ (96 :: ((c :: r) ++ (c' :: r')))
      refine Bk.at (rd := fun l p => thenR (valsR l p) fun ps q => mapR (fun rs => (⟨1, ps, rs, []⟩ : CT)) (valsR l q)) (fun l p => ?_) (Bk.seq (f := fun ps rs => (⟨1, ps, rs, []⟩ : CT)) a4 b4)
      rw [if_neg (by decide), if_pos (by decide)]
    · rename_i h1
      rw [if_neg h1] at hw
      split at h
      · rename_i h2
        subst h2
        simp only [if_true, decide_eq_true_eq] at hw
        obtain ⟨rfl, rfl⟩ := hw
        obtain ⟨x, y, hx, hy, rfl⟩ := thenW_is h
        simp only [Except.ok.injEq] at hx
        subst hx
        obtain ⟨c, r, rfl, a2, a3, a4⟩ := fields_wb _ _ hy
        refine ⟨95, c :: r, rfl, by decide, By.app (By.one (by omega)) a3, ?_⟩
        show Bk compR _ (95 :: (c :: r))
        refine Bk.at (rd := fun l p => mapR (fun fs => (⟨2, [], [], fs⟩ : CT)) (listR 10000 (fieldR l) l p)) (fun l p => ?_) (Bk.map a4)
        rw [if_neg (by decide), if_neg (by decide), if_pos (by decide)]
      · rename_i h2
        rw [if_neg h2] at hw
        split at hw
        · rename_i h3
          subst h3
          simp only [decide_eq_true_eq] at hw
          obtain ⟨rfl, rfl, hl⟩ := hw
          obtain ⟨f, rfl⟩ := List.length_eq_one_iff.1 hl
          obtain ⟨x, y, hx, hy, rfl⟩ := thenW_is h
          simp only [Except.ok.injEq] at hx
          subst hx
          simp only [List.headD_cons] at hy
          obtain ⟨c, r, rfl, a2, a3, a4⟩ := field_wb _ _ hy
          refine ⟨94, c :: r, rfl, by decide, By.app (By.one (by omega)) a3, ?_⟩
          show Bk compR _ (94 :: (c :: r))
          refine Bk.at (rd := fun l p => mapR (fun f => (⟨3, [], [], [f]⟩ : CT)) (fieldR l p)) (fun l p => ?_) (Bk.map a4)
          rw [if_neg (by decide), if_neg (by decide), if_neg (by decide)]
        · cases hw
  · cases h
theorem sub_wb : Wb (fun c => c ≠ 78) subR subW := by
  intro t m h
  obtain ⟨fi, ss, co⟩ := t
  unfold subW declW at h
  simp only at h
  split at h
  · obtain ⟨x, y, hx, hy, rfl⟩ := thenW_is h
    obtain ⟨u, v, hu, hv, rfl⟩ := thenW_is hx
    simp only [Except.ok.injEq] at hu
    subst hu
    obtain ⟨c, r, rfl, a2, a3, a4⟩ := sups_wb _ _ hv
    obtain ⟨c', r', rfl, b2, b3, b4⟩ := comp_wb _ _ hy
    cases fi with
    | true =>
      refine ⟨79, (c :: r) ++ (c' :: r'), by simp, by decide, By.app (By.app (By.one (by simp)) a3) b3, ?_⟩
      rw [show ([if (true : Bool) = true then (79 : Int) else 80] ++ (c :: r)) ++ (c' :: r') = 79 :: ((c :: r) ++ (c' :: r')) by simp]
      have := Bk.at (k := fun l p c => if c = 80 ∨ c = 79 then thenR (listR 1000 (tyU l) l (p + 1)) fun ss q => mapR (fun t => (⟨decide (c = 79), ss, t⟩ : SB)) (compR l q) else mapR (fun t => ⟨true, [], t⟩) (compR l p)) (c := 79) (rd := fun l p => thenR (listR 1000 (tyU l) l p) fun ss q => mapR (fun t => (⟨true, ss, t⟩ : SB)) (compR l q)) (fun l p => by simp) (Bk.seq (f := fun ss t => (⟨true, ss, t⟩ : SB)) a4 b4)
      exact this
    | false =>
      refine ⟨80, (c :: r) ++ (c' :: r'), by simp, by decide, By.app (By.app (By.one (by simp)) a3) b3, ?_⟩
      rw [show ([if (false : Bool) = true then (79 : Int) else 80] ++ (c :: r)) ++ (c' :: r') = 80 :: ((c :: r) ++ (c' :: r')) by simp]
      have := Bk.at (k := fun l p c => if c = 80 ∨ c = 79 then thenR (listR 1000 (tyU l) l (p + 1)) fun ss q => mapR (fun t => (⟨decide (c = 79), ss, t⟩ : SB)) (compR l q) else mapR (fun t => ⟨true, [], t⟩) (compR l p)) (c := 80) (rd := fun l p => thenR (listR 1000 (tyU l) l p) fun ss q => mapR (fun t => (⟨false, ss, t⟩ : SB)) (compR l q)) (fun l p => by simp) (Bk.seq (f := fun ss t => (⟨false, ss, t⟩ : SB)) a4 b4)
      exact this
  · rename_i hs
    have hfi : fi = true := by cases fi <;> simp_all
    have hss : ss = [] := by
      apply List.eq_nil_of_length_eq_zero
      omega
    subst hfi
    subst hss
    obtain ⟨c', r', rfl, b2, b3, b4⟩ := comp_wb _ _ h
    refine ⟨c', r', rfl, (mean79 b2).2, b3, ?_⟩
    exact Bk.hd (k := fun l p c => if c = 80 ∨ c = 79 then thenR (listR 1000 (tyU l) l (p + 1)) fun ss q => mapR (fun t => (⟨decide (c = 79), ss, t⟩ : SB)) (compR l q) else mapR (fun t => ⟨true, [], t⟩) (compR l p)) (rd := fun l p => mapR (fun t => (⟨true, [], t⟩ : SB)) (compR l p)) (fun l p => by rw [if_neg (mean79 b2).1]) (Bk.map b4)
/- A group that can be written is read back, told by a number where it has not just one type. -/
theorem rec_back {g : RT} {m : List Int} (h : recW g = .ok m) : By m ∧ Bk recR ⟨g.types, decide (g.types.length ≠ 1)⟩ m := by
  obtain ⟨ts, ex⟩ := g
  unfold recW at h
  simp only at h ⊢
  split at h
  · rename_i h1
    obtain ⟨t, rfl⟩ := List.length_eq_one_iff.1 h1
    simp only [List.headD_cons] at h
    obtain ⟨c, r, rfl, a2, a3, a4⟩ := sub_wb _ _ h
    refine ⟨a3, ?_⟩
    have := Bk.hd (k := fun l p c => if c = 78 then mapR (fun ts => (⟨ts, true⟩ : RT)) (listR 10000 (subR l) l (p + 1)) else mapR (fun t => ⟨[t], false⟩) (subR l p)) (rd := fun l p => mapR (fun t => (⟨[t], false⟩ : RT)) (subR l p)) (fun l p => by rw [if_neg a2]) (Bk.map a4)
    rw [show decide ([t].length ≠ 1) = false by simp]
    exact this
  · rename_i h1
    obtain ⟨x, y, hx, hy, rfl⟩ := thenW_is h
    simp only [Except.ok.injEq] at hx
    subst hx
    obtain ⟨c, r, rfl, a2, a3, a4⟩ := list_wb sub_wb 10000 (by omega) _ _ hy
    refine ⟨By.app (By.one (by omega)) a3, ?_⟩
    have := Bk.at (k := fun l p c => if c = 78 then mapR (fun ts => (⟨ts, true⟩ : RT)) (listR 10000 (subR l) l (p + 1)) else mapR (fun t => ⟨[t], false⟩) (subR l p)) (c := 78) (rd := fun l p => mapR (fun ts => (⟨ts, true⟩ : RT)) (listR 10000 (subR l) l p)) (fun l p => by simp) (Bk.map a4)
    rw [decide_eq_true h1]
    exact this
end Go.Proofs.YtchehejjdinifaaGreatDoor
