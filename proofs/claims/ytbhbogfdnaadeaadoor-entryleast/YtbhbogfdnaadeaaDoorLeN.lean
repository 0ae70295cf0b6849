/-
  Plain mathematics: numbers that are read are written in at most as many bytes, and read back between any bytes; nothing of the program.
-/
import Derived.Test.YtbhbogfdnaadeaaDoorWr8
namespace Go.Proofs.YtbhbogfdnaadeaaDoor
set_option linter.unusedVariables false
set_option linter.unusedSimpArgs false

theorem addAt_is {A X : Int} {i : Nat} (hA0 : 0 ≤ A) (hi : i ≤ 4) (h0 : 0 ≤ X) (c : Int) (hc : c % 128 = X) : addAt A c i = A + X * 2 ^ (7 * i) := by
  unfold addAt
  rw [hc]
  have hX : X < 128 := by omega
  have h4 : i = 0 ∨ i = 1 ∨ i = 2 ∨ i = 3 ∨ i = 4 := by omega
  rcases h4 with rfl | rfl | rfl | rfl | rfl <;> simp <;> omega
theorem scan32 (d : Nat) : ∀ (i : Nat) (X A : Int) (r : List Int), i + d = 4 → 0 ≤ X → X < 2 ^ (32 - 7 * i) → 0 ≤ A →
    scan 4 (okB 4 false) false (putU (10 - i) X ++ r) i A = (A + X * 2 ^ (7 * i), ((i + (putU (10 - i) X).length : Nat) : Int), 0) := by
  induction d with
  | zero =>
    intro i X A r hi h0 hX hA
    obtain rfl : i = 4 := by omega
    have hX' : X < 16 := by simpa using hX
    rw [show 10 - 4 = 5 + 1 from rfl, putU, if_neg (by omega)]
    simp only [List.cons_append, List.nil_append, scan]
    have ho : okB 4 false X = true := by unfold okB; simp; omega
    rw [if_neg (by rw [ho]; simp), if_pos (by omega), addAt_is hA (by omega) h0 X (by omega)]
    simp [ws]
  | succ d ih =>
    intro i X A r hi h0 hX hA
    obtain ⟨g, hg⟩ : ∃ g, 10 - i = g + 1 := ⟨9 - i, by omega⟩
    have hg' : 10 - (i + 1) = g := by omega
    rw [hg, putU]
    by_cases h : 128 ≤ X
    · rw [if_pos h]
      simp only [List.cons_append, scan]
      rw [if_neg (by omega), if_neg (by omega), addAt_is hA (by omega) (X := X % 128) (by omega) _ (by omega)]
      have hp : (0 : Int) < 2 ^ (7 * i) := pow_pos7 i
      have hX2 : X / 128 < 2 ^ (32 - 7 * (i + 1)) := by
        have e : (2 : Int) ^ (32 - 7 * i) = 2 ^ (32 - 7 * (i + 1)) * 128 := by
          rw [show 32 - 7 * i = (32 - 7 * (i + 1)) + 7 from by omega, Int.pow_add]; rfl
        rw [e] at hX
        omega
      have hm : 0 ≤ X % 128 * 2 ^ (7 * i) := Int.mul_nonneg (by omega) (by omega)
      have := ih (i + 1) (X / 128) (A + X % 128 * 2 ^ (7 * i)) r (by omega) (by omega) hX2 (by omega)
      rw [hg'] at this
      rw [this]
      have e2 : X = X / 128 * 128 + X % 128 := by omega
      have e3 : X * 2 ^ (7 * i) = X / 128 * (2 ^ (7 * i) * 128) + X % 128 * 2 ^ (7 * i) := by
        conv => lhs; rw [e2]
        rw [Int.add_mul, Int.mul_assoc, Int.mul_comm 128 (2 ^ (7 * i))]
      rw [pow7 i, e3]
      simp only [List.length_cons, Prod.mk.injEq]
      refine ⟨by omega, by omega, trivial⟩
    · rw [if_neg h]
      simp only [List.cons_append, List.nil_append, scan]
      rw [if_neg (by omega), if_pos (by omega), addAt_is hA (by omega) h0 X (by omega)]
      simp [ws]
/- A number of 33 bits that is not below 0, signed. -/
theorem ws_low {A X : Int} {i : Nat} (hi : i ≤ 4) (hA0 : 0 ≤ A) (hA : A < 2 ^ (7 * i)) (h0 : 0 ≤ X) (hX : X < 64) : ws (A + X * 2 ^ (7 * i)) (7 * i + 7) true = A + X * 2 ^ (7 * i) := by
  unfold ws
  rw [if_neg]
  rintro ⟨_, h, _⟩
  revert h
  have h4 : i = 0 ∨ i = 1 ∨ i = 2 ∨ i = 3 ∨ i = 4 := by omega
  rcases h4 with rfl | rfl | rfl | rfl | rfl <;> simp at hA ⊢ <;> omega
theorem scanS31 (d : Nat) : ∀ (i : Nat) (X A : Int) (r : List Int), i + d = 4 → 0 ≤ X → X < 2 ^ (31 - 7 * i) → 0 ≤ A → A < 2 ^ (7 * i) →
    scan 4 (okB 5 true) true (putS (10 - i) X ++ r) i A = (A + X * 2 ^ (7 * i), ((i + (putS (10 - i) X).length : Nat) : Int), 0) := by
  induction d with
  | zero =>
    intro i X A r hi h0 hX hA hA2
    obtain rfl : i = 4 := by omega
    have hX' : X < 8 := by simpa using hX
    rw [show 10 - 4 = 5 + 1 from rfl, putS, if_neg (by omega)]
    simp only [List.cons_append, List.nil_append, scan]
    have e8 : X % 128 = X := by omega
    rw [e8]
    have ho : okB 5 true X = true := by unfold okB; simp; omega
    rw [if_neg (by rw [ho]; simp), if_pos (by omega), addAt_is hA (by omega) h0 X (by omega), ws_low (by omega) hA hA2 h0 (by omega)]
    simp
  | succ d ih =>
    intro i X A r hi h0 hX hA hA2
    obtain ⟨g, hg⟩ : ∃ g, 10 - i = g + 1 := ⟨9 - i, by omega⟩
    have hg' : 10 - (i + 1) = g := by omega
    rw [hg, putS]
    by_cases h : 64 ≤ X
    · rw [if_pos (Or.inr h)]
      simp only [List.cons_append, scan]
      have hp : (0 : Int) < 2 ^ (7 * i) := pow_pos7 i
      have hlt : addAt A (X % 128 + 128) i < 2 ^ (7 * (i + 1)) := addAt_hi hA2 (by omega)
      rw [if_neg (by omega), if_neg (by omega)]
      rw [addAt_is hA (by omega) (X := X % 128) (by omega) _ (by omega)] at hlt ⊢
      have hX2 : X / 128 < 2 ^ (31 - 7 * (i + 1)) := by
        have e : (2 : Int) ^ (31 - 7 * i) = 2 ^ (31 - 7 * (i + 1)) * 128 := by
          rw [show 31 - 7 * i = (31 - 7 * (i + 1)) + 7 from by omega, Int.pow_add]; rfl
        rw [e] at hX
        omega
      have hm : 0 ≤ X % 128 * 2 ^ (7 * i) := Int.mul_nonneg (by omega) (by omega)
      have := ih (i + 1) (X / 128) (A + X % 128 * 2 ^ (7 * i)) r (by omega) (by omega) hX2 (by omega) hlt
      rw [hg'] at this
      rw [this]
      have e2 : X = X / 128 * 128 + X % 128 := by omega
      have e3 : X * 2 ^ (7 * i) = X / 128 * (2 ^ (7 * i) * 128) + X % 128 * 2 ^ (7 * i) := by
        conv => lhs; rw [e2]
        rw [Int.add_mul, Int.mul_assoc, Int.mul_comm 128 (2 ^ (7 * i))]
      rw [pow7 i, e3]
      simp only [List.length_cons, Prod.mk.injEq]
      refine ⟨by omega, by omega, trivial⟩
    · rw [if_neg (by omega)]
      simp only [List.cons_append, List.nil_append, scan]
      have e8 : X % 128 = X := by omega
      rw [e8, if_neg (by omega), if_pos (by omega), addAt_is hA (by omega) h0 X (by omega), ws_low (by omega) hA hA2 h0 (by omega)]
      simp
theorem seg_mid (f u r : List Int) : seg (f ++ (u ++ r)) f.length (f ++ (u ++ r)).length = u ++ r := by
  unfold seg; rw [List.take_length, List.drop_left' rfl]
/- What was read, by its bits. -/
theorem scan_val (ok : Int → Bool) (hok : ∀ c, ok c = true → c < 128) (sg : Bool) : ∀ (x : List Int) (i : Nat) (A n q : Int), i ≤ 4 → 0 ≤ A → A < 2 ^ (7 * i) → scan 4 ok sg x i A = (n, q, 0) →
    ∃ (V : Int) (k : Nat), q = (k : Int) ∧ i < k ∧ k ≤ 5 ∧ 0 ≤ V ∧ V < 2 ^ (7 * k) ∧ n = ws V (7 * k) sg := by
  intro x
  induction x with
  | nil => intro i A n q _ _ _ h; simp [scan] at h
  | cons c r ih =>
    intro i A n q hi hA hA2 h
    rw [scan] at h
    split at h
    · simp at h
    · rename_i h1
      split at h
      · simp only [Prod.mk.injEq, and_true] at h
        exact ⟨addAt A c i, i + 1, by omega, by omega, by omega, addAt_lo i hA, addAt_hi hA2 (by omega), by rw [← h.1]; rfl⟩
      · rename_i h2
        have hi4 : i < 4 := by
          rcases Nat.lt_or_ge i 4 with h | h
          · exact h
          · exfalso
            obtain rfl : i = 4 := by omega
            by_cases ho : ok c = true
            · have := hok c ho; omega
            · exact h1 ⟨rfl, by simpa using ho⟩
        obtain ⟨V, k, hq, hk, hk5, hV, hV2, hn⟩ := ih (i + 1) (addAt A c i) n q (by omega) (addAt_lo i hA) (addAt_hi hA2 (by omega)) h
        exact ⟨V, k, hq, by omega, hk5, hV, hV2, hn⟩
theorem putU_lenK : ∀ (k f : Nat) (n : Int), 0 ≤ n → n < 2 ^ (7 * (k + 1)) → (putU f n).length ≤ k + 1 := by
  intro k
  induction k with
  | zero =>
    intro f n h0 h
    cases f with
    | zero => simp [putU]
    | succ f => rw [putU, if_neg (by simp at h; omega)]; simp
  | succ k ih =>
    intro f n h0 h
    cases f with
    | zero => simp [putU]
    | succ f =>
      rw [putU]
      split
      · have := ih f (n / 128) (by omega) (by rw [pow7] at h; omega)
        simp; omega
      · simp
theorem putS_lenK : ∀ (k f : Nat) (n : Int), 0 ≤ n → n < 2 ^ (7 * k + 6) → (putS f n).length ≤ k + 1 := by
  intro k
  induction k with
  | zero =>
    intro f n h0 h
    cases f with
    | zero => simp [putS]
    | succ f => rw [putS, if_neg (by simp at h; omega)]; simp
  | succ k ih =>
    intro f n h0 h
    cases f with
    | zero => simp [putS]
    | succ f =>
      rw [putS]
      split
      · have := ih f (n / 128) (by omega) (by
          rw [show 7 * (k + 1) + 6 = (7 * k + 6) + 7 from by omega, Int.pow_add] at h
          have : (2 : Int) ^ 7 = 128 := by decide
          rw [this] at h
          omega)
        simp; omega
      · simp
theorem putU_byte (f : Nat) (X : Int) (h0 : 0 ≤ X) (hX : X < 128 * 2 ^ (7 * f)) : ∀ c ∈ putU f X, 0 ≤ c ∧ c ≤ 255 := by
  induction f generalizing X with
  | zero => simp [putU] at hX ⊢; omega
  | succ f ih =>
    rw [putU]
    split
    · intro c hc
      rcases List.mem_cons.1 hc with rfl | hc
      · omega
      · refine ih (X / 128) (by omega) ?_ c hc
        rw [pow7] at hX; omega
    · intro c hc; simp at hc; omega
theorem putS_byte (f : Nat) (X : Int) : ∀ c ∈ putS f X, 0 ≤ c ∧ c ≤ 255 := by
  induction f generalizing X with
  | zero => simp [putS]; omega
  | succ f ih =>
    rw [putS]
    split
    · intro c hc
      rcases List.mem_cons.1 hc with rfl | hc
      · omega
      · exact ih (X / 128) c hc
    · intro c hc; simp at hc; omega
theorem PU_ne (n : Int) : 0 < (PU n).length := by unfold PU; rw [putU]; split <;> simp
/- The first byte of a number that is not below 0, signed: below 64, or 128 and more. -/
theorem PS_head (n : Int) (h0 : 0 ≤ n) : ∃ c r, PS n = c :: r ∧ 0 ≤ c ∧ (c < 64 ∨ 128 ≤ c) := by
  unfold PS
  rw [putS]
  split
  · exact ⟨_, _, rfl, by omega, by omega⟩
  · exact ⟨_, _, rfl, by omega, by omega⟩
/- Bytes. -/
def By (l : List Int) : Prop := ∀ c ∈ l, 0 ≤ c ∧ c ≤ 255
theorem By.app {a b : List Int} (h : By a) (k : By b) : By (a ++ b) := fun c hc => (List.mem_append.1 hc).elim (h c) (k c)
theorem By.one {c : Int} (h : 0 ≤ c ∧ c ≤ 255) : By [c] := fun d hd => by simp at hd; subst hd; exact h
theorem PU_by {n : Int} (h0 : 0 ≤ n) (h : n ≤ 18446744073709551615) : By (PU n) := putU_byte 10 n h0 (by simp; omega)
theorem PS_by (n : Int) : By (PS n) := putS_byte 10 n
/- What is read as this between any bytes. -/
def Bk {α : Type} (rd : List Int → Nat → RS α) (a : α) (m : List Int) : Prop := ∀ pre post : List Int, rd (pre ++ (m ++ post)) pre.length = .ok (a, pre.length + m.length)
theorem num_ok {b : Nat} {sg : Bool} {l : List Int} {p q : Nat} {n : Int} (hp : p ≤ l.length) (h : numR b sg l p = .ok (n, q)) :
    ∃ k : Nat, scan ((b + 6) / 7 - 1) (okB (b - 7 * ((b + 6) / 7 - 1)) sg) sg (seg l p l.length) 0 0 = (n, (k : Int), 0) ∧ q = p + k := by
  obtain ⟨n', k', e', hs⟩ : ∃ n k e, scan ((b + 6) / 7 - 1) (okB (b - 7 * ((b + 6) / 7 - 1)) sg) sg (seg l p l.length) 0 0 = (n, k, e) := ⟨_, _, _, rfl⟩
  obtain ⟨h1, h2, h3, h4⟩ := scan_in _ _ _ _ 0 0 n' k' e' hs
  have hr := rd_in hp (Nat.le_refl _) hs
  unfold numR at h
  rw [hr] at h
  simp only at h
  split at h
  · rename_i he
    subst he
    simp only [Except.ok.injEq, Prod.mk.injEq] at h
    refine ⟨k'.toNat, ?_, by omega⟩
    rw [hs, h.1, Int.toNat_of_nonneg (by omega)]
  · cases h
theorem num_of {b : Nat} {sg : Bool} {f u r : List Int} {n : Int} (h : scan ((b + 6) / 7 - 1) (okB (b - 7 * ((b + 6) / 7 - 1)) sg) sg (u ++ r) 0 0 = (n, (u.length : Int), 0)) :
    numR b sg (f ++ (u ++ r)) f.length = .ok (n, f.length + u.length) := by
  have hr := rd_in (b := b) (sg := sg) (l := f ++ (u ++ r)) (a := f.length) (e := (f ++ (u ++ r)).length) (n := n) (p := (u.length : Int)) (q := 0) (by simp) (Nat.le_refl _) (by rw [seg_mid]; exact h)
  unfold numR
  rw [hr]
  simp only [if_true, Except.ok.injEq, Prod.mk.injEq, true_and]
  omega
theorem num32_back {n : Int} (h0 : 0 ≤ n) (h1 : n < 4294967296) : Bk (numR 32 false) n (PU n) := by
  intro f r
  refine num_of ?_
  have hs := scan32 4 0 n 0 r rfl h0 (by simp; omega) (Int.le_refl 0)
  simpa [PU] using hs
theorem num33_back {n : Int} (h0 : 0 ≤ n) (h1 : n ≤ 2147483647) : Bk (numR 33 true) n (PS n) := by
  intro f r
  refine num_of ?_
  have hs := scanS31 4 0 n 0 r rfl h0 (by simp; omega) (Int.le_refl 0) (by decide)
  simpa [PS] using hs
theorem num32_least {l : List Int} {p q : Nat} {n : Int} (hp : p ≤ l.length) (h : numR 32 false l p = .ok (n, q)) (h32 : 0 ≤ n) : p + (PU n).length ≤ q := by
  obtain ⟨k, hs, rfl⟩ := num_ok hp h
  obtain ⟨V, k', hq, h1, h2, hV, hV2, hn⟩ := scan_val _ (fun c hc => okB_lt hc) _ _ 0 0 n k (by omega) (Int.le_refl 0) (by decide) hs
  obtain rfl : k = k' := by omega
  simp [ws] at hn
  subst hn
  obtain ⟨j, rfl⟩ : ∃ j, k = j + 1 := ⟨k - 1, by omega⟩
  have := putU_lenK j 10 n hV hV2
  unfold PU
  omega
theorem num33_least {l : List Int} {p q : Nat} {n : Int} (hp : p ≤ l.length) (h : numR 33 true l p = .ok (n, q)) (h0 : 0 ≤ sg64 n) (h31 : sg64 n ≤ 2147483647) : p + (PS (sg64 n)).length ≤ q := by
  obtain ⟨k, hs, rfl⟩ := num_ok hp h
  obtain ⟨V, k', hq, h1, h2, hV, hV2, hn⟩ := scan_val _ (fun c hc => okB_lt hc) _ _ 0 0 n k (by omega) (Int.le_refl 0) (by decide) hs
  obtain rfl : k = k' := by omega
  obtain ⟨j, rfl⟩ : ∃ j, k = j + 1 := ⟨k - 1, by omega⟩
  have hj : j = 0 ∨ j = 1 ∨ j = 2 ∨ j = 3 ∨ j = 4 := by omega
  have key : sg64 n < 2 ^ (7 * j + 6) := by
    rw [hn] at h0 ⊢
    unfold ws sg64 at *
    rcases hj with rfl | rfl | rfl | rfl | rfl <;> simp at hV2 h0 ⊢ <;> split at h0 <;> (try simp_all) <;> omega
  have := putS_lenK j 10 (sg64 n) h0 key
  unfold PS
  omega
end Go.Proofs.YtbhbogfdnaadeaaDoor
