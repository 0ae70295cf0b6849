/-
  Plain mathematics: what is written is read back, a beginning of it ends too early, a number of few bits is one of more bits; nothing of the program.
-/
import Derived.Test.YtpkccnoipbgnmaaScan
import Derived.Test.YtpkccnoipbgnmaaPutMath
namespace Go.Proofs.Ytpkccnoipbgnmaa

theorem i9 {k : Nat} (h : k ≤ 9) : k = 0 ∨ k = 1 ∨ k = 2 ∨ k = 3 ∨ k = 4 ∨ k = 5 ∨ k = 6 ∨ k = 7 ∨ k = 8 ∨ k = 9 := by omega
theorem hi8 {X : Int} {i : Nat} (h : X < 2 ^ (64 - 7 * i)) (hX : 128 ≤ X) (hi : i ≤ 9) : i ≤ 8 := by
  by_cases e : i = 9
  · subst e; simp at h; omega
  · omega
theorem okB1 {X : Int} (h0 : 0 ≤ X) (h : X < 2) : okB 1 false X = true := by
  unfold okB; simp; omega

theorem scanU (f : Nat) (X : Int) (i : Nat) (A : Int) (r : List Int) (hf : i + f = 9) (h0 : 0 ≤ X) (hX : X < 2 ^ (64 - 7 * i)) (hA0 : 0 ≤ A) (hA : A < 2 ^ (7 * i)) :
    scan 9 (okB 1 false) false (putU (f + 1) X ++ r) i A = (A + X * 2 ^ (7 * i), ((i + (putU (f + 1) X).length : Nat) : Int), 0) := by
  induction f generalizing X i A with
  | zero =>
    have hi : i = 9 := by omega
    subst hi
    simp at hX hA
    have hn : ¬ 128 ≤ X := by omega
    have e : putU (0 + 1) X = [X] := by simp [putU, hn]
    rw [e]
    simp only [List.cons_append, List.nil_append, scan, okB1 h0 (by omega)]
    rw [if_neg (by simp), if_pos (by omega)]
    simp [ws, addAt]
    omega
  | succ f ih =>
    by_cases hn : 128 ≤ X
    · have hi := hi8 hX hn (by omega)
      have e : putU (f + 1 + 1) X = (X % 128 + 128) :: putU (f + 1) (X / 128) := by rw [putU, if_pos hn]
      rw [e, List.cons_append, scan, if_neg (by omega), if_neg (by omega)]
      have hA' : addAt A (X % 128 + 128) i = A + (X % 128) * 2 ^ (7 * i) := by
        unfold addAt
        rcases i9 (k := i) (by omega) with rfl | rfl | rfl | rfl | rfl | rfl | rfl | rfl | rfl | rfl <;> simp at hX hA ⊢ <;> omega
      rw [ih (X / 128) (i + 1) _ (by omega) (by omega) ?_ (addAt_lo i hA0) (addAt_hi hA hi), hA', pow7]
      · simp only [List.length_cons, Prod.mk.injEq, and_true]
        refine ⟨?_, by omega⟩
        have h1 : X / 128 * (2 ^ (7 * i) * 128) = (X - X % 128) * 2 ^ (7 * i) := by
          rw [Int.mul_comm (2 ^ (7 * i)), ← Int.mul_assoc]; congr 1; omega
        rw [h1, Int.sub_mul]; omega
      · have h2 : (2 : Int) ^ (64 - 7 * i) = 2 ^ (64 - 7 * (i + 1)) * 128 := by
          rw [show 64 - 7 * i = (64 - 7 * (i + 1)) + 7 from by omega, Int.pow_add]; rfl
        rw [h2] at hX
        omega
    · have e : putU (f + 1 + 1) X = [X] := by rw [putU, if_neg hn]
      rw [e]
      have hi : ¬ i = 9 := by omega
      simp only [List.cons_append, List.nil_append, scan]
      rw [if_neg (by simp [hi]), if_pos (by omega)]
      simp only [List.length_cons, List.length_nil, Prod.mk.injEq, and_true]
      refine ⟨?_, by omega⟩
      simp only [ws, addAt]
      rcases i9 (k := i) (by omega) with rfl | rfl | rfl | rfl | rfl | rfl | rfl | rfl | rfl | rfl <;> simp at hX hA ⊢ <;> omega

theorem putU_pos (f : Nat) (X : Int) : 1 ≤ (putU f X).length := by
  cases f with
  | zero => simp [putU]
  | succ f => rw [putU]; split <;> simp
theorem putU_byte (f : Nat) (X : Int) (h0 : 0 ≤ X) (hX : X < 128 * 2 ^ (7 * f)) : ∀ c ∈ putU f X, 0 ≤ c ∧ c ≤ 255 := by
  induction f generalizing X with
  | zero => simp [putU] at hX ⊢; omega
  | succ f ih =>
    rw [putU]
    split
    · intro c hc
      rcases List.mem_cons.1 hc with rfl | hc
      · omega
      · refine ih (X / 128) (by omega) ?_ c hc
        rw [pow7] at hX; omega
    · intro c hc; simp at hc; omega

theorem shortU (f : Nat) (X : Int) (i k : Nat) (A : Int) (hf : i + f = 9) (hX : X < 2 ^ (64 - 7 * i)) (hk : k < (putU (f + 1) X).length) :
    scan 9 (okB 1 false) false ((putU (f + 1) X).take k) i A = (0, ((i + k : Nat) : Int), 3) := by
  induction f generalizing X i k A with
  | zero =>
    have hi : i = 9 := by omega
    subst hi
    simp at hX
    have e : putU (0 + 1) X = [X] := by rw [putU, if_neg (by omega)]
    rw [e] at hk ⊢
    have : k = 0 := by simp at hk; omega
    subst this; rfl
  | succ f ih =>
    cases k with
    | zero => rfl
    | succ k =>
      have hn : 128 ≤ X := by
        by_cases h : 128 ≤ X
        · exact h
        · rw [putU, if_neg h] at hk; simp at hk
      have hi := hi8 hX hn (by omega)
      have e : putU (f + 1 + 1) X = (X % 128 + 128) :: putU (f + 1) (X / 128) := by rw [putU, if_pos hn]
      rw [e] at hk ⊢
      rw [List.take_succ_cons, scan, if_neg (by omega), if_neg (by omega), ih (X / 128) (i + 1) k _ (by omega) ?_ (by simp at hk; omega)]
      · simp only [Prod.mk.injEq, and_true, true_and]; omega
      · have h2 : (2 : Int) ^ (64 - 7 * i) = 2 ^ (64 - 7 * (i + 1)) * 128 := by
          rw [show 64 - 7 * i = (64 - 7 * (i + 1)) + 7 from by omega, Int.pow_add]; rfl
        rw [h2] at hX
        omega

theorem hi8s {X : Int} {i : Nat} (h0 : -(2 ^ (63 - 7 * i)) ≤ X) (h : X < 2 ^ (63 - 7 * i)) (hX : X < -64 ∨ 64 ≤ X) (hi : i ≤ 9) : i ≤ 8 := by
  by_cases e : i = 9
  · subst e; simp at h h0; omega
  · omega
theorem okB1s {X : Int} (h0 : -1 ≤ X) (h : X < 1) : okB 1 true (X % 128) = true := by
  unfold okB; simp; omega
theorem scanS (f : Nat) (X : Int) (i : Nat) (A : Int) (r : List Int) (hf : i + f = 9) (h0 : -(2 ^ (63 - 7 * i)) ≤ X) (hX : X < 2 ^ (63 - 7 * i)) (hA0 : 0 ≤ A) (hA : A < 2 ^ (7 * i)) :
    scan 9 (okB 1 true) true (putS (f + 1) X ++ r) i A = ((A + X * 2 ^ (7 * i)) % 18446744073709551616, ((i + (putS (f + 1) X).length : Nat) : Int), 0) := by
  induction f generalizing X i A with
  | zero =>
    have hi : i = 9 := by omega
    subst hi
    simp at hX h0 hA
    have e : putS (0 + 1) X = [X % 128] := by rw [putS, if_neg (by omega)]
    rw [e]
    simp only [List.cons_append, List.nil_append, scan, okB1s h0 (by omega)]
    rw [if_neg (by simp), if_pos (by omega)]
    simp only [List.length_cons, List.length_nil, Prod.mk.injEq, and_true]
    refine ⟨?_, by omega⟩
    rw [ws, if_neg (by omega), addAt]
    simp
    omega
  | succ f ih =>
    by_cases hn : X < -64 ∨ 64 ≤ X
    · have hi := hi8s h0 hX hn (by omega)
      have e : putS (f + 1 + 1) X = (X % 128 + 128) :: putS (f + 1) (X / 128) := by rw [putS, if_pos hn]
      rw [e, List.cons_append, scan, if_neg (by omega), if_neg (by omega)]
      have hA' : addAt A (X % 128 + 128) i = A + (X % 128) * 2 ^ (7 * i) := by
        unfold addAt
        rcases i9 (k := i) (by omega) with rfl | rfl | rfl | rfl | rfl | rfl | rfl | rfl | rfl | rfl <;> simp at hA ⊢ <;> omega
      have h2 : (2 : Int) ^ (63 - 7 * i) = 2 ^ (63 - 7 * (i + 1)) * 128 := by
        rw [show 63 - 7 * i = (63 - 7 * (i + 1)) + 7 from by omega, Int.pow_add]; rfl
      rw [h2] at hX h0
      rw [ih (X / 128) (i + 1) _ (by omega) (by omega) (by omega) (addAt_lo i hA0) (addAt_hi hA hi), hA', pow7]
      simp only [List.length_cons, Prod.mk.injEq, and_true]
      refine ⟨?_, by omega⟩
      have h1 : X / 128 * (2 ^ (7 * i) * 128) = (X - X % 128) * 2 ^ (7 * i) := by
        rw [Int.mul_comm (2 ^ (7 * i)), ← Int.mul_assoc]; congr 1; omega
      rw [h1, Int.sub_mul]
      congr 1
      omega
    · have e : putS (f + 1 + 1) X = [X % 128] := by rw [putS, if_neg hn]
      rw [e]
      have hi : ¬ i = 9 := by omega
      simp only [List.cons_append, List.nil_append, scan]
      rw [if_neg (by simp [hi]), if_pos (by omega)]
      simp only [List.length_cons, List.length_nil, Prod.mk.injEq, and_true]
      refine ⟨?_, by omega⟩
      simp only [ws, addAt]
      rcases i9 (k := i) (by omega) with rfl | rfl | rfl | rfl | rfl | rfl | rfl | rfl | rfl | rfl <;> simp at hX h0 hA ⊢ <;> (try split) <;> omega
theorem putS_pos (f : Nat) (X : Int) : 1 ≤ (putS f X).length := by
  cases f with
  | zero => simp [putS]
  | succ f => rw [putS]; split <;> simp
theorem putS_byte (f : Nat) (X : Int) : ∀ c ∈ putS f X, 0 ≤ c ∧ c ≤ 255 := by
  induction f generalizing X with
  | zero => simp [putS]; omega
  | succ f ih =>
    rw [putS]
    split
    · intro c hc
      rcases List.mem_cons.1 hc with rfl | hc
      · omega
      · exact ih (X / 128) c hc
    · intro c hc; simp at hc; omega
theorem shortS (f : Nat) (X : Int) (i k : Nat) (A : Int) (hf : i + f = 9) (h0 : -(2 ^ (63 - 7 * i)) ≤ X) (hX : X < 2 ^ (63 - 7 * i)) (hk : k < (putS (f + 1) X).length) :
    scan 9 (okB 1 true) true ((putS (f + 1) X).take k) i A = (0, ((i + k : Nat) : Int), 3) := by
  induction f generalizing X i k A with
  | zero =>
    have hi : i = 9 := by omega
    subst hi
    simp at hX h0
    have e : putS (0 + 1) X = [X % 128] := by rw [putS, if_neg (by omega)]
    rw [e] at hk ⊢
    have : k = 0 := by simp at hk; omega
    subst this; rfl
  | succ f ih =>
    cases k with
    | zero => rfl
    | succ k =>
      have hn : X < -64 ∨ 64 ≤ X := by
        by_cases h : X < -64 ∨ 64 ≤ X
        · exact h
        · rw [putS, if_neg h] at hk; simp at hk
      have hi := hi8s h0 hX hn (by omega)
      have e : putS (f + 1 + 1) X = (X % 128 + 128) :: putS (f + 1) (X / 128) := by rw [putS, if_pos hn]
      have h2 : (2 : Int) ^ (63 - 7 * i) = 2 ^ (63 - 7 * (i + 1)) * 128 := by
        rw [show 63 - 7 * i = (63 - 7 * (i + 1)) + 7 from by omega, Int.pow_add]; rfl
      rw [h2] at hX h0
      rw [e] at hk ⊢
      rw [List.take_succ_cons, scan, if_neg (by omega), if_neg (by omega), ih (X / 128) (i + 1) k _ (by omega) (by omega) (by omega) (by simp at hk; omega)]
      simp only [Prod.mk.injEq, and_true, true_and]; omega

/- Written and read, between any bytes. -/
theorem byt_of {l : List Int} (h : ∀ c ∈ l, 0 ≤ c ∧ c ≤ 255) (j : Nat) : 0 ≤ l.getD j 0 ∧ l.getD j 0 ≤ 255 := by
  by_cases hj : j < l.length
  · simp only [List.getD, List.getElem?_eq_getElem hj, Option.getD_some]; exact h _ (List.getElem_mem hj)
  · simp [List.getD, List.getElem?_eq_none (Nat.le_of_not_lt hj)]
theorem PU_byte {n : Int} (h0 : 0 ≤ n) (h1 : n ≤ 18446744073709551615) : ∀ c ∈ PU n, 0 ≤ c ∧ c ≤ 255 := putU_byte 10 n h0 (by simp; omega)
theorem PS_byte (n : Int) : ∀ c ∈ PS n, 0 ≤ c ∧ c ≤ 255 := putS_byte 10 n
theorem seg_mid (f u r : List Int) : seg (f ++ u ++ r) f.length (f ++ u ++ r).length = u ++ r := by
  unfold seg; rw [List.take_length, List.append_assoc, List.drop_left]
theorem rd_backU {n : Int} (f r : List Int) (h0 : 0 ≤ n) (h1 : n ≤ 18446744073709551615) :
    rd 64 false (f ++ PU n ++ r) (f.length : Int) ((f ++ PU n ++ r).length : Int) = (n, ((f.length : Int) + ((PU n).length : Int)), 0) := by
  have h := scanU 9 n 0 0 r (by omega) h0 (by simp; omega) (by omega) (by decide)
  refine rd_in (p := ((PU n).length : Int)) (by simp) (by omega) ?_
  rw [seg_mid]
  refine Eq.trans h ?_
  simp [PU]
theorem rd_backS {n : Int} (f r : List Int) (h0 : -9223372036854775808 ≤ n) (h1 : n ≤ 9223372036854775807) :
    rd 64 true (f ++ PS n ++ r) (f.length : Int) ((f ++ PS n ++ r).length : Int) = (n % 18446744073709551616, ((f.length : Int) + ((PS n).length : Int)), 0) := by
  have h := scanS 9 n 0 0 r (by omega) (by simp; omega) (by simp; omega) (by omega) (by decide)
  refine rd_in (p := ((PS n).length : Int)) (by simp) (by omega) ?_
  rw [seg_mid]
  refine Eq.trans h ?_
  simp [PS]
theorem rd_shortU {n : Int} (k : Nat) (h1 : n ≤ 18446744073709551615) (hk : k < (PU n).length) : rd 64 false (PU n) 0 (k : Int) = (0, (k : Int), 3) := by
  have h := shortU 9 n 0 k 0 (by omega) (by simp; omega) hk
  have := rd_in (b := 64) (sg := false) (l := PU n) (a := 0) (e := k) (n := 0) (p := k) (q := 3) (by omega) (by omega) (by
    rw [show seg (PU n) 0 k = (PU n).take k from by simp [seg]]
    refine Eq.trans h ?_; simp)
  simpa using this
theorem rd_shortS {n : Int} (k : Nat) (h0 : -9223372036854775808 ≤ n) (h1 : n ≤ 9223372036854775807) (hk : k < (PS n).length) : rd 64 true (PS n) 0 (k : Int) = (0, (k : Int), 3) := by
  have h := shortS 9 n 0 k 0 (by omega) (by simp; omega) (by simp; omega) hk
  have := rd_in (b := 64) (sg := true) (l := PS n) (a := 0) (e := k) (n := 0) (p := k) (q := 3) (by omega) (by omega) (by
    rw [show seg (PS n) 0 k = (PS n).take k from by simp [seg]]
    refine Eq.trans h ?_; simp)
  simpa using this
theorem PU_len (n : Int) : 1 ≤ (PU n).length ∧ (PU n).length ≤ 11 := by
  refine ⟨putU_pos 10 n, ?_⟩
  have h : ∀ f X, (putU f X).length ≤ f + 1 := by
    intro f
    induction f with
    | zero => intro X; simp [putU]
    | succ f ih => intro X; rw [putU]; split <;> simp; exact ih _
  exact h 10 n
theorem PS_len (n : Int) : 1 ≤ (PS n).length ∧ (PS n).length ≤ 11 := by
  refine ⟨putS_pos 10 n, ?_⟩
  have h : ∀ f X, (putS f X).length ≤ f + 1 := by
    intro f
    induction f with
    | zero => intro X; simp [putS]
    | succ f ih => intro X; rw [putS]; split <;> simp; exact ih _
  exact h 10 n
end Go.Proofs.Ytpkccnoipbgnmaa
