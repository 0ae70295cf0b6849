/-
  Plain mathematics: the shortest bytes of a number, and what holds behind k rounds of writing them; nothing of the program.
-/

namespace Go.Proofs.YtfnfbioenngjoaaDoor

def putU : Nat → Int → List Int
  | 0, n => [n]
  | f + 1, n => if 128 ≤ n then (n % 128 + 128) :: putU f (n / 128) else [n]
def PU (n : Int) : List Int := putU 10 n
/- Behind k rounds of writing n: X is left, acc is written. -/
def StU (n : Int) (k : Nat) (X : Int) (acc : List Int) : Prop := k ≤ 9 ∧ X < 2 ^ (64 - 7 * k) ∧ acc.length = k ∧ acc ++ putU (10 - k) X = PU n
theorem StU.start (n : Int) (h : n ≤ 18446744073709551615) : StU n 0 n [] := ⟨by omega, by simp; omega, rfl, rfl⟩
theorem StU.step {n : Int} {k : Nat} {X : Int} {acc : List Int} (h : StU n k X acc) (hX : 128 ≤ X) : StU n (k + 1) (X / 128) (acc ++ [X % 128 + 128]) := by
  obtain ⟨hk, hb, hl, ha⟩ := h
  have hk8 : k ≤ 8 := by
    by_cases e : k = 9
    · subst e; simp at hb; omega
    · omega
  refine ⟨by omega, ?_, by simp [hl], ?_⟩
  · have e : (2 : Int) ^ (64 - 7 * k) = 2 ^ (64 - 7 * (k + 1)) * 128 := by
      rw [show 64 - 7 * k = (64 - 7 * (k + 1)) + 7 from by omega, Int.pow_add]; rfl
    rw [e] at hb
    omega
  · rw [← ha, show 10 - k = (10 - (k + 1)) + 1 from by omega]
    simp [putU, hX]
theorem StU.stop {n : Int} {k : Nat} {X : Int} {acc : List Int} (h : StU n k X acc) (hX : X < 128) : acc ++ [X] = PU n := by
  obtain ⟨hk, hb, hl, ha⟩ := h
  rw [← ha, show 10 - k = (9 - k) + 1 from by omega, putU, if_neg (by omega)]
theorem StU.len {n : Int} {k : Nat} {X : Int} {acc : List Int} (h : StU n k X acc) : acc.length ≤ 9 := by
  obtain ⟨hk, hb, hl, ha⟩ := h; omega

def putS : Nat → Int → List Int
  | 0, n => [n % 128]
  | f + 1, n => if n < -64 ∨ 64 ≤ n then (n % 128 + 128) :: putS f (n / 128) else [n % 128]
def PS (n : Int) : List Int := putS 10 n
def StS (n : Int) (k : Nat) (X : Int) (acc : List Int) : Prop := k ≤ 9 ∧ -(2 ^ (63 - 7 * k)) ≤ X ∧ X < 2 ^ (63 - 7 * k) ∧ acc.length = k ∧ acc ++ putS (10 - k) X = PS n
theorem StS.start (n : Int) (h0 : -9223372036854775808 ≤ n) (h : n ≤ 9223372036854775807) : StS n 0 n [] := ⟨by omega, by simp; omega, by simp; omega, rfl, rfl⟩
theorem StS.step {n : Int} {k : Nat} {X : Int} {acc : List Int} (h : StS n k X acc) (hX : X < -64 ∨ 64 ≤ X) : StS n (k + 1) (X / 128) (acc ++ [X % 128 + 128]) := by
  obtain ⟨hk, hc, hb, hl, ha⟩ := h
  have hk8 : k ≤ 8 := by
    by_cases e : k = 9
    · subst e; simp at hb hc; omega
    · omega
  have e : (2 : Int) ^ (63 - 7 * k) = 2 ^ (63 - 7 * (k + 1)) * 128 := by
    rw [show 63 - 7 * k = (63 - 7 * (k + 1)) + 7 from by omega, Int.pow_add]; rfl
  rw [e] at hb hc
  refine ⟨by omega, by omega, by omega, by simp [hl], ?_⟩
  rw [← ha, show 10 - k = (10 - (k + 1)) + 1 from by omega]
  simp [putS, hX]
theorem StS.stop {n : Int} {k : Nat} {X : Int} {acc : List Int} (h : StS n k X acc) (h0 : -64 ≤ X) (hX : X < 64) : acc ++ [X % 128] = PS n := by
  obtain ⟨hk, hc, hb, hl, ha⟩ := h
  rw [← ha, show 10 - k = (9 - k) + 1 from by omega, putS, if_neg (by omega)]
theorem StS.len {n : Int} {k : Nat} {X : Int} {acc : List Int} (h : StS n k X acc) : acc.length ≤ 9 := by
  obtain ⟨hk, hc, hb, hl, ha⟩ := h; omega

/- A float's bytes, the lowest first. -/
def fixB : Nat → Int → List Int
  | 0, _ => []
  | s + 1, n => (n % 256) :: fixB s (n / 256)
theorem fixB_len (s : Nat) (n : Int) : (fixB s n).length = s := by
  induction s generalizing n with
  | zero => rfl
  | succ s ih => simp [fixB, ih]
theorem fixB_get (s : Nat) (n : Int) (i : Nat) (h : i < s) : (fixB s n)[i]? = some (n / 256 ^ i % 256) := by
  induction s generalizing n i with
  | zero => omega
  | succ s ih =>
    cases i with
    | zero => simp [fixB]
    | succ i =>
      simp only [fixB, List.getElem?_cons_succ]
      rw [ih (n / 256) i (by omega), Int.ediv_ediv_of_nonneg (by omega)]
      rw [show (256 : Int) ^ (i + 1) = 256 * 256 ^ i from by rw [Int.pow_succ, Int.mul_comm]]
theorem fixB_snoc (s : Nat) (n : Int) : fixB (s + 1) n = fixB s n ++ [n / 256 ^ s % 256] := by
  apply List.ext_getElem?
  intro i
  by_cases h : i < s
  · rw [fixB_get _ _ _ (by omega), List.getElem?_append_left (by rw [fixB_len]; exact h), fixB_get _ _ _ h]
  · by_cases e : i = s
    · subst e
      rw [fixB_get _ _ _ (by omega), List.getElem?_append_right (by rw [fixB_len]; omega), fixB_len]
      simp
    · rw [List.getElem?_eq_none (by rw [fixB_len]; omega), List.getElem?_eq_none (by simp [fixB_len]; omega)]
end Go.Proofs.YtfnfbioenngjoaaDoor
