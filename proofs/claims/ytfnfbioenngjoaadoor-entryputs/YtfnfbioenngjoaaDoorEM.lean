/-
  Plain mathematics: numbers, types and lists read from bytes at a place; nothing of the program.
-/
import Derived.Test.YtfnfbioenngjoaaDoorReaders
namespace Go.Proofs.YtfnfbioenngjoaaDoor
set_option linter.unusedVariables false
set_option linter.unusedSimpArgs false

/- A reading: what is read and the place behind it; or the place of the fault and the fault. -/
abbrev RS (α : Type) : Type := Except (Nat × Nat) (α × Nat)
structure VT where
  num : Int
  null : Bool
  heap : Int
structure FT where
  ty : VT
  mut_ : Bool
structure CT where
  kind : Int
  params : List VT
  results : List VT
  fields : List FT
structure SB where
  final_ : Bool
  supers : List Int
  comp : CT
structure RT where
  types : List SB
  explicit : Bool
structure BK where
  type_ : Int
  result : VT

theorem scan_in (m : Nat) (ok : Int → Bool) (sg : Bool) : ∀ (l : List Int) (i : Nat) (X n k e : Int), scan m ok sg l i X = (n, k, e) → (i : Int) ≤ k ∧ k ≤ i + l.length ∧ (e = 0 ∨ e = 3 ∨ e = 4) ∧ (e = 0 → (i : Int) < k)
  | [], i, X, n, k, e, h => by
    simp only [scan, Prod.mk.injEq] at h
    obtain ⟨_, rfl, rfl⟩ := h
    simp
  | c :: r, i, X, n, k, e, h => by
    rw [scan] at h
    split at h
    · simp only [Prod.mk.injEq] at h
      obtain ⟨_, rfl, rfl⟩ := h
      simp
      omega
    · split at h
      · simp only [Prod.mk.injEq] at h
        obtain ⟨_, rfl, rfl⟩ := h
        simp
        omega
      · obtain ⟨h1, h2, h3, h4⟩ := scan_in m ok sg r (i + 1) _ n k e h
        refine ⟨by omega, by simp; omega, h3, fun he => ?_⟩
        have := h4 he
        omega
theorem rd_ways {b : Nat} {sg : Bool} {l : List Int} {p : Nat} (hp : p ≤ l.length) :
    (∃ (n : Int) (q : Nat), rd b sg l p l.length = (n, (q : Int), 0) ∧ p < q ∧ q ≤ l.length) ∨
    (∃ (n : Int) (f e : Nat), rd b sg l p l.length = (n, (f : Int), (e : Int)) ∧ p ≤ f ∧ f ≤ l.length ∧ (e = 3 ∨ e = 4)) := by
  obtain ⟨n, k, e, h⟩ : ∃ n k e, scan ((b + 6) / 7 - 1) (okB (b - 7 * ((b + 6) / 7 - 1)) sg) sg (seg l p l.length) 0 0 = (n, k, e) := ⟨_, _, _, rfl⟩
  obtain ⟨h1, h2, h3, h4⟩ := scan_in _ _ _ _ 0 0 n k e h
  have hr := rd_in hp (Nat.le_refl _) h
  have hl : (seg l p l.length).length = l.length - p := by unfold seg; simp
  rw [hl] at h2
  rcases h3 with rfl | rfl | rfl
  · left
    have := h4 rfl
    exact ⟨n, (p + k).toNat, by rw [hr, Int.toNat_of_nonneg (by omega)], by omega, by omega⟩
  · right
    exact ⟨n, (p + k).toNat, 3, by rw [hr, Int.toNat_of_nonneg (by omega)]; rfl, by omega, by omega, Or.inl rfl⟩
  · right
    exact ⟨n, (p + k).toNat, 4, by rw [hr, Int.toNat_of_nonneg (by omega)]; rfl, by omega, by omega, Or.inr rfl⟩
/- A number of 32 bits is below 2^32. -/
theorem scan_32 : ∀ (l : List Int) (i : Nat) (X n k : Int), i ≤ 4 → 0 ≤ X → X < 2 ^ (7 * i) → (∀ c ∈ l, 0 ≤ c) → scan 4 (okB 4 false) false l i X = (n, k, 0) → 0 ≤ n ∧ n < 4294967296
  | [], i, X, n, k, hi, h0, hX, hl, h => by simp [scan] at h
  | c :: r, i, X, n, k, hi, h0, hX, hl, h => by
    have hc0 : 0 ≤ c := hl c (by simp)
    rw [scan] at h
    split at h
    · simp at h
    · rename_i h1
      split at h
      · rename_i h2
        simp only [Prod.mk.injEq] at h
        obtain ⟨rfl, _, _⟩ := h
        have hw : ws (addAt X c i) (7 * i + 7) false = addAt X c i := by simp [ws]
        rw [hw]
        refine ⟨addAt_lo i h0, ?_⟩
        rcases Nat.lt_or_ge i 4 with h3 | h3
        · have := addAt_hi (c := c) hX (show i ≤ 8 by omega)
          have hp : (2 : Int) ^ (7 * (i + 1)) ≤ 2 ^ 28 := by
            have : i = 0 ∨ i = 1 ∨ i = 2 ∨ i = 3 := by omega
            rcases this with rfl | rfl | rfl | rfl <;> decide
          have e28 : (2 : Int) ^ 28 = 268435456 := by decide
          omega
        · obtain rfl : i = 4 := by omega
          have hk : okB 4 false c = true := by
            cases ho : okB 4 false c with
            | true => rfl
            | false => exact absurd ⟨rfl, ho⟩ h1
          have hc : c < 16 := by
            unfold okB at hk
            simp at hk
            omega
          have e28 : (2 : Int) ^ (7 * 4) = 268435456 := by decide
          unfold addAt
          rw [e28] at hX ⊢
          omega
      · rename_i h2
        rcases Nat.lt_or_ge i 4 with h3 | h3
        · exact scan_32 r (i + 1) _ n k (by omega) (addAt_lo i h0) (addAt_hi hX (by omega)) (fun c hc => hl c (by simp [hc])) h
        · obtain rfl : i = 4 := by omega
          exfalso
          have hk : okB 4 false c = false := by
            cases ho : okB 4 false c with
            | false => rfl
            | true => exact absurd (okB_lt ho) h2
          exact h1 ⟨rfl, hk⟩
theorem rd_32 {l : List Int} (hb : ∀ j, 0 ≤ l.getD j 0 ∧ l.getD j 0 ≤ 255) {x y n q : Int} (h : rd 32 false l x y = (n, q, 0)) : 0 ≤ n ∧ n < 4294967296 := by
  by_cases hin : 0 ≤ x ∧ x ≤ y ∧ y ≤ l.length
  · unfold rd at h
    rw [if_pos hin] at h
    simp only [Prod.mk.injEq] at h
    obtain ⟨h1, h2, h3⟩ := h
    obtain ⟨a, k, e, hs⟩ : ∃ n k e, scan ((32 + 6) / 7 - 1) (okB (32 - 7 * ((32 + 6) / 7 - 1)) false) false (seg l x.toNat y.toNat) 0 0 = (n, k, e) := ⟨_, _, _, rfl⟩
    rw [hs] at h1 h3
    simp only at h1 h3
    subst h1
    subst h3
    refine scan_32 (seg l x.toNat y.toNat) 0 0 a k (by omega) (by omega) (by decide) ?_ hs
    intro c hc
    unfold seg at hc
    have hc' : c ∈ l := List.mem_of_mem_take (List.mem_of_mem_drop hc)
    obtain ⟨j, hj, rfl⟩ := List.getElem_of_mem hc'
    have := (hb j).1
    rwa [List.getD_eq_getElem?_getD, List.getElem?_eq_getElem hj] at this
  · rw [rd_out hin] at h; simp at h
end Go.Proofs.YtfnfbioenngjoaaDoor
