/-
  Plain mathematics of a name at a place; no statement is proved here.
-/
import Derived.Test.YtemaeigfhmnapaaGreatDoorScan
import Derived.Test.YtemaeigfhmnapaaGreatDoorN2U
namespace Go.Proofs.YtemaeigfhmnapaaGreatDoor
open Go.RowKit
set_option linter.unusedVariables false
set_option linter.unusedSimpArgs false

theorem scan_ok (m : Nat) (ok : Int → Bool) : ∀ (l : List Int) (i : Nat) (X n k : Int), 0 ≤ X → scan m ok false l i X = (n, k, 0) → (i : Int) < k ∧ k ≤ i + l.length ∧ 0 ≤ n
  | [], i, X, n, k, h0, h => by simp [scan] at h
  | c :: r, i, X, n, k, h0, h => by
    rw [scan] at h
    split at h
    · simp at h
    · split at h
      · simp only [Prod.mk.injEq] at h
        obtain ⟨h1, h2, _⟩ := h
        have := addAt_lo (c := c) i h0
        refine ⟨by omega, by simp; omega, ?_⟩
        rw [← h1]; simp [ws]; exact this
      · obtain ⟨h1, h2, h3⟩ := scan_ok m ok r (i + 1) _ n k (addAt_lo (c := c) i h0) h
        exact ⟨by omega, by simp; omega, h3⟩
theorem rd_ok {b : Nat} {l : List Int} {x y n q : Int} (h : rd b false l x y = (n, q, 0)) : 0 ≤ x ∧ x < q ∧ q ≤ y ∧ y ≤ l.length ∧ 0 ≤ n := by
  by_cases hin : 0 ≤ x ∧ x ≤ y ∧ y ≤ l.length
  · unfold rd at h
    rw [if_pos hin] at h
    simp only [Prod.mk.injEq] at h
    obtain ⟨h1, h2, h3⟩ := h
    obtain ⟨r, hr⟩ : ∃ r, r = scan ((b + 6) / 7 - 1) (okB (b - 7 * ((b + 6) / 7 - 1)) false) false (seg l x.toNat y.toNat) 0 0 := ⟨_, rfl⟩
    rw [← hr] at h1 h2 h3
    obtain ⟨r1, r2, r3⟩ := r
    simp only at h1 h2 h3
    subst h1; subst h3
    obtain ⟨g1, g2, g3⟩ := scan_ok _ _ _ 0 0 r1 r2 (Int.le_refl 0) hr.symm
    have hl : (seg l x.toNat y.toNat).length = y.toNat - x.toNat := by unfold seg; simp; omega
    rw [hl] at g2
    omega
  · rw [rd_out hin] at h; simp at h
/- The errors' kinds: a number that can't be read. -/
theorem rd_take (b : Nat) (sg : Bool) (l : List Int) (x : Int) (e : Nat) (he : e ≤ l.length) : rd b sg (l.take e) x e = rd b sg l x e := by
  have hs : ∀ a, seg (l.take e) a e = seg l a e := by intro a; unfold seg; rw [List.take_take]; simp
  unfold rd
  have hl : (l.take e).length = e := by simp; omega
  simp only [hs, hl, Int.toNat_natCast]
  by_cases h : 0 ≤ x ∧ x ≤ (e : Int) ∧ (e : Int) ≤ l.length
  · rw [if_pos h, if_pos (by omega)]
  · rw [if_neg h, if_neg (by omega)]
/- The name that stands at p, ahead of the end: its bytes, the place behind it, 0; or the place of the fault and the fault. -/
def nm (l : List Int) (p : Int) : List Int × Int × Int :=
  if (rd 32 false l p l.length).2.2 ≠ 0 then ([], (rd 32 false l p l.length).2.1, (rd 32 false l p l.length).2.2)
  else if 65536 < (rd 32 false l p l.length).1 % 4294967296 then ([], p, 2)
  else if (l.length : Int) < (rd 32 false l p l.length).2.1 + (rd 32 false l p l.length).1 % 4294967296 then ([], l.length, 3)
  else if (U ((l.take ((rd 32 false l p l.length).2.1.toNat + ((rd 32 false l p l.length).1 % 4294967296).toNat)).drop (rd 32 false l p l.length).2.1.toNat)).2 = true then
    ((l.take ((rd 32 false l p l.length).2.1.toNat + ((rd 32 false l p l.length).1 % 4294967296).toNat)).drop (rd 32 false l p l.length).2.1.toNat, (rd 32 false l p l.length).2.1 + (rd 32 false l p l.length).1 % 4294967296, 0)
  else ([], (rd 32 false l p l.length).2.1 + (U ((l.take ((rd 32 false l p l.length).2.1.toNat + ((rd 32 false l p l.length).1 % 4294967296).toNat)).drop (rd 32 false l p l.length).2.1.toNat)).1, 21)
/- The ways of a name, one by one. -/
theorem nm_rd {l : List Int} {p n q e : Int} (h : rd 32 false l p l.length = (n, q, e)) (he : e ≠ 0) : nm l p = ([], q, e) := by
  unfold nm; rw [h]; simp [he]
theorem nm_long {l : List Int} {p n q : Int} (h : rd 32 false l p l.length = (n, q, 0)) (hn : 65536 < n % 4294967296) : nm l p = ([], p, 2) := by
  unfold nm; rw [h]; simp only; rw [if_neg (by simp), if_pos hn]
theorem nm_short {l : List Int} {p n q : Int} {N Q : Nat} (h : rd 32 false l p l.length = (n, q, 0)) (hN : n % 4294967296 = N) (hQ : q = Q) (hn : N ≤ 65536) (hs : ¬ Q + N ≤ l.length) : nm l p = ([], (l.length : Int), 3) := by
  unfold nm; rw [h]; simp only; rw [if_neg (by simp), if_neg (by omega), if_pos (by omega)]
theorem nm_utf {l : List Int} {p n q i : Int} {N Q : Nat} (h : rd 32 false l p l.length = (n, q, 0)) (hN : n % 4294967296 = N) (hQ : q = Q) (hn : N ≤ 65536) (hs : Q + N ≤ l.length)
    (hu : U ((l.take (Q + N)).drop Q) = (i, false)) : nm l p = ([], Q + i, 21) := by
  unfold nm; rw [h]; simp only; rw [if_neg (by simp), if_neg (by omega), if_neg (by omega), hN, hQ, Int.toNat_natCast, Int.toNat_natCast, hu]; simp
theorem nm_good {l : List Int} {p n q i : Int} {N Q : Nat} (h : rd 32 false l p l.length = (n, q, 0)) (hN : n % 4294967296 = N) (hQ : q = Q) (hn : N ≤ 65536) (hs : Q + N ≤ l.length)
    (hu : U ((l.take (Q + N)).drop Q) = (i, true)) : nm l p = ((l.take (Q + N)).drop Q, ((Q + N : Nat) : Int), 0) := by
  unfold nm; rw [h]; simp only; rw [if_neg (by simp), if_neg (by omega), if_neg (by omega), hN, hQ, Int.toNat_natCast, Int.toNat_natCast, hu]; simp
/- Every name is one of these. -/
theorem nm_cases (l : List Int) (p : Int) :
    (∃ n q e, rd 32 false l p l.length = (n, q, e) ∧ e ≠ 0 ∧ nm l p = ([], q, e)) ∨
    (∃ (n : Int) (N Q : Nat), rd 32 false l p l.length = (n, (Q : Int), 0) ∧ n % 4294967296 = N ∧ 0 ≤ p ∧ p < Q ∧ Q ≤ l.length ∧
      ((65536 < N ∧ N ≤ 4294967295 ∧ nm l p = ([], p, 2)) ∨ (N ≤ 65536 ∧ ¬ Q + N ≤ l.length ∧ nm l p = ([], (l.length : Int), 3)) ∨
       (N ≤ 65536 ∧ Q + N ≤ l.length ∧ ∃ i, (U ((l.take (Q + N)).drop Q) = (i, false) ∧ nm l p = ([], Q + i, 21)) ∨ (U ((l.take (Q + N)).drop Q) = (i, true) ∧ nm l p = ((l.take (Q + N)).drop Q, ((Q + N : Nat) : Int), 0))))) := by
  obtain ⟨n, q, e, h⟩ : ∃ n q e, rd 32 false l p l.length = (n, q, e) := ⟨_, _, _, rfl⟩
  by_cases he : e = 0
  · subst he
    right
    obtain ⟨h1, h2, h3, h4, h5⟩ := rd_ok h
    obtain ⟨Q, rfl⟩ : ∃ Q : Nat, q = Q := ⟨q.toNat, by omega⟩
    obtain ⟨N, hN⟩ : ∃ N : Nat, n % 4294967296 = N := ⟨(n % 4294967296).toNat, by omega⟩
    refine ⟨n, N, Q, h, hN, h1, h2, by omega, ?_⟩
    by_cases hl : 65536 < N
    · exact Or.inl ⟨hl, by omega, nm_long h (by omega)⟩
    · by_cases hs : Q + N ≤ l.length
      · refine Or.inr (Or.inr ⟨by omega, hs, (U ((l.take (Q + N)).drop Q)).1, ?_⟩)
        cases hu : (U ((l.take (Q + N)).drop Q)).2 with
        | false => exact Or.inl ⟨by rw [← hu], nm_utf h hN rfl (by omega) hs (by rw [← hu])⟩
        | true => exact Or.inr ⟨by rw [← hu], nm_good h hN rfl (by omega) hs (i := (U ((l.take (Q + N)).drop Q)).1) (by rw [← hu])⟩
      · exact Or.inr (Or.inl ⟨by omega, hs, nm_short h hN rfl (by omega) hs⟩)
  · exact Or.inl ⟨n, q, e, h, he, nm_rd h he⟩
end Go.Proofs.YtemaeigfhmnapaaGreatDoor
