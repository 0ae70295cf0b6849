/-
  Locals that are set and laid back, as plain data; no statement is proved here.
-/
import Derived.Test.YtkghplkmfpnhdaaGreatDoorCbU
namespace Go.Proofs.YtkghplkmfpnhdaaGreatDoor
open Go.RowKit
set_option linter.unusedVariables false
set_option linter.unusedSimpArgs false

theorem un1_get (lo : List LO) (n : Int) (h0 : 0 ≤ n) (k : Nat) : (un1 lo n)[k]? = (lo[k]?).map fun x => if (k : Int) = n then x.to false else x := by
  obtain ⟨m, rfl⟩ : ∃ m : Nat, n = m := ⟨n.toNat, by omega⟩
  unfold un1
  simp only [Int.toNat_natCast]
  cases hx : lo[m]? with
  | none =>
    simp only
    cases hk : lo[k]? with
    | none => rfl
    | some y =>
      have : ¬ ((k : Int) = (m : Int)) := fun h => by
        have : k = m := by omega
        rw [this, hx] at hk
        cases hk
      simp [this]
  | some x =>
    simp only
    rw [List.getElem?_set]
    by_cases hkm : m = k
    · subst hkm
      have hlt := (List.getElem?_eq_some_iff.1 hx).1
      rw [hx, if_pos rfl, if_pos hlt]
      simp
    · have : ¬ ((k : Int) = (m : Int)) := by omega
      simp only [hkm, if_false, this]
      simp
theorem unL_get (l : List Int) : ∀ (lo : List LO), (∀ n ∈ l, 0 ≤ n) → ∀ k : Nat, (unL lo l)[k]? = (lo[k]?).map fun x => if (k : Int) ∈ l then x.to false else x := by
  induction l with
  | nil => intro lo _ k; simp [unL]
  | cons a l ih =>
    intro lo h k
    show (unL (un1 lo a) l)[k]? = _
    rw [ih _ (fun n hn => h n (by simp [hn])) k, un1_get lo a (h a (by simp)) k]
    cases lo[k]? with
    | none => rfl
    | some x =>
      simp only [Option.map_some, List.mem_cons]
      congr 1
      by_cases h1 : (k : Int) = a
      · simp [h1, LO.to]
      · simp [h1]
/- What setting locals has left of them. -/
def JL (lo0 lo : List LO) (fr : List Int) : Prop := lo.length = lo0.length ∧ (∀ (k : Nat) (x : LO), lo0[k]? = some x → lo[k]? = some ⟨x.kind, x.set || decide ((k : Int) ∈ fr)⟩) ∧ ∀ n ∈ fr, 0 ≤ n ∧ n.toNat < lo0.length ∧ n ≤ 4294967295 ∧ ∃ x : LO, lo0[n.toNat]? = some x ∧ x.set = false
theorem JL.start (lo : List LO) : JL lo lo [] := ⟨rfl, fun k x hx => by simp [hx], fun n hn => by cases hn⟩
theorem JL.back {lo0 lo : List LO} {fr : List Int} (h : JL lo0 lo fr) : unL lo fr = lo0 := by
  apply List.ext_getElem?
  intro k
  rw [unL_get fr lo (fun n hn => (h.2.2 n hn).1) k]
  cases hx : lo0[k]? with
  | none =>
    have : lo[k]? = none := by
      rw [List.getElem?_eq_none_iff] at hx ⊢
      rw [h.1]; exact hx
    rw [this]; rfl
  | some x =>
    rw [h.2.1 k x hx]
    simp only [Option.map_some]
    congr 1
    by_cases hm : (k : Int) ∈ fr
    · obtain ⟨_, _, _, x', hx', hs⟩ := h.2.2 k hm
      simp only [Int.toNat_natCast] at hx'
      rw [hx] at hx'
      injection hx' with hx'
      subst hx'
      simp only [hm, if_true, LO.to]
      cases x
      simp_all
    · simp only [hm, if_false, decide_false, Bool.or_false]
theorem JL.at {lo0 lo : List LO} {fr : List Int} (h : JL lo0 lo fr) {n : Nat} (hn : n < lo0.length) : ∃ x0 : LO, lo0[n]? = some x0 ∧ lo[n]? = some ⟨x0.kind, x0.set || decide ((n : Int) ∈ fr)⟩ :=
  ⟨_, List.getElem?_eq_getElem hn, h.2.1 n _ (List.getElem?_eq_getElem hn)⟩
theorem JL.step {lo0 lo : List LO} {fr : List Int} (h : JL lo0 lo fr) {n : Nat} {x : LO} (hx : lo[n]? = some x) (h32 : n ≤ 4294967295) : JL lo0 (setL lo fr n x).1 (setL lo fr n x).2 ∧ (setL lo fr n x).1[n]? = some ⟨x.kind, true⟩ := by
  have hn : n < lo.length := (List.getElem?_eq_some_iff.1 hx).1
  have hn0 : n < lo0.length := by rw [← h.1]; exact hn
  obtain ⟨x0, hx0, hx'⟩ := h.at hn0
  rw [hx] at hx'
  injection hx' with hx'
  unfold setL
  by_cases hs : x.set = true
  · rw [if_pos hs]
    refine ⟨h, ?_⟩
    rw [hx]
    cases x
    simp_all
  · rw [if_neg hs]
    have hsf : x.set = false := by simpa using hs
    have h0 : x0.set = false ∧ (n : Int) ∉ fr := by
      rw [hx'] at hsf
      simp only [Bool.or_eq_false_iff, decide_eq_false_iff_not] at hsf
      exact hsf
    refine ⟨⟨by rw [List.length_set]; exact h.1, fun k y hy => ?_, fun m hm => ?_⟩, by rw [List.getElem?_set_self hn]; rfl⟩
    · rw [List.getElem?_set]
      by_cases hk : n = k
      · subst hk
        rw [hx0] at hy
        injection hy with hy
        subst hy
        simp [hn, LO.to, hx']
      · have hne : ¬ ((k : Int) = (n : Int)) := by omega
        simp only [hk, if_false]
        rw [h.2.1 k y hy]
        simp [hne]
    · rcases List.mem_append.1 hm with hm | hm
      · exact h.2.2 m hm
      · simp only [List.mem_cons, List.not_mem_nil, or_false] at hm
        subst hm
        exact ⟨by omega, by simpa using hn0, by omega, x0, by simpa using hx0, h0.1⟩
def erB (x : LO) : Int := if x.set then 0 else 134
theorem locs_len (P Q : List VT) : (locs P Q).length = P.length + Q.length := by simp [locs]
theorem locs_left {P Q : List VT} {n : Nat} {x : LO} (hx : (locs P Q)[n]? = some x) (hn : n < P.length) : x.set = true := by
  unfold locs at hx
  rw [List.getElem?_append_left (by simpa using hn), List.getElem?_map] at hx
  obtain ⟨y, _, rfl⟩ := Option.map_eq_some_iff.1 hx
  rfl
theorem locs_right {P Q : List VT} {n : Nat} {x : LO} (hx : (locs P Q)[n]? = some x) (hn : ¬ n < P.length) : ∃ y, Q[n - P.length]? = some y ∧ x.set = defB y := by
  unfold locs at hx
  rw [List.getElem?_append_right (by simpa using Nat.le_of_not_lt hn), List.getElem?_map] at hx
  simp only [List.length_map] at hx
  obtain ⟨y, hy, rfl⟩ := Option.map_eq_some_iff.1 hx
  exact ⟨y, hy, rfl⟩
end Go.Proofs.YtkghplkmfpnhdaaGreatDoor
