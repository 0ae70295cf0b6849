/-
  The walk of Name; no statement is proved here.
-/
import Derived.Test.YtahmjgmaaaegcaaGreatDoorRunO
import Derived.Test.YtahmjgmaaaegcaaGreatDoorCkW
import Derived.Deep.RegionHeld3
import Derived.RegionTactic
namespace Go.Proofs.YtahmjgmaaaegcaaGreatDoor
open Go.RowKit
set_option linter.unusedVariables false
set_option linter.unusedSimpArgs false

theorem lastF_mem (op : Int) : ∀ (l : List (Int × List UInt8 × List UInt8)) f, (lastF op l f = f) ∨ (lastF op l f ∈ l ∧ (lastF op l f).1 ≤ op)
  | [], f => Or.inl rfl
  | r :: l, f => by
    rw [lastF]
    rcases lastF_mem op l (if r.1 ≤ op then r else f) with h | h
    · rw [h]
      by_cases hr : r.1 ≤ op
      · rw [if_pos hr]; exact Or.inr ⟨by simp, hr⟩
      · rw [if_neg hr]; exact Or.inl rfl
    · exact Or.inr ⟨by simp [h.1], h.2⟩
theorem RL_fine : ∀ r ∈ RL, 0 ≤ r.1 ∧ r.1 ≤ 64520 ∧ (r.2.2.all fun c => decide (c.toNat < 128)) = true ∧ r.2.2.length ≤ 1000 ∧ r.2.1.length ≤ 1000 ∧ ((cutW r.2.2 []).all fun x => decide (x.length ≤ 1000)) = true ∧ (cutW r.2.2 []).length ≤ 1000 := by decide +kernel
theorem last_fine (op : Int) : 0 ≤ (lastR op).1 ∧ (lastR op).1 ≤ 64520 ∧ (∀ c ∈ (lastR op).2.2, c.toNat < 128) ∧ (lastR op).2.2.length ≤ 1000 ∧ (lastR op).2.1.length ≤ 1000 ∧ (∀ x ∈ cutW (lastR op).2.2 [], x.length ≤ 1000) ∧ (cutW (lastR op).2.2 []).length ≤ 1000 ∧ ((lastR op).1 ≤ op ∨ (lastR op).1 = 0) := by
  rcases lastF_mem op RL (0, [], []) with h | ⟨h, hle⟩
  · rw [show lastR op = (0, [], []) from h]
    exact ⟨by decide, by decide, by simp, by decide, by decide, by simp [cutW], by decide, Or.inr rfl⟩
  · obtain ⟨h1, h2, h3, h4, h5, h6, h7⟩ := RL_fine _ h
    refine ⟨h1, h2, fun c hc => ?_, h4, h5, fun x hx => ?_, h7, Or.inl hle⟩
    · exact of_decide_eq_true (List.all_eq_true.1 h3 c hc)
    · exact of_decide_eq_true (List.all_eq_true.1 h6 x hx)
theorem str_add (a b : List UInt8) (ha : a.length ≤ 1000) (hb : b.length ≤ 1000) (W : World) : (Op.stringOp .add (BA a) (BA b)).run Tryz.prog W = .ok (.string (BA (a ++ b))) W := by
  rw [run_string_add_sum W _ _ (by rw [BA_size, BA_size]; omega), BA_app]
/- A row of texts at a place. -/
theorem row_at {w : World} {B : Nat} {e : TypeId} {k : Nat} {v : Value} {n : Nat} {cs : List Value} (h : w.ownsRow B e k v n cs) (hn : 0 < n) : ∃ g c, v = .slice (some ⟨g, 0, none⟩) n c ∧ n ≤ c ∧ c ≤ maxLen ∧ g < w.heap.size := by
  obtain ⟨_, ⟨_, h2⟩ | ⟨g, cap, cur, hv, _, hg, h3, h4, _⟩⟩ := h
  · omega
  · exact ⟨g, cap, hv, h3, h4, lt_of_obj hg⟩
theorem wrap_id {x : Int} (h0 : -9223372036854775808 ≤ x) (h1 : x ≤ 9223372036854775807) : IntKind.i64.wrap x = x := by
  rw [IntKind.wrap_i64]; omega
end Go.Proofs.YtahmjgmaaaegcaaGreatDoor
