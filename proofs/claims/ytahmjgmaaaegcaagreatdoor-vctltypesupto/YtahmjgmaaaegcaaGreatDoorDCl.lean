/-
  The document's Closed, Count, First; the program's Count; no statement is proved here.
-/
import Derived.Test.YtahmjgmaaaegcaaGreatDoorDFine
namespace Go.Proofs.YtahmjgmaaaegcaaGreatDoor
open Go.RowKit
set_option linter.unusedVariables false
set_option linter.unusedSimpArgs false

def cntT : List RT → Nat
  | [] => 0
  | r :: l => r.types.length + cntT l
def closedF : Nat → List RT → Bool
  | _, [] => true
  | n, r :: l => r.types.all (fun x => fineB x ((n + r.types.length : Nat) : Int)) && closedF (n + r.types.length) l
/- Nothing is too long. -/
def SmlL (L : List RT) : Prop := L.length ≤ 1048576 ∧ cntT L ≤ 1048576 ∧ ∀ r ∈ L, ∀ x ∈ r.types, Sml x
theorem cntT_app (a b : List RT) : cntT (a ++ b) = cntT a + cntT b := by
  induction a with
  | nil => simp [cntT]
  | cons r a ih => rw [List.cons_append, cntT, cntT, ih]; omega
theorem cntT_snoc {L : List RT} {i : Nat} {r : RT} (h : L[i]? = some r) : cntT (L.take (i + 1)) = cntT (L.take i) + r.types.length := by
  rw [take_snoc h, cntT_app]; simp [cntT]
theorem cntT_take (L : List RT) (i : Nat) : cntT (L.take i) ≤ cntT L := by
  have := cntT_app (L.take i) (L.drop i)
  rw [List.take_append_drop] at this
  omega
theorem closedF_at {L : List RT} {i : Nat} {r : RT} (h : L[i]? = some r) (n : Nat) : closedF n (L.drop i) = (r.types.all (fun x => fineB x ((n + r.types.length : Nat) : Int)) && closedF (n + r.types.length) (L.drop (i + 1))) := by
  obtain ⟨hi, hr⟩ := List.getElem?_eq_some_iff.1 h
  rw [List.drop_eq_getElem_cons hi, hr, closedF]
set_option maxRecDepth 100000 in
theorem dcount_any {w : World} {v : Value} {L : List RT} (h : LR w v L) (hm : L.length ≤ 1048576) (hc : cntT L ≤ 1048576) :
    Calls Tryz.prog 67 #[v] w fun en w' => en = .returned (.int .i64 (cntT L : Int)) ∧ Grew w w' := by
  obtain ⟨a, cap, hv, hcap, hmax⟩ := h.one
  subst hv
  have H : Hid (LR w (.slice a L.length cap) L) := h
  clear h
  go_enter Tryz.func67, Tryz.ntmps67
  go_wp2_with fail
  go_loopw [3, 4] (fun n_ i_ w' => ∃ (i n : Nat), i_ = .int .i64 i ∧ n_ = .int .i64 n ∧ Hid (n = cntT (L.take i)) ∧ n ≤ 1048576 ∧ i ≤ L.length ∧ w' = w) (fun _ i_ _ => L.length - (intOf i_).toNat)
  case atStart => exact ⟨0, 0, rfl, rfl, rfl, by omega, Nat.zero_le _, rfl⟩
  case round =>
    obtain ⟨i, n, rfl, rfl, HNN, hn, hi, hwr⟩ := hrel
    subst hwr
    by_cases hlt : i < L.length
    · obtain ⟨r, hr⟩ : ∃ r, L[i]? = some r := ⟨_, List.getElem?_eq_getElem hlt⟩
      obtain ⟨b, off, ha, hc', hE⟩ := H.out.get (by omega)
      subst ha
      obtain ⟨tv, ht, c0, c1⟩ := hE i r hr
      obtain ⟨ta, tc, et, _, _⟩ := ht.one
      subst et
      have d1 : decide ((i : Int) < (L.length : Int)) = true := by simp; omega
      have d2 : decide (i < L.length) = true := by simp; omega
      have HS : Hid (cntT (L.take (i + 1)) = cntT (L.take i) + r.types.length) := cntT_snoc hr
      have hb := cntT_take L (i + 1)
      rw [HS.out, ← HNN.out] at hb
      generalize r.types.length = k at *
      clear hE ht hr
      go_wp2_with fail
      go_roundw
      case rel => exact ⟨i + 1, n + k, by go_num, by go_num, by rw [HS.out, ← HNN.out]; exact rfl, by omega, by omega, by simp⟩
      case measure => simp [intOf]; omega
    · have d1 : decide ((i : Int) < (L.length : Int)) = false := by simp; omega
      have hin : L.take i = L := List.take_of_length_le (by omega)
      have e : cntT L = n := by rw [HNN.out, hin]
      go_wp2_with fail
      go_ret
      exact ⟨by rw [e]; rfl, Grew.refl _⟩
set_option maxRecDepth 100000 in
theorem count_any {w : World} {v : Value} {L : List RT} (h : LR w v L) (hm : L.length ≤ 1048576) (hc : cntT L ≤ 1048576) :
    Calls Tryz.prog 66 #[v] w fun en w' => en = .returned (.int .i64 (cntT L : Int)) ∧ Grew w w' := by
  obtain ⟨a, cap, hv, hcap, hmax⟩ := h.one
  subst hv
  have H : Hid (LR w (.slice a L.length cap) L) := h
  clear h
  go_enter Tryz.func66, Tryz.ntmps66
  go_wp2_with fail
  go_loopw [3, 8] (fun n_ i_ w' => ∃ (i n : Nat), i_ = .int .i64 i ∧ n_ = .int .i64 n ∧ Hid (n = cntT (L.take i)) ∧ n ≤ 1048576 ∧ i ≤ L.length ∧ Hid (Grew w w')) (fun _ i_ _ => L.length - (intOf i_).toNat)
  case atStart => exact ⟨0, 0, rfl, rfl, rfl, by omega, Nat.zero_le _, Grew.refl _⟩
  case round =>
    obtain ⟨i, n, rfl, rfl, HNN, hn, hi, G⟩ := hrel
    by_cases hlt : i < L.length
    · obtain ⟨r, hr⟩ : ∃ r, L[i]? = some r := ⟨_, List.getElem?_eq_getElem hlt⟩
      obtain ⟨b, off, ha, hc', hE⟩ := (H.out.grew G.out).get (by omega)
      subst ha
      obtain ⟨tv, ht, c0, c1⟩ := hE i r hr
      obtain ⟨ta, tc, et, _, _⟩ := ht.one
      subst et
      have d1 : decide ((i : Int) < (L.length : Int)) = true := by simp; omega
      have d2 : decide (i < L.length) = true := by simp; omega
      have HS : Hid (cntT (L.take (i + 1)) = cntT (L.take i) + r.types.length) := cntT_snoc hr
      have hb := cntT_take L (i + 1)
      rw [HS.out, ← HNN.out] at hb
      generalize r.types.length = k at *
      generalize r.explicit = ex at *
      clear hE ht hr
      go_wp2_with fail
      go_roundw
      case rel => exact ⟨i + 1, n + k, by go_num, by go_num, by rw [HS.out, ← HNN.out]; exact rfl, by omega, by omega, G.out.alloc _⟩
      case measure => simp [intOf]; omega
    · have d1 : decide ((i : Int) < (L.length : Int)) = false := by simp; omega
      have hin : L.take i = L := List.take_of_length_le (by omega)
      have e : cntT L = n := by rw [HNN.out, hin]
      go_wp2_with fail
      go_ret
      exact ⟨by rw [e]; rfl, G.out⟩
end Go.Proofs.YtahmjgmaaaegcaaGreatDoor
