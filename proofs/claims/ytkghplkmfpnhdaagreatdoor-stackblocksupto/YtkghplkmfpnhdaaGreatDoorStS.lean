/-
  The law's same; what a checker is begun with; unset where nothing was set; no statement is proved here.
-/
import Derived.Test.YtkghplkmfpnhdaaGreatDoorCaQ
import Derived.Test.YtkghplkmfpnhdaaGreatDoorNeW
import Derived.Test.YtkghplkmfpnhdaaGreatDoorRfN
namespace Go.Proofs.YtkghplkmfpnhdaaGreatDoor
open Go.RowKit
set_option linter.unusedVariables false
set_option linter.unusedSimpArgs false

set_option maxRecDepth 100000 in
theorem neqVT (an ah : Int) (au : Bool) (W : World) : (binOp .neq 44 (.agg #[.int .i64 an, .bool au, .int .i64 ah]) (.agg #[.int .i64 an, .bool au, .int .i64 ah])).run Tryz.prog W = .ok (.bool false) W := by
  simp [go_sem]
set_option maxRecDepth 100000 in
set_option maxHeartbeats 1000000 in
theorem same_any {w : World} {u v : Value} {l : List VT} (hu : LV w u l) (hv : LV w v l) (hl : l.length ≤ 1048576) :
    Calls Tryz.prog 14 #[u, v] w fun en w' => en = .returned (.bool true) ∧ Grew w w' := by
  obtain ⟨a, ac, h1, _, _⟩ := hu.one
  obtain ⟨b, bc, h2, _, _⟩ := hv.one
  subst h1 h2
  have HU := Hid.mk' hu
  have HV := Hid.mk' hv
  clear hu hv
  go_enter Tryz.func14, Tryz.ntmps14
  go_wp2_with fail
  go_loopw [5] (fun i_ w' => ∃ i : Nat, i_ = .int .i64 i ∧ i ≤ l.length ∧ Hid (Grew w w')) (fun i_ _ => l.length - (intOf i_).toNat)
  case atStart => exact ⟨0, rfl, Nat.zero_le _, Grew.refl _⟩
  case round =>
    obtain ⟨i, rfl, hi, G⟩ := hrel
    obtain ⟨w0, hw0⟩ : ∃ w0, w0 = wr := ⟨_, rfl⟩
    rw [← hw0] at G ⊢
    clear hw0
    by_cases hlt : i < l.length
    · obtain ⟨t, ht⟩ : ∃ t, l[i]? = some t := ⟨_, List.getElem?_eq_getElem hlt⟩
      have d1 : decide ((i : Int) < (l.length : Int)) = true := by simp; omega
      have d2 : decide (i < l.length) = true := by simp; omega
      have i2 : (i : Int) < (l.length : Int) := by omega
      obtain ⟨b4, o4, ha, _, hE⟩ := (HU.out.grew G.out).get (by omega)
      subst ha
      obtain ⟨p0, p1, p2⟩ := hE i t ht
      obtain ⟨b5, o5, hb, _, hE'⟩ := (HV.out.grew G.out).get (by omega)
      subst hb
      obtain ⟨q0, q1, q2⟩ := hE' i t ht
      obtain ⟨n, nul, hp⟩ := t
      simp only at p0 p1 p2 q0 q1 q2
      have hneq := neqVT n hp nul
      clear ht hE hE'
      go_wp2_with fail
      go_quiet (fail)
      go_wp2_with fail
      go_roundw
      case rel => exact ⟨i + 1, by go_num, by omega, G.out.drewN _⟩
      case measure => simp [intOf]; omega
    · have d1 : decide ((i : Int) < (l.length : Int)) = false := by simp; omega
      go_wp2_with fail
      go_ret
      exact ⟨rfl, G.out⟩
set_option maxRecDepth 100000 in
theorem unsetE {B : Nat} {w : World} {C : Nat} {lv fv ov qv : Value} {lo : List LO} {fr : List Int} {ops : List VT} {fs : List FV} (h : CK B w C lv fv ov qv lo fr ops fs) (hm : fr.length ≤ 1048576) :
    Calls Tryz.prog 41 #[.pointer (some ⟨C, 0, none⟩), .int .i64 (fr.length : Int)] w fun en w' => ∃ fv', en = .returned (.tuple #[]) ∧ CK B w' C lv fv' ov qv lo fr ops fs ∧ KB B w w' ∧ Two C lv w w' := by
  have c4 := h.c4
  have H := Hid.mk' h
  obtain ⟨fa, fc, hfv, hfc, hfm, hf0⟩ := row_max h.rfr
  subst hfv
  have hCl := h.lt
  clear h
  go_enter Tryz.func41, Tryz.ntmps41
  have d0 : decide ((fr.length : Int) ≤ (fr.length : Int)) = true := by simp
  go_wp2_with fail
  all_goals
    go_loopw [14] (fun i_ w' => i_ = .int .i64 0 ∧ Hid (w' = w)) (fun _ _ => 0)
    case atStart => exact ⟨rfl, rfl⟩
    case round =>
      obtain ⟨rfl, hw⟩ := hrel
      obtain rfl := hw.out.symm
      clear hw
      have CC := cutU_any H.out (m := fr.length) (Nat.le_refl _)
      rw [List.take_length] at CC
      go_wp2_with fail
      refine CC.mono ?_
      rintro en w2 ⟨v2, rfl, K2, B2, T2, _⟩
      have H2 := Hid.mk' K2
      have HB2 := Hid.mk' B2
      have HT2 := Hid.mk' T2
      clear K2 B2 T2 CC
      go_wp2_with fail
      go_end0
      exact ⟨v2, rfl, H2.out, HB2.out, fun x hx hC _ => HT2.out x hx hC (by simp [Value.ownBlock])⟩
end Go.Proofs.YtkghplkmfpnhdaaGreatDoor
