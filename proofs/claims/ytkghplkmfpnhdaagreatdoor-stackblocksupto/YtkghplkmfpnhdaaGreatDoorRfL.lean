/-
  The document's list and flags, the law's list; no statement is proved here.
-/
import Derived.Test.YtkghplkmfpnhdaaGreatDoorPiL
namespace Go.Proofs.YtkghplkmfpnhdaaGreatDoor
open Go.RowKit
set_option linter.unusedVariables false
set_option linter.unusedSimpArgs false

set_option maxRecDepth 100000 in
set_option maxHeartbeats 1000000 in
theorem rlist_any {w : World} {v : Value} {l : List VT} (h : LV w v l) (hl : l.length ≤ 1048576) :
    Calls Tryz.prog 52 #[v] w fun en w' => ∃ u, en = .returned u ∧ RowV w.heap.size w' u l ∧ Grew w w' := by
  obtain ⟨a, cap, hv, hcap, hmax⟩ := h.one
  subst hv
  have H : Hid (LV w (.slice a l.length cap) l) := h
  clear h
  go_enter Tryz.func52, Tryz.ntmps52
  go_wp2_with fail
  go_loopw [3, 4] (fun v_ i_ w' => ∃ (i : Nat) (m : List VT), i_ = .int .i64 i ∧ i ≤ l.length ∧ Hid (m = l.take i) ∧ m.length ≤ i ∧ Hid (RowV w.heap.size w' v_ m) ∧ Hid (Grew w w')) (fun _ i_ _ => l.length - (intOf i_).toNat)
  case atStart => exact ⟨0, [], rfl, Nat.zero_le _, rfl, by simp, RowV.nil _ _, Grew.refl _⟩
  case round =>
    obtain ⟨i, m, rfl, hi, HM, hml, R, G⟩ := hrel
    obtain ⟨w0, hw0⟩ : ∃ w0, w0 = wr := ⟨_, rfl⟩
    rw [← hw0] at G R ⊢
    clear hw0
    obtain ⟨ra, rc, hra, hrc, hrm, _⟩ := row_max R.out
    subst hra
    by_cases hlt : i < l.length
    · obtain ⟨x, hx⟩ : ∃ x, l[i]? = some x := ⟨_, List.getElem?_eq_getElem hlt⟩
      obtain ⟨b, off, ha, hc', hE⟩ := (H.out.grew G.out).get (by omega)
      subst ha
      obtain ⟨c0, c1, c2⟩ := hE i x hx
      clear hE
      have d1 : decide ((i : Int) < (l.length : Int)) = true := by simp; omega
      have d2 : decide (i < l.length) = true := by simp; omega
      have HS : Hid (l.take (i + 1) = m ++ [x]) := (by rw [HM.out, take_snoc hx] : l.take (i + 1) = m ++ [x])
      obtain ⟨tn, tz, th⟩ := x
      simp only at c0 c1 c2
      have R1 : Hid (RowV w.heap.size w0 (.slice ra m.length rc) m) := R.out
      have hgs := G.out.2
      clear hx R
      go_wp2_with (at_builtin; refine wp_app1 (v := .slice ra m.length rc) (n := m.length) (cs := m.flatMap VT.c) (B := w.heap.size) rfl _ _ 23 44 3 24 _ Tryz.underlying23 infoV rfl (by decide) (by decide) rfl w.heap.size rfl rfl R1.out hgs rfl (by simp [Value.oneCell']) (by omega) ?_; intro v3 w3 hO3 hT3 hG3)
      go_roundw
      case rel => exact ⟨i + 1, m ++ [(⟨tn, tz, th⟩ : VT)], by go_num, by omega, HS.out.symm, by simp; omega, RowV.snoc (a := (⟨tn, tz, th⟩ : VT)) hO3, hT3.grew' G.out (Nat.le_refl _) (Nat.le_refl _)⟩
      case measure => simp [intOf]; omega
    · have d1 : decide ((i : Int) < (l.length : Int)) = false := by simp; omega
      have hin : l.take i = l := List.take_of_length_le (by omega)
      have e : l = m := by rw [HM.out, hin]
      go_wp2_with fail
      go_ret
      exact ⟨_, rfl, by rw [e]; exact R.out, G.out⟩
def bc (x : Bool) : List Value := [.bool x]
def EB (w : World) (b o : Nat) (x : Bool) : Prop := w.cell? ⟨b, o, none⟩ = some (.bool x)
abbrev LB := Lst 1 EB
theorem LB.grew {w w' : World} {v : Value} {l : List Bool} (h : LB w v l) (g : Grew w w') : LB w' v l := Lst.grew (E := EB) (fun _ _ _ _ _ h g => cell_grew h g) h g
theorem infoBo : (Tryz.prog.info? 4).map (fun i => (i.zero, i.size, i.bytes)) = some (some (.bool false), 1, 1) := by kernel_rfl
def RowB (B : Nat) (w : World) (v : Value) (l : List Bool) : Prop := w.ownsRow B 4 1 v l.length (l.flatMap bc)
theorem RowB.nil (B : Nat) (w : World) : RowB B w NILS [] := World.ownsRow_nil _ _ _ _
theorem RowB.snoc {B : Nat} {w : World} {v : Value} {l : List Bool} {a : Bool} (h : w.ownsRow B 4 1 v (l.length + 1) (l.flatMap bc ++ bc a)) : RowB B w v (l ++ [a]) := by
  unfold RowB
  rw [List.length_append, List.flatMap_append]
  simpa using h
theorem RowB.lst {B : Nat} {w : World} {v : Value} {l : List Bool} (h : RowB B w v l) : LB w v l := row_lst (f := bc) (k := 1) (E := EB) (fun _ => rfl) h (fun b o x hh => hh 0 (by decide))
set_option maxRecDepth 100000 in
set_option maxHeartbeats 1000000 in
theorem flags_any {w : World} {v : Value} {l : List Bool} (h : LB w v l) (hl : l.length ≤ 1048576) :
    Calls Tryz.prog 53 #[v] w fun en w' => ∃ u, en = .returned u ∧ RowB w.heap.size w' u l ∧ Grew w w' := by
  obtain ⟨a, cap, hv, hcap, hmax⟩ := h.one
  subst hv
  have H : Hid (LB w (.slice a l.length cap) l) := h
  clear h
  go_enter Tryz.func53, Tryz.ntmps53
  go_wp2_with fail
  go_loopw [3, 4] (fun v_ i_ w' => ∃ (i : Nat) (m : List Bool), i_ = .int .i64 i ∧ i ≤ l.length ∧ Hid (m = l.take i) ∧ m.length ≤ i ∧ Hid (RowB w.heap.size w' v_ m) ∧ Hid (Grew w w')) (fun _ i_ _ => l.length - (intOf i_).toNat)
  case atStart => exact ⟨0, [], rfl, Nat.zero_le _, rfl, by simp, RowB.nil _ _, Grew.refl _⟩
  case round =>
    obtain ⟨i, m, rfl, hi, HM, hml, R, G⟩ := hrel
    obtain ⟨w0, hw0⟩ : ∃ w0, w0 = wr := ⟨_, rfl⟩
    rw [← hw0] at G R ⊢
    clear hw0
    obtain ⟨ra, rc, hra, hrc, hrm, _⟩ := row_max R.out
    subst hra
    by_cases hlt : i < l.length
    · obtain ⟨x, hx⟩ : ∃ x, l[i]? = some x := ⟨_, List.getElem?_eq_getElem hlt⟩
      obtain ⟨b, off, ha, hc', hE⟩ := (H.out.grew G.out).get (by omega)
      subst ha
      have c0 := hE i x hx
      unfold EB at c0
      rw [Nat.mul_one] at c0
      clear hE
      have d1 : decide ((i : Int) < (l.length : Int)) = true := by simp; omega
      have d2 : decide (i < l.length) = true := by simp; omega
      have HS : Hid (l.take (i + 1) = m ++ [x]) := (by rw [HM.out, take_snoc hx] : l.take (i + 1) = m ++ [x])
      skip
      have R1 : Hid (RowB w.heap.size w0 (.slice ra m.length rc) m) := R.out
      have hgs := G.out.2
      clear hx R
      go_wp2_with (at_builtin; refine wp_app1 (v := .slice ra m.length rc) (n := m.length) (cs := m.flatMap bc) (B := w.heap.size) rfl _ _ 90 4 1 1 _ Tryz.underlying90 infoBo rfl (by decide) (by decide) rfl w.heap.size rfl rfl R1.out hgs rfl (by simp [Value.oneCell']) (by omega) ?_; intro v3 w3 hO3 hT3 hG3)
      go_roundw
      case rel => exact ⟨i + 1, m ++ [x], by go_num, by omega, HS.out.symm, by simp; omega, RowB.snoc (a := x) hO3, hT3.grew' G.out (Nat.le_refl _) (Nat.le_refl _)⟩
      case measure => simp [intOf]; omega
    · have d1 : decide ((i : Int) < (l.length : Int)) = false := by simp; omega
      have hin : l.take i = l := List.take_of_length_le (by omega)
      have e : l = m := by rw [HM.out, hin]
      go_wp2_with fail
      go_ret
      exact ⟨_, rfl, by rw [e]; exact R.out, G.out⟩
set_option maxRecDepth 100000 in
set_option maxHeartbeats 1000000 in
theorem llist_any {w : World} {v : Value} {l : List VT} (h : LV w v l) (hl : l.length ≤ 1048576) :
    Calls Tryz.prog 11 #[v] w fun en w' => ∃ u, en = .returned u ∧ RowV w.heap.size w' u l ∧ Grew w w' := by
  obtain ⟨a, cap, hv, hcap, hmax⟩ := h.one
  subst hv
  have H : Hid (LV w (.slice a l.length cap) l) := h
  have R0 : Hid (RowV w.heap.size (w.alloc (.cells #[] 44)) (.slice (some ⟨w.heap.size, 0, none⟩) 0 0) []) := ⟨by simp, Or.inr ⟨w.heap.size, 0, #[], rfl, Nat.le_refl _, heap_alloc_last _ _, Nat.le_refl _, by decide, by simp, by simp⟩⟩
  clear h
  go_enter Tryz.func11, Tryz.ntmps11
  go_wp2_with (at_builtin; refine wp_appR (v := .slice (some ⟨w.heap.size, 0, none⟩) 0 0) (n := 0) (cs := []) (B := w.heap.size) rfl _ _ 23 44 3 24 _ Tryz.underlying23 infoV rfl (by decide) (by decide) rfl rfl rfl R0.out (H.out.raw.grew ((Grew.refl w).alloc _)) (by simp) (by omega) ?_; intro v2 w2 hO2 hK2 hG2)
  go_ret
  refine ⟨_, rfl, ?_, KB.grew ((Grew.refl w).alloc _) hK2⟩
  rw [Nat.zero_add, List.nil_append] at hO2
  exact hO2
end Go.Proofs.YtkghplkmfpnhdaaGreatDoor
