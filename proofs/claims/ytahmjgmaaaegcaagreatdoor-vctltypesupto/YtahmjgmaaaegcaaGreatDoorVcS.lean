/-
  The law's same; a list of types copied; no statement is proved here.
-/
import Derived.Test.YtahmjgmaaaegcaaGreatDoorVcH
import Derived.Test.YtahmjgmaaaegcaaGreatDoorVmp
import Derived.Lib.Walk
import Derived.Lib.SliceRun
namespace Go.Proofs.YtahmjgmaaaegcaaGreatDoor
open Go.RowKit
set_option linter.unusedVariables false
set_option linter.unusedSimpArgs false

set_option maxRecDepth 100000 in
theorem neqVC (an ah : Int) (au : Bool) (W : World) : (binOp .neq 29 (.agg #[.int .i64 an, .bool au, .int .i64 ah]) (.agg #[.int .i64 an, .bool au, .int .i64 ah])).run Tryz.prog W = .ok (.bool false) W := by
  simp [go_sem]
set_option maxRecDepth 100000 in
set_option maxHeartbeats 1000000 in
theorem sameC_any {w : World} {u v : Value} {l : List VT} (hu : LV w u l) (hv : LV w v l) (hl : l.length ≤ 1048576) :
    Calls Tryz.prog 14 #[u, v] w fun en w' => en = .returned (.bool true) ∧ Grew w w' := by
  obtain ⟨a, ac, h1, _, _⟩ := hu.one
  obtain ⟨b, bc, h2, _, _⟩ := hv.one
  subst h1 h2
  have HU := Hid.mk' hu
  have HV := Hid.mk' hv
  clear hu hv
  go_enter Tryz.func14, Tryz.ntmps14
  go_wp2_with fail
  go_loopw [5] (fun i_ w' => ∃ i : Nat, i_ = .int .i64 i ∧ i ≤ l.length ∧ Hid (Grew w w')) (fun i_ _ => l.length - (intOf i_).toNat)
  case atStart => exact ⟨0, rfl, Nat.zero_le _, Grew.refl _⟩
  case round =>
    obtain ⟨i, rfl, hi, G⟩ := hrel
    obtain ⟨w0, hw0⟩ : ∃ w0, w0 = wr := ⟨_, rfl⟩
    rw [← hw0] at G ⊢
    clear hw0
    by_cases hlt : i < l.length
    · obtain ⟨t, ht⟩ : ∃ t, l[i]? = some t := ⟨_, List.getElem?_eq_getElem hlt⟩
      have d1 : decide ((i : Int) < (l.length : Int)) = true := by simp; omega
      have d2 : decide (i < l.length) = true := by simp; omega
      have i2 : (i : Int) < (l.length : Int) := by omega
      obtain ⟨b4, o4, ha, _, hE⟩ := (HU.out.grew G.out).get (by omega)
      subst ha
      obtain ⟨p0, p1, p2⟩ := hE i t ht
      obtain ⟨b5, o5, hb, _, hE'⟩ := (HV.out.grew G.out).get (by omega)
      subst hb
      obtain ⟨q0, q1, q2⟩ := hE' i t ht
      obtain ⟨n, nul, hp⟩ := t
      simp only at p0 p1 p2 q0 q1 q2
      have hneq := neqVC n hp nul
      clear ht hE hE'
      go_wp2_with fail
      go_quiet (fail)
      go_wp2_with fail
      go_roundw
      case rel => exact ⟨i + 1, by go_num, by omega, G.out.drewN _⟩
      case measure => simp [intOf]; omega
    · have d1 : decide ((i : Int) < (l.length : Int)) = false := by simp; omega
      go_wp2_with fail
      go_ret
      exact ⟨rfl, G.out⟩
/- slices.Clone at value types. -/
theorem cells_of_lv {w : World} {b off : Nat} {l : List VT} (hE : ∀ i x, l[i]? = some x → EV w b (off + i * 3) x) : ∀ j u, (l.flatMap VT.c)[j]? = some u → w.cell? ⟨b, off + j, none⟩ = some u := by
  intro j u hj
  have hlen : (l.flatMap VT.c).length = l.length * 3 := by
    clear hj hE
    induction l with
    | nil => rfl
    | cons a l ih => rw [List.flatMap_cons, List.length_append, ih, List.length_cons]; simp [VT.c]; omega
  have hj2 : j < l.length * 3 := by rw [← hlen]; exact (List.getElem?_eq_some_iff.1 hj).1
  have hd : j / 3 < l.length := by omega
  obtain ⟨x, hx⟩ : ∃ x, l[j / 3]? = some x := ⟨_, List.getElem?_eq_getElem hd⟩
  have hf := flat_at VT.c 3 (fun _ => rfl) l (j / 3) x (j % 3) hx (Nat.mod_lt _ (by decide))
  have ej : j / 3 * 3 + j % 3 = j := by omega
  rw [ej, hj] at hf
  obtain ⟨e0, e1, e2⟩ := hE (j / 3) x hx
  have h3 : j % 3 = 0 ∨ j % 3 = 1 ∨ j % 3 = 2 := by omega
  rcases h3 with h | h | h
  · rw [h] at hf ej
    simp [VT.c] at hf
    subst hf
    rw [show off + j = off + j / 3 * 3 by omega]
    exact e0
  · rw [h] at hf ej
    simp [VT.c] at hf
    subst hf
    rw [show off + j = off + j / 3 * 3 + 1 by omega]
    exact e1
  · rw [h] at hf ej
    simp [VT.c] at hf
    subst hf
    rw [show off + j = off + j / 3 * 3 + 2 by omega]
    exact e2
set_option maxRecDepth 100000 in
set_option maxHeartbeats 2000000 in
theorem clone_any {w : World} {v : Value} {l : List VT} (h : LV w v l) (hl : l.length ≤ 1048576) :
    Calls Tryz.prog 28 #[v] w fun en w' => ∃ u, en = .returned u ∧ LV w' u l ∧ Grew w w' := by
  obtain ⟨a, c, hv, hle, hmx, hz, hd⟩ := h
  subst hv
  have q22 : ∀ (w : World) (a : Option Addr) (n c n' c' : Nat), (binOp .eql 38 (.slice a n c) (.slice none n' c')).run Tryz.prog w = .ok (.bool a.isNone) w := fun w a n c n' c' => Lib.run_eql_slice_nil w _ _ a n c n' c' Tryz.underlying38
  cases a with
  | none =>
    have hc0 : c = 0 := hz rfl
    subst hc0
    have hl0 : l = [] := List.eq_nil_of_length_eq_zero (by omega)
    subst hl0
    go_enter Tryz.func28, Tryz.ntmps28
    go_wp2_with fail
    go_ret
    exact ⟨_, rfl, Lst.nil _ _ _, Grew.refl _⟩
  | some ad =>
    have hsrc : Hid (∀ j u, (l.flatMap VT.c)[j]? = some u → w.cell? (ad.add j) = some u) := by
      rcases hd with rfl | ⟨b, off, ha, hE⟩
      · exact fun j u hj => by simp at hj
      · injection ha with ha
        subst ha
        exact fun j u hj => by rw [Addr.add_lit]; exact cells_of_lv hE j u hj
    have hlen : (l.flatMap VT.c).length = l.length * 3 := by
      clear hsrc hd hle
      induction l with
      | nil => rfl
      | cons a l ih => rw [List.flatMap_cons, List.length_append, ih (by simp at hl; omega), List.length_cons]; simp [VT.c]; omega
    obtain ⟨i0, hi0, hz0, hz1, hz2⟩ := info_parts infoV
    clear hd
    go_enter Tryz.func28, Tryz.ntmps28
    go_wp2_with (at_builtin; refine wpList_append_own _ rfl _ _ 38 rfl w.heap.size 29 i0 _ 3 24 Tryz.underlying38 hi0 hz0 hz1 hz2 rfl (by decide) _ _ _ rfl (World.ownsRow_made w #[] 0 (Nat.le_refl _) (Nat.zero_le _) (by simp)) ad l.length c (l.flatMap VT.c) rfl ?qc1 ?qc2 ?qc3 ?qc4 ?qc5 ?qc6 ?_)
    case qc1 => exact hlen
    case qc2 =>
      intro j u hj
      exact Lib.cell?_alloc_some _ (hsrc.out j u hj)
    case qc3 =>
      intro u hu
      obtain ⟨x, _, hx⟩ := List.mem_flatMap.1 hu
      simp [VT.c] at hx
      rcases hx with rfl | rfl | rfl <;> rfl
    case qc4 => rw [Nat.zero_add]; unfold maxLen; omega
    case qc5 => rw [Nat.zero_add]; omega
    case qc6 => simp
    intro v' w1 hown hgrow hnil
    go_wp2
    go_ret
    refine ⟨v', rfl, RowV.lst (B := w.heap.size) (by unfold RowV; simpa using hown), ?_⟩
    exact grew_by ((Grew.refl w).alloc _) hgrow (Nat.le_refl _)
end Go.Proofs.YtahmjgmaaaegcaaGreatDoor
