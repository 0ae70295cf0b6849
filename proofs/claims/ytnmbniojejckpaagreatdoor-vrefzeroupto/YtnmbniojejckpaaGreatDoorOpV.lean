/-
  What the arguments of vref's laws give: a context with its lists, an instruction; no statement is proved here.
-/
import Derived.Test.YtnmbniojejckpaaGreatDoorVfSc
import Derived.Test.YtnmbniojejckpaaGreatDoorVfSb
import Derived.Deep.RegionHeld3
import Derived.Laws.Rows
import Derived.Deep.MidRow
import Derived.Test.YtnmbniojejckpaaGreatDoorMdN
import Derived.Test.YtnmbniojejckpaaGreatDoorVfA
import Derived.Lib.SmallJoins
set_option maxRecDepth 100000
set_option maxHeartbeats 8000000
namespace Go.Proofs.YtnmbniojejckpaaGreatDoor
open Go.RowKit
set_option linter.unusedVariables false
set_option linter.unusedSimpArgs false
section
variable {gv : Value} {L : List RT} {W0 w : World} {C : Nat} {lv fv ov : Value} {g c : Nat} {lo : List LO} {fr : List Int} {ops : List VT} {fs : List FV} {x : FV}
theorem pops_nil (h : CHG gv W0.heap.size w C lv fv ov (.slice (some ⟨g, 0, none⟩) (fs.length + 1) c) lo fr ops (fs ++ [x])) :
    Calls Tryz.prog 17 #[.pointer (some ⟨C, 0, none⟩), .slice none 0 0] w fun en w' => en = .returned (.int .i64 0) ∧ Grew w w' := by
  have C1 := zeroMk h
  have hCl := h.lt
  obtain ⟨oa, oc, hov, _⟩ := row_max h.rops
  subst hov
  have c1 := h.c5
  clear h
  go_enter Tryz.func17, Tryz.ntmps17
  go_wp2_with fail
  refine wp_scope_jumps 0 (fun _ _ => False) (fun _ _ => 0) rfl ?_ ?_
  rotate_left
  · intro a' w' hx
    exact hx.elim
  go_wp2_with fail
  refine C1.mono ?_
  rintro en w1 ⟨rfl, hw⟩
  obtain rfl := hw.symm
  clear hw C1
  go_wp2_with fail
  have ga : Grew w (w.alloc (.cells #[.slice oa ops.length oc] 58)) := (Grew.refl w).alloc _
  have GA := Hid.mk' ga
  clear ga
  go_loopw [6, 7] (fun e_ n_ w' => e_ = .int .i64 0 ∧ n_ = .int .i64 (-1) ∧ Hid (w' = w.alloc (.cells #[.slice oa ops.length oc] 58))) (fun _ _ _ => 0)
  case atStart => exact ⟨rfl, rfl, rfl⟩
  case round =>
    obtain ⟨rfl, rfl, hw⟩ := hrel
    go_wp2_with fail
    simp only [Exit.jump]
    go_ret
    exact ⟨rfl, by rw [hw.out]; exact GA.out⟩
end
/- A fresh checker pops no types. -/
def FRP (C : Nat) (w : World) : Prop := ∀ X, Grew w X → Calls Tryz.prog 17 #[.pointer (some ⟨C, 0, none⟩), .slice none 0 0] X fun en w' => en = .returned (.int .i64 0) ∧ Grew X w'
theorem New_fresh3 (w : World) : Calls Tryz.prog 11 #[NILS, NILS, NILS, NILS] w fun en w' => ∃ C W0, en = .returned (.pointer (some ⟨C, 0, none⟩)) ∧ Grew w W0 ∧ Grew W0 w' ∧ (Tab W0 → FRS W0.heap.size C w') ∧ FRL C w' ∧ FRP C w' := by
  refine (new_any2 (P := []) (Q := []) (R := []) (L := []) ⟨none, 0, rfl⟩ (fun X _ => (groupsOf_any (l := []) lst_nil (by decide) (by simp)).mono ?_) lst_nil lst_nil lst_nil (by decide) (by decide)).mono ?_
  · rintro en w1 ⟨⟨g, rfl⟩, g1⟩
    exact ⟨g, rfl, lst_nil0 _, g1⟩
  · rintro en w1 ⟨C, lv', qv, x, gv, W0, rfl, h1, _, h3, ⟨ho, hu⟩, h4, h5, h6, h7⟩
    have h6' := h6
    obtain ⟨_, _, _, _, _, ⟨_, ⟨h8, h9⟩ | ⟨g, cap, cur, hv, _, _, h10, h11, _⟩⟩, _⟩ := h6
    · simp at h9
    · subst hv
      exact ⟨C, W0, rfl, h4, h7, fun ht => frs_of h1 h3 ⟨h5, ⟨⟨by decide, by decide, fun r h => by cases h⟩, (fun r h => by cases h), (fun r h => by cases h)⟩, ht⟩ h6' h7, fun X n k hn => Label_one (h6'.grew k) ho hu hn, fun X k => pops_nil (fs := []) (h6'.grew k)⟩
/- The opcodes that the table has. -/
def takesR (op : Int) : Bool := decide (208 ≤ op ∧ op ≤ 212) || decide (64256 ≤ op ∧ op ≤ 64286)
theorem takesR_ne {op c : Int} (h : takesR op = false) (hc : takesR c = true) : (op == c) = false := by
  rw [beq_eq_false_iff_ne]
  intro e
  rw [e, hc] at h
  cases h
theorem takesR_all {op : Int} (h : takesR op = true) : op = 208 ∨ op = 209 ∨ op = 210 ∨ op = 211 ∨ op = 212 ∨ op = 64256 ∨ op = 64257 ∨ op = 64258 ∨ op = 64259 ∨ op = 64260 ∨ op = 64261 ∨ op = 64262 ∨ op = 64263 ∨ op = 64264 ∨ op = 64265 ∨ op = 64266 ∨ op = 64267 ∨ op = 64268 ∨ op = 64269 ∨ op = 64270 ∨ op = 64271 ∨ op = 64272 ∨ op = 64273 ∨ op = 64274 ∨ op = 64275 ∨ op = 64276 ∨ op = 64277 ∨ op = 64278 ∨ op = 64279 ∨ op = 64280 ∨ op = 64281 ∨ op = 64282 ∨ op = 64283 ∨ op = 64284 ∨ op = 64285 ∨ op = 64286 := by
  unfold takesR at h
  simp at h
  omega
section
variable {B C : Nat} {w : World} {cx : Array Value} {TT : List RT} {FL : List Int} {EL : List VT} {RB : List Bool} {dt : Int} {es : Array Value} {op : Int} {n ny N : Nat} {sl : List VT}
theorem stepOf_sq (H : FA B C w cx TT FL EL RB dt es op n ny N sl) (ht : takesR op = true) {X : World} (g : Grew w X) : Calls Tryz.prog 16 #[.agg cx, .agg es] X (SQ B C X) := by
  rcases takesR_all ht with rfl | rfl | rfl | rfl | rfl | rfl | rfl | rfl | rfl | rfl | rfl | rfl | rfl | rfl | rfl | rfl | rfl | rfl | rfl | rfl | rfl | rfl | rfl | rfl | rfl | rfl | rfl | rfl | rfl | rfl | rfl | rfl | rfl | rfl | rfl | rfl
  · exact so_208_sq H g
  · exact so_209_sq H g
  · exact so_210_sq H g
  · exact so_211_sq H g
  · exact so_212_sq H g
  · exact so_64256_sq H g
  · exact so_64257_sq H g
  · exact so_64258_sq H g
  · exact so_64259_sq H g
  · exact so_64260_sq H g
  · exact so_64261_sq H g
  · exact so_64262_sq H g
  · exact so_64263_sq H g
  · exact so_64264_sq H g
  · exact so_64265_sq H g
  · exact so_64266_sq H g
  · exact so_64267_sq H g
  · exact so_64268_sq H g
  · exact so_64269_sq H g
  · exact so_64270_sq H g
  · exact so_64271_sq H g
  · exact so_64272_sq H g
  · exact so_64273_sq H g
  · exact so_64274_sq H g
  · exact so_64275_sq H g
  · exact so_64276_sq H g
  · exact so_64277_sq H g
  · exact so_64278_sq H g
  · exact so_64279_sq H g
  · exact so_64280_sq H g
  · exact so_64281_sq H g
  · exact so_64282_sq H g
  · exact so_64283_sq H g
  · exact so_64284_sq H g
  · exact so_64285_sq H g
  · exact so_64286_sq H g
theorem sc_no_z (H : FA B C w cx TT FL EL RB dt es op n ny N sl) (ht : takesR op = false) {X : World} (g : Grew w X) : Calls Tryz.prog 48 #[.agg cx, .agg es] X fun en w' => en = .returned .nilFunc ∧ Grew X w' := by
  have N1 : ((X.alloc (.cells cx 30)).alloc (.cells es 52)).heap[X.heap.size + 1]? = some (.cells es 52 (0, 0)) := by
    have := heap_alloc_last (X.alloc (.cells cx 30)) (.cells es 52)
    rw [alloc_size] at this
    exact this
  have N0 : ((X.alloc (.cells cx 30)).alloc (.cells es 52)).heap[X.heap.size]? = some (.cells cx 30 (0, 0)) := heap_alloc (heap_alloc_last _ _) _
  have HN := Hid.mk' N1
  have HM := Hid.mk' N0
  have hsz := H.c.sz
  have hes := H.i.sz
  have HH := Hid.mk' H
  have Hg := Hid.mk' g
  have o0 := (cell_of N1 0).trans H.i.h0
  have ox : es[0]'(by rw [hes]; decide) = .int .i64 op := getE H.i.h0
  have hd : ∀ c, takesR c = true → (op == c) = false := fun c hc => takesR_ne ht hc
  have e64276 := hd 64276 (by decide)
  have e64277 := hd 64277 (by decide)
  have e64278 := hd 64278 (by decide)
  have e64279 := hd 64279 (by decide)
  have e64280 := hd 64280 (by decide)
  have e64281 := hd 64281 (by decide)
  have e64282 := hd 64282 (by decide)
  have e64283 := hd 64283 (by decide)
  have e64284 := hd 64284 (by decide)
  have e64285 := hd 64285 (by decide)
  have e64286 := hd 64286 (by decide)
  clear N1 N0 H g hd ht
  go_enter Tryz.func48, Tryz.ntmps48
  go_wp2_with (first
    | (with_reducible refine stop_load 30 rfl ?_
       unfold Stop
       refine wpList_load_row rfl 30 _ rfl (X.heap.size) (by go_simp) 30 cx (0, 0) _ HM.out Tryz.underlying30 rfl (by rw [hsz]; kernel_rfl) ?_)
    | (with_reducible refine stop_load 52 rfl ?_
       unfold Stop
       refine wpList_load_row rfl 52 _ rfl (X.heap.size + 1) (by go_simp) 52 es (0, 0) _ HN.out Tryz.underlying52 rfl (by rw [hes]; kernel_rfl) ?_)
    | fail)
  go_ret
  exact ⟨rfl, (by repeat (first | with_reducible exact Grew.refl _ | refine Grew.alloc ?_ _ | refine Grew.set ?_ (by simp) _ | refine Grew.drewN ?_ _ | refine Grew.drew ?_))⟩
theorem so_no_z (H : FA B C w cx TT FL EL RB dt es op n ny N sl) (ht : takesR op = false) {X : World} (g : Grew w X) : Calls Tryz.prog 16 #[.agg cx, .agg es] X fun en w' => en = .returned .nilFunc ∧ Grew X w' := by
  have N1 : ((X.alloc (.cells cx 30)).alloc (.cells es 52)).heap[X.heap.size + 1]? = some (.cells es 52 (0, 0)) := by
    have := heap_alloc_last (X.alloc (.cells cx 30)) (.cells es 52)
    rw [alloc_size] at this
    exact this
  have N0 : ((X.alloc (.cells cx 30)).alloc (.cells es 52)).heap[X.heap.size]? = some (.cells cx 30 (0, 0)) := heap_alloc (heap_alloc_last _ _) _
  have HN := Hid.mk' N1
  have HM := Hid.mk' N0
  have hsz := H.c.sz
  have hes := H.i.sz
  have HH := Hid.mk' H
  have Hg := Hid.mk' g
  have o0 := (cell_of N1 0).trans H.i.h0
  have ox : es[0]'(by rw [hes]; decide) = .int .i64 op := getE H.i.h0
  have CQ : Hid (∀ Y, Grew ((X.alloc (.cells cx 30)).alloc (.cells es 52)) Y → Calls Tryz.prog 48 #[.agg cx, .agg es] Y fun en w' => en = .returned .nilFunc ∧ Grew Y w') := fun Y gY => sc_no_z HH.out ht ((Hg.out.trans (by repeat (first | with_reducible exact Grew.refl _ | refine Grew.alloc ?_ _ | refine Grew.set ?_ (by simp) _ | refine Grew.drewN ?_ _ | refine Grew.drew ?_))).trans gY)
  have hd : ∀ c, takesR c = true → (op == c) = false := fun c hc => takesR_ne ht hc
  have e208 := hd 208 (by decide)
  have e209 := hd 209 (by decide)
  have e210 := hd 210 (by decide)
  have e211 := hd 211 (by decide)
  have e212 := hd 212 (by decide)
  have e64256 := hd 64256 (by decide)
  have e64257 := hd 64257 (by decide)
  have e64258 := hd 64258 (by decide)
  have e64259 := hd 64259 (by decide)
  have e64260 := hd 64260 (by decide)
  have e64261 := hd 64261 (by decide)
  have e64262 := hd 64262 (by decide)
  have e64263 := hd 64263 (by decide)
  have e64264 := hd 64264 (by decide)
  have e64265 := hd 64265 (by decide)
  have e64266 := hd 64266 (by decide)
  have e64267 := hd 64267 (by decide)
  have e64268 := hd 64268 (by decide)
  have e64269 := hd 64269 (by decide)
  have e64270 := hd 64270 (by decide)
  have e64271 := hd 64271 (by decide)
  have e64272 := hd 64272 (by decide)
  have e64273 := hd 64273 (by decide)
  have e64274 := hd 64274 (by decide)
  have e64275 := hd 64275 (by decide)
  clear N1 N0 H g hd ht
  go_enter Tryz.func16, Tryz.ntmps16
  go_wp2_with (first
    | (with_reducible refine stop_load 30 rfl ?_
       unfold Stop
       refine wpList_load_row rfl 30 _ rfl (X.heap.size) (by go_simp) 30 cx (0, 0) _ HM.out Tryz.underlying30 rfl (by rw [hsz]; kernel_rfl) ?_)
    | (with_reducible refine stop_load 52 rfl ?_
       unfold Stop
       refine wpList_load_row rfl 52 _ rfl (X.heap.size + 1) (by go_simp) 52 es (0, 0) _ HN.out Tryz.underlying52 rfl (by rw [hes]; kernel_rfl) ?_)
    | fail)
  refine (CQ.out _ (by repeat (first | with_reducible exact Grew.refl _ | refine Grew.alloc ?_ _ | refine Grew.set ?_ (by simp) _ | refine Grew.drewN ?_ _ | refine Grew.drew ?_))).mono ?_
  rintro en w1 ⟨rfl, g1⟩
  have G1 := Hid.mk' g1
  clear g1
  go_wp2_with fail
  go_ret
  exact ⟨rfl, Grew.trans (by repeat (first | with_reducible exact Grew.refl _ | refine Grew.alloc ?_ _ | refine Grew.set ?_ (by simp) _ | refine Grew.drewN ?_ _ | refine Grew.drew ?_)) G1.out⟩
theorem eq_fnn (n : Nat) (A B : Array Value) (w : World) : (binOp .eql 72 (.func (.func n) A B) .nilFunc).run Tryz.prog w = .ok (.bool false) w := by kernel_rfl
theorem eq_fn0 (w : World) : (binOp .eql 72 .nilFunc .nilFunc).run Tryz.prog w = .ok (.bool true) w := by kernel_rfl
theorem step_fresh (H : FA B C w cx TT FL EL RB dt es op n ny N sl) (P : FRP C w) {X : World} (g : Grew w X) : Calls Tryz.prog 10 #[.agg cx, .pointer (some ⟨C, 0, none⟩), .agg es] X fun en w' => ∃ e : Int, en = .returned (.int .i64 e) ∧ (e = 6 ↔ takesR op = false) ∧ KB B X w' := by
  have N1 : ((X.alloc (.cells cx 30)).alloc (.cells es 52)).heap[X.heap.size + 1]? = some (.cells es 52 (0, 0)) := by
    have := heap_alloc_last (X.alloc (.cells cx 30)) (.cells es 52)
    rw [alloc_size] at this
    exact this
  have N0 : ((X.alloc (.cells cx 30)).alloc (.cells es 52)).heap[X.heap.size]? = some (.cells cx 30 (0, 0)) := heap_alloc (heap_alloc_last _ _) _
  have HN := Hid.mk' N1
  have HM := Hid.mk' N0
  have hsz := H.c.sz
  have hes := H.i.sz
  have HH := Hid.mk' H
  have Hg := Hid.mk' g
  have CP : Hid (∀ Y, Grew ((X.alloc (.cells cx 30)).alloc (.cells es 52)) Y → Calls Tryz.prog 17 #[.pointer (some ⟨C, 0, none⟩), .slice none 0 0] Y fun en w' => en = .returned (.int .i64 0) ∧ Grew Y w') := fun Y gY => P Y ((Hg.out.trans (by repeat (first | with_reducible exact Grew.refl _ | refine Grew.alloc ?_ _ | refine Grew.set ?_ (by simp) _ | refine Grew.drewN ?_ _ | refine Grew.drew ?_))).trans gY)
  have CY : Hid (takesR op = true → ∀ Y, Grew ((X.alloc (.cells cx 30)).alloc (.cells es 52)) Y → Calls Tryz.prog 16 #[.agg cx, .agg es] Y (SQ B C Y)) := fun ht Y gY => stepOf_sq HH.out ht ((Hg.out.trans (by repeat (first | with_reducible exact Grew.refl _ | refine Grew.alloc ?_ _ | refine Grew.set ?_ (by simp) _ | refine Grew.drewN ?_ _ | refine Grew.drew ?_))).trans gY)
  have CN : Hid (takesR op = false → ∀ Y, Grew ((X.alloc (.cells cx 30)).alloc (.cells es 52)) Y → Calls Tryz.prog 16 #[.agg cx, .agg es] Y fun en w' => en = .returned .nilFunc ∧ Grew Y w') := fun ht Y gY => so_no_z HH.out ht ((Hg.out.trans (by repeat (first | with_reducible exact Grew.refl _ | refine Grew.alloc ?_ _ | refine Grew.set ?_ (by simp) _ | refine Grew.drewN ?_ _ | refine Grew.drew ?_))).trans gY)
  have HBX : Hid (B ≤ X.heap.size) := Nat.le_trans H.F.hB g.2
  have HX0 : Hid (Grew X ((X.alloc (.cells cx 30)).alloc (.cells es 52))) := (by repeat (first | with_reducible exact Grew.refl _ | refine Grew.alloc ?_ _ | refine Grew.set ?_ (by simp) _ | refine Grew.drewN ?_ _ | refine Grew.drew ?_))
  clear N1 N0 H g P HH Hg
  go_enter Tryz.func10, Tryz.ntmps10
  go_wp2_with fail
  refine (CP.out _ (by repeat (first | with_reducible exact Grew.refl _ | refine Grew.alloc ?_ _ | refine Grew.set ?_ (by simp) _ | refine Grew.drewN ?_ _ | refine Grew.drew ?_))).mono ?_
  rintro en w1 ⟨rfl, g1⟩
  have HN1 := Hid.mk' (obj_grew g1 HN.out)
  have HM1 := Hid.mk' (obj_grew g1 HM.out)
  have G1 := Hid.mk' g1
  clear g1 HN HM CP
  go_wp2_with (first
    | (with_reducible refine stop_load 30 rfl ?_
       unfold Stop
       refine wpList_load_row rfl 30 _ rfl (X.heap.size) (by go_simp) 30 cx (0, 0) _ HM1.out Tryz.underlying30 rfl (by rw [hsz]; kernel_rfl) ?_)
    | (with_reducible refine stop_load 52 rfl ?_
       unfold Stop
       refine wpList_load_row rfl 52 _ rfl (X.heap.size + 1) (by go_simp) 52 es (0, 0) _ HN1.out Tryz.underlying52 rfl (by rw [hes]; kernel_rfl) ?_)
    | fail)
  cases ht : takesR op with
  | true =>
    refine (CY.out ht _ G1.out).mono ?_
    rintro en w2 ⟨k, lb, rfl, hen, g2, hk⟩
    have hnf := eq_fnn k #[] lb w2
    have G2 := Hid.mk' (HX0.out.trans (G1.out.trans g2))
    have HK := Hid.mk' hk
    clear g2 hk CY CN G1 HN1 HM1 HX0
    go_wp2_with fail
    refine (HK.out _ (Grew.refl _)).mono ?_
    rintro en w3 ⟨e, rfl, he, k3⟩
    have H3 := Hid.mk' he
    have K3 := Hid.mk' ((Grew.kb G2.out HBX.out).trans k3)
    clear he k3 hen HK
    go_wp2_with fail
    go_ret
    exact ⟨_, rfl, ⟨fun h => absurd h H3.out, fun h => by rw [ht] at h; cases h⟩, K3.out⟩
  | false =>
    refine (CN.out ht _ G1.out).mono ?_
    rintro en w2 ⟨rfl, g2⟩
    have hnf := eq_fn0 w2
    have G2 := Hid.mk' (HX0.out.trans (G1.out.trans g2))
    clear g2 CY CN G1 HN1 HM1 HX0
    go_wp2_with fail
    go_ret
    exact ⟨_, rfl, ⟨fun _ => ht, fun _ => rfl⟩, Grew.kb G2.out HBX.out⟩
end
theorem zero_nil (w : World) : Calls Tryz.prog 49 #[.pointer none] w fun en w' => en = .returned (.bool true) ∧ Grew w w' := by
  go_enter Tryz.func49, Tryz.ntmps49
  go_wp2_with fail
  go_ret
  exact ⟨rfl, Grew.refl _⟩
theorem zero_un {w : World} {b : Nat} (h : w.cell? ⟨b, 0, none⟩ = some (.bool false)) : Calls Tryz.prog 49 #[.pointer (some ⟨b, 0, none⟩)] w fun en w' => en = .returned (.bool true) ∧ Grew w w' := by
  go_enter Tryz.func49, Tryz.ntmps49
  go_wp2_with fail
  go_ret
  exact ⟨rfl, Grew.refl _⟩
/- No call made the checker that p points at. -/
def Unm (p : Option Addr) (w : World) : Prop := ∀ W, Grew w W → Calls Tryz.prog 49 #[.pointer p] W fun en w' => en = .returned (.bool true) ∧ Grew W w'
theorem Unm.nil (w : World) : Unm none w := fun W g => zero_nil W
theorem Unm.zero {w : World} {b : Nat} (h : w.cell? ⟨b, 0, none⟩ = some (.bool false)) : Unm (some ⟨b, 0, none⟩) w := fun W g => zero_un (cell_grew h g)
theorem Unm.grew {p : Option Addr} {w w' : World} (h : Unm p w) (g : Grew w w') : Unm p w' := fun W g' => h W (g.trans g')
theorem PopsZ {p : Option Addr} {w : World} (h : Unm p w) : Calls Tryz.prog 17 #[.pointer p, NILS] w fun en w' => en = .returned (.int .i64 7) ∧ Grew w w' := by
  have H : Hid (Unm p w) := h
  clear h
  go_enter Tryz.func17, Tryz.ntmps17
  go_wp2_with fail
  go_step3
  go_wp2_with fail
  refine (H.out _ (Grew.refl w)).mono ?_
  rintro en w1 ⟨rfl, g1⟩
  have G1 : Hid (Grew w w1) := g1
  clear g1 H
  go_wp2_with fail
  rw [Exit.noGoto_ret]
  go_ret
  exact ⟨rfl, G1.out⟩
theorem StepZ {w : World} {cp : Option Addr} {cx es : Array Value} (hsz : cx.size = 9) (hes : es.size = 17) (h : Unm cp w) :
    Calls Tryz.prog 10 #[.agg cx, .pointer cp, .agg es] w fun en w' => en = .returned (.int .i64 7) ∧ Grew w w' := by
  have CP : Hid (∀ X, Grew w X → Calls Tryz.prog 17 #[.pointer cp, NILS] X fun en w' => en = .returned (.int .i64 7) ∧ Grew X w') := fun X g => PopsZ (h.grew g)
  clear h
  go_enter Tryz.func10, Tryz.ntmps10
  go_wp2_with fail
  refine (CP.out _ (by repeat (first | with_reducible exact Grew.refl _ | refine Grew.alloc ?_ _))).mono ?_
  rintro en w1 ⟨rfl, g1⟩
  have G1 := Hid.mk' g1
  clear CP g1
  go_wp2_with fail
  go_ret
  exact ⟨rfl, Grew.trans (by repeat (first | with_reducible exact Grew.refl _ | refine Grew.alloc ?_ _)) G1.out⟩
theorem takesR_any (op : Int) (w : World) : Calls Tryz.prog 8 #[.int .i64 op] w fun en w' => en = .returned (.bool (takesR op)) ∧ w' = w := by
  by_cases a1 : 208 ≤ op <;> by_cases a2 : op ≤ 212 <;> by_cases a3 : 64256 ≤ op <;> by_cases a4 : op ≤ 64286
  all_goals
    go_enter Tryz.func8, Tryz.ntmps8
    go_wp2_with fail
    go_ret
    exact ⟨by unfold takesR; simp [a1, a2, a3, a4], rfl⟩
theorem wpList_load_rowg {P : Program} {ops : Array Oper} {rest : List Oper} {o : Oper} {a : Act} {w : World} {Q : Exit → Act → World → Prop} (hw : Region.wanted o (yielded ops a.tmps) = true) (ty : TypeId) (x : Operand) (ho : o.op = .load ty x)
    (g : Nat) (hx : a.eval x = .pointer (some ⟨g, 0, none⟩)) (t : TypeId) (cs : Array Value) (fr : Nat × Nat) (d : TypeDesc) (hg : w.heap[g]? = some (.cells cs t fr))
    (hu : P.underlying ty = some d) (hd : (match d with | .struct _ | .array _ _ => true | _ => false) = true) (hi : (P.info? ty).map (·.size) = some cs.size)
    (h : wpList P ops Q rest (a.put o.dst (.agg cs)) w) : wpList P ops Q (o :: rest) a w := by
  simp only [wpList, hw, if_true]
  refine Or.inl ?_
  unfold Oper.wp execOp
  simp only [ho, hx, Instr.loadAt, Instr.sureAddr, Sem.run_bind, Sem.run_pure, Result.andThen_ok, run_loadVar_row w g t ty cs fr d hg hu hd hi]
  exact h
theorem IN.grew {w w' : World} {es : Array Value} {op : Int} {n ny N : Nat} {sl : List VT} (h : IN w es op n ny N sl) (g : Grew w w') : IN w' es op n ny N sl := by
  obtain ⟨ya, yc, h1, h2⟩ := h.h15
  exact ⟨h.sz, h.h0, h.h1, h.l1, h.h2, h.l2, h.h3, ya, yc, h1, h2.grew g⟩
theorem vrefZero_any {w : World} {cx : Array Value} {TT : List RT} {FL : List Int} {EL : List VT} {RB : List Bool} {dt : Int} {es : Array Value} {op : Int} {n ny N : Nat} {sl : List VT} (hc : CTX w cx TT FL EL RB dt) (hi : IN w es op n ny N sl) :
    Calls Tryz.prog 4 #[.agg cx, .agg es] w fun en w' => en = .returned (.bool true) ∧ Grew w w' := by
  have CF : Hid (∀ X, Grew w X → ∀ C W0 X', Grew X W0 → Grew W0 X' → (Tab W0 → FRS W0.heap.size C X') → FRL C X' → FRP C X' → ∀ Y, Grew X' Y → Calls Tryz.prog 10 #[.agg cx, .pointer (some ⟨C, 0, none⟩), .agg es] Y fun en w' => ∃ e : Int, en = .returned (.int .i64 e) ∧ (e = 6 ↔ takesR op = false) ∧ KB W0.heap.size Y w') := by
    intro X gX C W0 X' gW gX' hF hL hP Y gY
    have gg := (gX.trans gW).trans gX'
    exact step_fresh ⟨hF (hc.tab.grew (gX.trans gW)), hL, hc.grew gg, hi.grew gg⟩ hP gY
  have hsz := hc.sz
  have hes := hi.sz
  have h0 := hi.h0
  have CZ : Hid (∀ X cp, Unm cp X → Calls Tryz.prog 10 #[.agg cx, .pointer cp, .agg es] X fun en w' => en = .returned (.int .i64 7) ∧ Grew X w') := fun X cp h => StepZ hsz hes h
  have CN : Hid (∀ X, Calls Tryz.prog 11 #[NILS, NILS, NILS, NILS] X fun en w' => ∃ C W0, en = .returned (.pointer (some ⟨C, 0, none⟩)) ∧ Grew X W0 ∧ Grew W0 w' ∧ (Tab W0 → FRS W0.heap.size C w') ∧ FRL C w' ∧ FRP C w') := New_fresh3
  have CT : Hid (∀ X, Calls Tryz.prog 8 #[.int .i64 op] X fun en w' => en = .returned (.bool (takesR op)) ∧ w' = X) := takesR_any op
  clear hc hi
  go_enter Tryz.func4, Tryz.ntmps4
  go_wp2_with fail
  have K0 : (w.alloc (.cells cx 30)).heap[w.heap.size]? = some (.cells cx 30 (0, 0)) := heap_alloc_last _ _
  have K1 : ((w.alloc (.cells cx 30)).alloc (.cells es 52)).heap[w.heap.size + 1]? = some (.cells es 52 (0, 0)) := by
    have := heap_alloc_last (w.alloc (.cells cx 30)) (.cells es 52)
    rw [alloc_size] at this
    exact this
  have K2 : (((w.alloc (.cells cx 30)).alloc (.cells es 52)).alloc (.cells #[.bool false, .slice none 0 0, .slice none 0 0, .slice none 0 0, .slice none 0 0, .slice none 0 0, .slice none 0 0] 63)).heap[w.heap.size + 1 + 1]? = some (.cells #[.bool false, .slice none 0 0, .slice none 0 0, .slice none 0 0, .slice none 0 0, .slice none 0 0, .slice none 0 0] 63 (0, 0)) := by
    have := heap_alloc_last ((w.alloc (.cells cx 30)).alloc (.cells es 52)) (.cells #[.bool false, .slice none 0 0, .slice none 0 0, .slice none 0 0, .slice none 0 0, .slice none 0 0, .slice none 0 0] 63)
    rw [alloc_size, alloc_size] at this
    exact this
  have GW : Grew w (((w.alloc (.cells cx 30)).alloc (.cells es 52)).alloc (.cells #[.bool false, .slice none 0 0, .slice none 0 0, .slice none 0 0, .slice none 0 0, .slice none 0 0, .slice none 0 0] 63)) := (((Grew.refl w).alloc _).alloc _).alloc _
  have M1 := heap_alloc K1 (.cells #[.bool false, .slice none 0 0, .slice none 0 0, .slice none 0 0, .slice none 0 0, .slice none 0 0, .slice none 0 0] 63)
  have M0 := heap_alloc (heap_alloc K0 (.cells es 52)) (.cells #[.bool false, .slice none 0 0, .slice none 0 0, .slice none 0 0, .slice none 0 0, .slice none 0 0, .slice none 0 0] 63)
  clear K0 K1
  generalize hw3 : ((w.alloc (.cells cx 30)).alloc (.cells es 52)).alloc (.cells #[.bool false, .slice none 0 0, .slice none 0 0, .slice none 0 0, .slice none 0 0, .slice none 0 0, .slice none 0 0] 63) = w3 at *
  clear hw3
  have N0 := Hid.mk' M0
  have N1 := Hid.mk' M1
  have N2 := Hid.mk' K2
  have HW := Hid.mk' GW
  clear M0 M1 K2 GW
  generalize w.heap.size = q at *
  have CU : Hid (∀ X, Grew w3 X → Unm (some ⟨q + 1 + 1, 0, none⟩) X) := fun X g => Unm.zero ((cell_of ((g.turn []).other N2.out (by simp)) 0).trans rfl)
  clear N2
  refine wp_region_held_drew (S := fun X => X.heap[q]? = some (.cells cx 30 (0, 0)) ∧ X.heap[q + 1]? = some (.cells es 52 (0, 0))) (by kernel_rfl) ⟨N0.out, N1.out⟩ (fun hHeld => ?_)
  refine wpAnyH_take (i := 0) (v := .agg cx) rfl (by kernel_rfl) (by kernel_rfl) (by kernel_rfl) (fun _ _ _ h => h) (yieldsIf_load_row (by rfl) 30 _ rfl q rfl 30 cx (0, 0) _ (fun w h => h.1) Tryz.underlying30 rfl (by rw [hsz]; kernel_rfl)) hHeld ?_
  try simp only [Act.put, List.setIfInBounds_toArray, List.set_cons_zero, List.set_cons_succ]
  refine wpAnyH_take (i := 2) (v := .agg es) rfl (by kernel_rfl) (by kernel_rfl) (by kernel_rfl) (fun _ _ _ h => h) (yieldsIf_load_row (by rfl) 52 _ rfl (q + 1) rfl 52 es (0, 0) _ (fun w h => h.2) Tryz.underlying52 rfl (by rw [hes]; kernel_rfl)) hHeld ?_
  try simp only [Act.put, List.setIfInBounds_toArray, List.set_cons_zero, List.set_cons_succ]
  refine wpAnyH_ready (rs := [1]) (by kernel_rfl) (by simp) ?_
  refine AllReadyH.cons rfl (fun K hK => ?_) AllReadyH.nil
  go_simp
  refine (CN.out _).mono ?_
  rintro en w4 ⟨C, W0, rfl, gW, gX, hF, hL, hP⟩
  have gA : Grew w3 W0 := Grew.trans (by repeat (first | with_reducible exact Grew.refl _ | refine Grew.alloc ?_ _ | refine Grew.drewN ?_ _ | refine Grew.drew ?_)) gW
  have CG : Hid (∀ Y, Grew w4 Y → Calls Tryz.prog 10 #[.agg cx, .pointer (some ⟨C, 0, none⟩), .agg es] Y fun en w' => ∃ e : Int, en = .returned (.int .i64 e) ∧ (e = 6 ↔ takesR op = false) ∧ Grew w3 w') := fun Y gY => (CF.out w3 HW.out C W0 w4 gA gX hF hL hP Y gY).mono (by
    rintro en w' ⟨e, h1, h2, h3⟩
    exact ⟨e, h1, h2, KB.grew (w0 := w3) (w := Y) (gA.trans (gX.trans gY)) ⟨h3.1.mono gA.2, h3.2⟩⟩)
  have G4 := Hid.mk' (gA.trans gX)
  clear gA gX gW hF hL hP CF CN
  refine hK.out _ _ ⟨(G4.out.turn []).other N0.out (by simp), (G4.out.turn []).other N1.out (by simp)⟩ (fun hHeld2 => ?_)
  clear hK K hHeld
  try simp only [Act.put, List.setIfInBounds_toArray, List.set_cons_zero, List.set_cons_succ]
  refine wpAnyH_ready (rs := [3]) (by kernel_rfl) (by simp) ?_
  refine AllReadyH.cons rfl (fun K hK => ?_) AllReadyH.nil
  go_simp
  refine (CG.out _ (by repeat (first | with_reducible exact Grew.refl _ | refine Grew.alloc ?_ _ | refine Grew.drewN ?_ _ | refine Grew.drew ?_))).mono ?_
  rintro en w5 ⟨e, rfl, hiff, g5⟩
  have G5 := Hid.mk' g5
  have HI := Hid.mk' hiff
  clear g5 hiff CG G4
  refine hK.out _ _ ⟨(G5.out.turn []).other N0.out (by simp), (G5.out.turn []).other N1.out (by simp)⟩ (fun hHeld3 => ?_)
  clear hK K hHeld2
  try simp only [Act.put, List.setIfInBounds_toArray, List.set_cons_zero, List.set_cons_succ]
  refine wpAnyH_ready (rs := [4]) (by kernel_rfl) (by simp) ?_
  refine AllReadyH.cons rfl (fun K hK => ?_) AllReadyH.nil
  go_simp
  refine hK.out _ _ hHeld3 (fun hHeld4 => ?_)
  clear hK K hHeld3
  try simp only [Act.put, List.setIfInBounds_toArray, List.set_cons_zero, List.set_cons_succ]
  refine wpAnyH_done (by kernel_rfl) ?_ _
  have N05 := Hid.mk' hHeld4.1
  have N15 := Hid.mk' hHeld4.2
  clear hHeld4
  have HF : Hid ((e == 6) = !takesR op) := by
    refine Hid.mk' ?_
    have h3 := HI.out
    cases ht : takesR op with
    | true =>
      have : ¬ e = 6 := fun h => by have := h3.1 h; rw [ht] at this; cases this
      simp [this]
    | false => simp [h3.2 ht]
  clear HI
  go_wp2_with (first
    | (with_reducible refine stop_load 30 rfl ?_
       unfold Stop
       refine wpList_load_row rfl 30 _ rfl (q) (by go_simp) 30 cx (0, 0) _ N05.out Tryz.underlying30 rfl (by rw [hsz]; kernel_rfl) ?_)
    | (with_reducible refine stop_load 52 rfl ?_
       unfold Stop
       refine wpList_load_row rfl 52 _ rfl (q + 1) (by go_simp) 52 es (0, 0) _ N15.out Tryz.underlying52 rfl (by rw [hes]; kernel_rfl) ?_)
    | fail)
  refine (CZ.out _ _ (Unm.nil _)).mono ?_
  rintro en w6 ⟨rfl, g6⟩
  have G6 := Hid.mk' (G5.out.trans g6)
  have N06 := Hid.mk' ((g6.turn []).other N05.out (by simp))
  have N16 := Hid.mk' ((g6.turn []).other N15.out (by simp))
  clear g6 N05 N15 G5
  go_wp2_with (first
    | (with_reducible refine stop_load 30 rfl ?_
       unfold Stop
       refine wpList_load_rowg (by first | rfl | (go_simp; done)) 30 _ rfl (q) (by go_simp) 30 cx (0, 0) _ N06.out Tryz.underlying30 rfl (by rw [hsz]; kernel_rfl) ?_)
    | (with_reducible refine stop_load 52 rfl ?_
       unfold Stop
       refine wpList_load_rowg (by first | rfl | (go_simp; done)) 52 _ rfl (q + 1) (by go_simp) 52 es (0, 0) _ N16.out Tryz.underlying52 rfl (by rw [hes]; kernel_rfl) ?_)
    | fail)
  refine (CZ.out _ _ (CU.out _ G6.out)).mono ?_
  rintro en w7 ⟨rfl, g7⟩
  have G7 := Hid.mk' (G6.out.trans g7)
  have o7 : w7.cell? ⟨q + 1, 0, none⟩ = some (.int .i64 op) := (cell_of ((g7.turn []).other N16.out (by simp)) 0).trans h0
  clear g7 N06 N16 G6 CZ CU
  go_wp2_with fail
  refine (CT.out _).mono ?_
  rintro en w8 ⟨rfl, hw8⟩
  obtain rfl := hw8.symm
  go_wp2_with fail
  go_ret
  exact ⟨by simp [HF.out], HW.out.trans G7.out⟩
end Go.Proofs.YtnmbniojejckpaaGreatDoor
namespace Go.Proofs.YtnmbniojejckpaaGreatDoor
open Go.ChangeShapes Go.WideShapes Go.Deep
set_option linter.unusedVariables false
set_option linter.unusedSimpArgs false
section
variable {H : Type} {enc : TypeId × Value → H} {w : World} {base : Nat} {held : Bool}
theorem cells_lr9 : Tryz.prog.cellsOf 22 = 1 := by kernel_rfl
theorem cells_tb9 : Tryz.prog.cellsOf 24 = 1 := by kernel_rfl
theorem cells_lm9 : Tryz.prog.cellsOf 25 = 1 := by kernel_rfl
theorem cells_gl9 : Tryz.prog.cellsOf 26 = 1 := by kernel_rfl
theorem cells_bo9 : Tryz.prog.cellsOf 28 = 1 := by kernel_rfl
theorem cells_u32 : Tryz.prog.cellsOf 41 = 1 := by kernel_rfl
theorem cells_u64 : Tryz.prog.cellsOf 42 = 1 := by kernel_rfl
theorem cells_bk9 : Tryz.prog.cellsOf 48 = 4 := by kernel_rfl
theorem cells_ln9 : Tryz.prog.cellsOf 31 = 1 := by kernel_rfl
theorem cells_lu9 : Tryz.prog.cellsOf 49 = 1 := by kernel_rfl
theorem cells_ct9 : Tryz.prog.cellsOf 50 = 1 := by kernel_rfl
theorem cells_mm9 : Tryz.prog.cellsOf 44 = 3 := by kernel_rfl
theorem open_VV {fuel : Nat} {cs : List Value} {x : DataW H × List MemPlace} (h : DataW.trod enc Tryz.prog w base (fun _ => true) held fuel 46 cs = some x) (hl : cs.length = 3) : ∃ n nul hp, cs = [.int .i64 n, .bool nul, .int .i64 hp] ∧ R64 n ∧ R64 hp := by
  obtain ⟨y0, y1, y2, m, rfl, _, h0, h1, h2⟩ := trod_struct3 Tryz.underlying46 h
  match cs, hl with
  | [c0, c1, c2], _ =>
    simp only [cells_int, cells_bool, List.drop, List.take] at h0 h1 h2
    obtain ⟨a, e0, _, wa⟩ := DataW.trod_int Tryz.underlying3 h0
    obtain ⟨p, e1, _⟩ := DataW.trod_bool Tryz.underlying4 h1
    obtain ⟨q, e2, _, wq⟩ := DataW.trod_int Tryz.underlying3 h2
    simp only [List.cons.injEq, and_true] at e0 e1 e2
    subst e0 e1 e2
    exact ⟨a, p, q, rfl, r64_wf wa, r64_wf wq⟩
theorem open_BK4 {fuel : Nat} {cs : List Value} {x : DataW H × List MemPlace} (h : DataW.trod enc Tryz.prog w base (fun _ => true) held fuel 48 cs = some x) (hl : cs.length = 4) : ∃ t n z h, cs = [.int .i64 t, .int .i64 n, .bool z, .int .i64 h] := by
  obtain ⟨xs, m', _, rfl, _, hxl, hf⟩ := DataW.trod_struct Tryz.underlying48 h
  match cs, hl with
  | [q0, q1, q2, q3], _ =>
    match xs, hxl with
    | [z0, z1], _ =>
      have g0 := hf 0 _ rfl
      have g1 := hf 1 _ rfl
      simp only [List.getElem_toArray, List.getElem_cons_zero, List.getElem_cons_succ, cells_int, cells_V, List.drop, List.take, List.getElem?_cons_zero, List.getElem?_cons_succ] at g0 g1
      obtain ⟨t, e0, _, wt⟩ := DataW.trod_int Tryz.underlying3 g0
      simp only [List.cons.injEq, and_true] at e0
      subst e0
      obtain ⟨n, z, hp, e, _, _⟩ := open_VV g1 rfl
      simp only [List.cons.injEq, and_true] at e
      obtain ⟨rfl, rfl, rfl⟩ := e
      exact ⟨t, n, z, hp, rfl⟩
theorem open_LVz {fuel : Nat} {v : Value} {x : DataW H × List MemPlace} (h : DataW.trod enc Tryz.prog w base (fun _ => true) held fuel 27 [v] = some x) : ∃ L, LV w v L := by
  obtain ⟨u, L, e, l, b, q⟩ := open_lst vt0 RgV (E := EV) (μ := fun _ => 1) Tryz.underlying27 cells_V (by decide) h (fun b o cs n y hl hc h => open_V hl hc h)
  simp only [List.cons.injEq, and_true] at e
  subst e
  exact ⟨L, l⟩
theorem open_B1 {b o : Nat} {cs : List Value} {n : Nat} {y : DataW H × List MemPlace} (hl : cs.length = 1) (hc : ∀ j, j < 1 → w.cell? ⟨b, o + j, none⟩ = cs[j]?) (h : DataW.trod enc Tryz.prog w base (fun _ => true) held n 4 cs = some y) : ∃ z : Bool, EBo w b o z ∧ 1 ≤ Rows.uptoBulk y.1 ∧ True := by
  obtain ⟨p, e, _⟩ := DataW.trod_bool Tryz.underlying4 h
  subst e
  exact ⟨p, hc 0 (by decide), bulk_one _, trivial⟩
theorem open_LBz {fuel : Nat} {v : Value} {x : DataW H × List MemPlace} (h : DataW.trod enc Tryz.prog w base (fun _ => true) held fuel 28 [v] = some x) : ∃ L, LBo w v L := by
  obtain ⟨u, L, e, l, b, q⟩ := open_lst false (fun _ => True) (E := EBo) (μ := fun _ => 1) Tryz.underlying28 cells_bool (by decide) h (fun b o cs n y hl hc h => open_B1 hl hc h)
  simp only [List.cons.injEq, and_true] at e
  subst e
  exact ⟨L, l⟩
theorem open_LIz {fuel : Nat} {v : Value} {x : DataW H × List MemPlace} (h : DataW.trod enc Tryz.prog w base (fun _ => true) held fuel 23 [v] = some x) : ∃ L, LI w v L := by
  obtain ⟨u, L, e, l, b, q⟩ := open_lst (0 : Int) R64 (E := EI) (μ := fun _ => 1) Tryz.underlying23 cells_int (by decide) h (fun b o cs n y hl hc h => open_I hl hc h)
  simp only [List.cons.injEq, and_true] at e
  subst e
  exact ⟨L, l⟩
theorem open_CA {fuel : Nat} {cs : List Value} {x : DataW H × List MemPlace} (h : DataW.trod enc Tryz.prog w base (fun _ => true) held fuel 30 cs = some x) (hl : cs.length = 9) : ∃ t0 m0 k0 t1 m1 k1 t2 m2 k2 t3 m3 k3 t4 m4 k4 t5 m5 k5 t6 m6 k6 dt t8 m8 k8 TT FL EL RB, cs = [.slice t0 m0 k0, .slice t1 m1 k1, .slice t2 m2 k2, .slice t3 m3 k3, .slice t4 m4 k4, .slice t5 m5 k5, .slice t6 m6 k6, .int .i64 dt, .slice t8 m8 k8] ∧ LR w (.slice t0 m0 k0) TT ∧ (TT.map muR).sum + 1 ≤ Rows.uptoBulk x.1 ∧ (∀ r ∈ TT, ∀ y ∈ r.types, Rng y) ∧ LI w (.slice t1 m1 k1) FL ∧ LV w (.slice t6 m6 k6) EL ∧ LBo w (.slice t8 m8 k8) RB := by
  obtain ⟨xs, m', _, rfl, _, hxl, hf⟩ := DataW.trod_struct Tryz.underlying30 h
  match cs, hl with
  | [q0, q1, q2, q3, q4, q5, q6, q7, q8], _ =>
    match xs, hxl with
    | [z0, z1, z2, z3, z4, z5, z6, z7, z8], _ =>
      have g0 := hf 0 _ rfl
      have g1 := hf 1 _ rfl
      have g2 := hf 2 _ rfl
      have g3 := hf 3 _ rfl
      have g4 := hf 4 _ rfl
      have g5 := hf 5 _ rfl
      have g6 := hf 6 _ rfl
      have g7 := hf 7 _ rfl
      have g8 := hf 8 _ rfl
      simp only [List.getElem_toArray, List.getElem_cons_zero, List.getElem_cons_succ, cells_lr9, cells_li, cells_tb9, cells_lm9, cells_gl9, cells_lv, cells_int, cells_bo9, List.drop, List.take, List.getElem?_cons_zero, List.getElem?_cons_succ] at g0 g1 g2 g3 g4 g5 g6 g7 g8
      obtain ⟨t0, m0, k0, e0⟩ := Joins.slice_form Tryz.underlying22 g0
      obtain ⟨t1, m1, k1, e1⟩ := Joins.slice_form Tryz.underlying23 g1
      obtain ⟨t2, m2, k2, e2⟩ := Joins.slice_form Tryz.underlying24 g2
      obtain ⟨t3, m3, k3, e3⟩ := Joins.slice_form Tryz.underlying25 g3
      obtain ⟨t4, m4, k4, e4⟩ := Joins.slice_form Tryz.underlying26 g4
      obtain ⟨t5, m5, k5, e5⟩ := Joins.slice_form Tryz.underlying23 g5
      obtain ⟨t6, m6, k6, e6⟩ := Joins.slice_form Tryz.underlying27 g6
      obtain ⟨dt, e7, _, _⟩ := DataW.trod_int Tryz.underlying3 g7
      obtain ⟨t8, m8, k8, e8⟩ := Joins.slice_form Tryz.underlying28 g8
      simp only [List.cons.injEq, and_true] at e0 e1 e2 e3 e4 e5 e6 e7 e8
      subst e0 e1 e2 e3 e4 e5 e6 e7 e8
      obtain ⟨TT, l0, b0, r0⟩ := open_LR g0
      obtain ⟨FL, l1⟩ := open_LIz g1
      obtain ⟨EL, l6⟩ := open_LVz g6
      obtain ⟨RB, l8⟩ := open_LBz g8
      refine ⟨t0, m0, k0, t1, m1, k1, t2, m2, k2, t3, m3, k3, t4, m4, k4, t5, m5, k5, t6, m6, k6, dt, t8, m8, k8, TT, FL, EL, RB, rfl, l0, ?_, r0, l1, l6, l8⟩
      simp only [Rows.uptoBulk, Rows.uptoBulkAll, List.map_cons, List.map_nil]
      omega
theorem open_MM2 {fuel : Nat} {cs : List Value} {x : DataW H × List MemPlace} (h : DataW.trod enc Tryz.prog w base (fun _ => true) held fuel 44 cs = some x) (hl : cs.length = 3) : ∃ (a : Int) (m : Nat) (o : Int), cs = [.int .u32 a, .int .u32 (m : Int), .int .u64 o] ∧ 0 ≤ a ∧ m < 4294967296 := by
  obtain ⟨y0, y1, y2, m, rfl, _, h0, h1, h2⟩ := trod_struct3 Tryz.underlying44 h
  match cs, hl with
  | [c0, c1, c2], _ =>
    simp only [cells_u32, cells_u64, List.drop, List.take] at h0 h1 h2
    obtain ⟨a, e0, _, wa⟩ := DataW.trod_int Tryz.underlying41 h0
    obtain ⟨p, e1, _, wp⟩ := DataW.trod_int Tryz.underlying41 h1
    obtain ⟨q, e2, _, _⟩ := DataW.trod_int Tryz.underlying42 h2
    have ha := bounds_u32 wa
    have hp := bounds_u32 wp
    obtain ⟨n, rfl⟩ : ∃ n : Nat, p = (n : Int) := ⟨p.toNat, by omega⟩
    simp only [List.cons.injEq, and_true] at e0 e1 e2
    subst e0 e1 e2
    exact ⟨a, n, q, rfl, by omega, by omega⟩
theorem open_IA {fuel : Nat} {cs : List Value} {x : DataW H × List MemPlace} (h : DataW.trod enc Tryz.prog w base (fun _ => true) held fuel 52 cs = some x) (hl : cs.length = 17) : ∃ (op : Int) (nx ny N : Nat) (al : Int) (me : Nat) (off bt bn : Int) (bz : Bool) (bh : Int) (b0 : Option Addr) (p0 q0 : Nat) (b1 : Option Addr) (p1 q1 : Nat) (he : Bool) (b2 : Option Addr) (p2 q2 : Nat) (b3 : Option Addr) (p3 q3 : Nat) (b4 : Option Addr) (p4 q4 : Nat) (sl : List VT), cs = [.int .i64 op, .int .u32 (nx : Int), .int .u32 (ny : Int), .int .u64 (N : Int), .int .u32 al, .int .u32 (me : Int), .int .u64 off, .int .i64 bt, .int .i64 bn, .bool bz, .int .i64 bh, .slice b0 p0 q0, .slice b1 p1 q1, .bool he, .slice b2 p2 q2, .slice b3 p3 q3, .slice b4 p4 q4] ∧ -9223372036854775808 ≤ op ∧ op ≤ 9223372036854775807 ∧ nx < 4294967296 ∧ ny < 4294967296 ∧ me < 4294967296 ∧ 0 ≤ al ∧ LV w (.slice b3 p3 q3) sl := by
  obtain ⟨xs, m', _, rfl, _, hxl, hf⟩ := DataW.trod_struct Tryz.underlying52 h
  match cs, hl with
  | [q0, q1, q2, q3, q4, q5, q6, q7, q8, q9, q10, q11, q12, q13, q14, q15, q16], _ =>
    match xs, hxl with
    | [z0, z1, z2, z3, z4, z5, z6, z7, z8, z9, z10, z11], _ =>
      have g0 := hf 0 _ rfl
      have g1 := hf 1 _ rfl
      have g2 := hf 2 _ rfl
      have g3 := hf 3 _ rfl
      have g4 := hf 4 _ rfl
      have g5 := hf 5 _ rfl
      have g6 := hf 6 _ rfl
      have g7 := hf 7 _ rfl
      have g8 := hf 8 _ rfl
      have g9 := hf 9 _ rfl
      have g10 := hf 10 _ rfl
      have g11 := hf 11 _ rfl
      simp only [List.getElem_toArray, List.getElem_cons_zero, List.getElem_cons_succ, cells_int, cells_bool, cells_u32, cells_u64, cells_mm9, cells_bk9, cells_ln9, cells_lu9, cells_ct9, cells_lv, List.drop, List.take, List.getElem?_cons_zero, List.getElem?_cons_succ] at g0 g1 g2 g3 g4 g5 g6 g7 g8 g9 g10 g11
      obtain ⟨i0, e0, _, wf0⟩ := DataW.trod_int Tryz.underlying3 g0
      obtain ⟨i1, e1, _, wf1⟩ := DataW.trod_int Tryz.underlying41 g1
      obtain ⟨i2, e2, _, wf2⟩ := DataW.trod_int Tryz.underlying41 g2
      obtain ⟨i3, e3, _, wf3⟩ := DataW.trod_int Tryz.underlying42 g3
      obtain ⟨al, me, off, e4, hal, hme⟩ := open_MM2 g4 rfl
      obtain ⟨r0, r1, r2, r3, e5⟩ := open_BK4 g5 rfl
      obtain ⟨a6, l6, c6, e6⟩ := Joins.slice_form Tryz.underlying31 g6
      obtain ⟨a7, l7, c7, e7⟩ := Joins.slice_form Tryz.underlying31 g7
      obtain ⟨p8, e8, _⟩ := DataW.trod_bool Tryz.underlying4 g8
      obtain ⟨a9, l9, c9, e9⟩ := Joins.slice_form Tryz.underlying49 g9
      obtain ⟨a10, l10, c10, e10⟩ := Joins.slice_form Tryz.underlying27 g10
      obtain ⟨a11, l11, c11, e11⟩ := Joins.slice_form Tryz.underlying50 g11
      simp only [List.cons.injEq, and_true] at e0 e1 e2 e3 e4 e5 e6 e7 e8 e9 e10 e11
      obtain ⟨rfl, rfl, rfl, rfl⟩ := e5
      obtain ⟨rfl, rfl, rfl⟩ := e4
      subst e0 e1 e2 e3 e6 e7 e8 e9 e10 e11
      have h0 := bounds_i64 wf0
      have h1 := bounds_u32 wf1
      have h2 := bounds_u32 wf2
      obtain ⟨nx, rfl⟩ : ∃ n : Nat, i1 = (n : Int) := ⟨i1.toNat, by omega⟩
      obtain ⟨ny, rfl⟩ : ∃ n : Nat, i2 = (n : Int) := ⟨i2.toNat, by omega⟩
      have h3 := bounds_u64 wf3
      obtain ⟨N, rfl⟩ : ∃ n : Nat, i3 = (n : Int) := ⟨i3.toNat, by omega⟩
      obtain ⟨sl, hs⟩ := open_LVz g10
      exact ⟨i0, nx, ny, N, al, me, off, r0, r1, r2, r3, a6, l6, c6, a7, l7, c7, p8, a9, l9, c9, a10, l10, c10, a11, l11, c11, sl, rfl, by omega, by omega, by omega, by omega, hme, hal, hs⟩
end
end Go.Proofs.YtnmbniojejckpaaGreatDoor
