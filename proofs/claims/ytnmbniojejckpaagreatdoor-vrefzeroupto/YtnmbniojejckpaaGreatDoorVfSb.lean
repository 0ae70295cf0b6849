/-
  vref's table of steps on a fresh checker; no statement is proved here.
-/
import Derived.Test.YtnmbniojejckpaaGreatDoorVfSa
set_option maxRecDepth 100000
set_option maxHeartbeats 8000000
namespace Go.Proofs.YtnmbniojejckpaaGreatDoor
open Go.RowKit
set_option linter.unusedVariables false
set_option linter.unusedSimpArgs false
section
variable {B C : Nat} {w : World} {cx : Array Value} {TT : List RT} {FL : List Int} {EL : List VT} {RB : List Bool} {dt : Int} {es : Array Value} {op : Int} {n ny N : Nat} {sl : List VT}
theorem qswaps_sq (F : FRS B C w) {X : World} (g : Grew w X) {ia ua : Option Addr} {il ic ul uc : Nat} {li lu : List VT} (hi : LV X (.slice ia il ic) li) (hu : LV X (.slice ua ul uc) lu) (hn : lu.length ≤ 8000000) (hb : ∀ a, ua = some a → a.block < X.heap.size) : Calls Tryz.prog 31 #[.slice ia il ic, .slice ua ul uc] X (SQ B C X) := by
  have N0 : ((X.alloc (.cells #[.slice ia il ic] 27)).alloc (.cells #[.slice ua ul uc] 27)).heap[X.heap.size]? = some (.cells #[.slice ia il ic] 27 (0, 0)) := heap_alloc (heap_alloc_last _ _) _
  have N1 : ((X.alloc (.cells #[.slice ia il ic] 27)).alloc (.cells #[.slice ua ul uc] 27)).heap[X.heap.size + 1]? = some (.cells #[.slice ua ul uc] 27 (0, 0)) := by
    have := heap_alloc_last (X.alloc (.cells #[.slice ia il ic] 27)) (.cells #[.slice ua ul uc] 27)
    rw [alloc_size] at this
    exact this
  have HN := Hid.mk' N1
  have HM := Hid.mk' N0
  have HF := Hid.mk' F
  have Hg := Hid.mk' g
  have HI := Hid.mk' hi
  have HU := Hid.mk' hu
  have HL := Hid.mk' hn
  have HB := Hid.mk' hb
  clear N1 N0 F g hi hu hn hb
  go_enter Tryz.func31, Tryz.ntmps31
  go_wp2_with fail
  go_ret
  refine ⟨66, #[.pointer (some ⟨X.heap.size, 0, none⟩), .pointer (some ⟨X.heap.size + 1, 0, none⟩)], rfl, enters_of Tryz.func66 (by kernel_rfl) rfl, (by repeat (first | with_reducible exact .refl _ | refine .alloc ?_ _ | refine .set ?_ (by simp) _ | refine .drewN ?_ _ | refine .drew ?_)), fun Y gY => ?_⟩
  have gX : Grew X Y := Grew.trans (by repeat (first | with_reducible exact .refl _ | refine .alloc ?_ _ | refine .set ?_ (by simp) _ | refine .drewN ?_ _ | refine .drew ?_)) gY
  have gy : Grew w Y := Hg.out.trans gX
  have hx := obj_grew gY HM.out
  have hq := obj_grew gY HN.out
  exact swaps1_z HF.out gy ((cell_of hx 0).trans rfl) ((cell_of hq 0).trans rfl) (HI.out.grew gX) (HU.out.grew gX) HL.out (fun a h => Nat.lt_of_lt_of_le (HB.out a h) gX.2)
theorem qturns_sq {X : World} (hB : B ≤ X.heap.size) {k k2 : Nat} {lb A2 B2 : Array Value} (hen : ∀ args W, (callFunc k args).run Tryz.prog W = .ok (.enter k args) W) (hp : ∀ Y, Grew X Y → Calls Tryz.prog k (#[.pointer (some ⟨C, 0, none⟩)] ++ lb) Y (PopQ B C Y)) : Calls Tryz.prog 27 #[.func (.func k) #[] lb, .func (.func k2) A2 B2] X (SQ B C X) := by
  have N0 : ((X.alloc (.cells #[.func (.func k) #[] lb] 90)).alloc (.cells #[.func (.func k2) A2 B2] 91)).heap[X.heap.size]? = some (.cells #[.func (.func k) #[] lb] 90 (0, 0)) := heap_alloc (heap_alloc_last _ _) _
  have N1 : ((X.alloc (.cells #[.func (.func k) #[] lb] 90)).alloc (.cells #[.func (.func k2) A2 B2] 91)).heap[X.heap.size + 1]? = some (.cells #[.func (.func k2) A2 B2] 91 (0, 0)) := by
    have := heap_alloc_last (X.alloc (.cells #[.func (.func k) #[] lb] 90)) (.cells #[.func (.func k2) A2 B2] 91)
    rw [alloc_size] at this
    exact this
  have HN := Hid.mk' N1
  have HM := Hid.mk' N0
  have HE := Hid.mk' hen
  have HP := Hid.mk' hp
  have HB := Hid.mk' hB
  clear N1 N0 hen hp hB
  go_enter Tryz.func27, Tryz.ntmps27
  go_wp2_with fail
  go_ret
  refine ⟨61, #[.pointer (some ⟨X.heap.size, 0, none⟩), .pointer (some ⟨X.heap.size + 1, 0, none⟩)], rfl, enters_of Tryz.func61 (by kernel_rfl) rfl, (by repeat (first | with_reducible exact .refl _ | refine .alloc ?_ _ | refine .set ?_ (by simp) _ | refine .drewN ?_ _ | refine .drew ?_)), fun Y gY => ?_⟩
  have gX : Grew X Y := Grew.trans (by repeat (first | with_reducible exact .refl _ | refine .alloc ?_ _ | refine .set ?_ (by simp) _ | refine .drewN ?_ _ | refine .drew ?_)) gY
  have hx := obj_grew gY HM.out
  have hq := obj_grew gY HN.out
  exact turns1_z (Nat.le_trans HB.out gX.2) HE.out ((cell_of hx 0).trans rfl) ((cell_of hq 0).trans rfl) (fun Z gZ => HP.out Z (gX.trans gZ))
theorem qconverts_sq (F : FRS B C w) {X : World} (g : Grew w X) (a b : Int) : Calls Tryz.prog 94 #[.int .i64 a, .int .i64 b] X (SQ B C X) := by
  have N0 : ((X.alloc (.cells #[.int .i64 a] 3)).alloc (.cells #[.int .i64 b] 3)).heap[X.heap.size]? = some (.cells #[.int .i64 a] 3 (0, 0)) := heap_alloc (heap_alloc_last _ _) _
  have HM := Hid.mk' N0
  have HF := Hid.mk' F
  have Hg := Hid.mk' g
  have CT : Hid (∀ A2 k2 B2 Y, Grew ((X.alloc (.cells #[.int .i64 a] 3)).alloc (.cells #[.int .i64 b] 3)) Y → Calls Tryz.prog 27 #[.func (.func 119) #[] #[.pointer (some ⟨X.heap.size, 0, none⟩)], .func (.func k2) A2 B2] Y (SQ B C Y)) := fun A2 k2 B2 Y gY => by
    have gX : Grew X Y := Grew.trans (by repeat (first | with_reducible exact .refl _ | refine .alloc ?_ _ | refine .set ?_ (by simp) _ | refine .drewN ?_ _ | refine .drew ?_)) gY
    refine qturns_sq (Nat.le_trans (Nat.le_trans HF.out.hB Hg.out.2) gX.2) (enters_of Tryz.func119 (by kernel_rfl) rfl) (fun Z gZ => ?_)
    exact converts1_z HF.out (Hg.out.trans (gX.trans gZ)) ((cell_of (obj_grew (gY.trans gZ) HM.out) 0).trans rfl)
  clear N0 F g
  go_enter Tryz.func94, Tryz.ntmps94
  go_wp2_with fail
  refine (CT.out _ _ _ _ (by repeat (first | with_reducible exact .refl _ | refine .alloc ?_ _ | refine .set ?_ (by simp) _ | refine .drewN ?_ _ | refine .drew ?_))).mono ?_
  rintro en w1 ⟨k1, l1, rfl, h1, h2, h3⟩
  have H1 := Hid.mk' h1
  have H2 := Hid.mk' h2
  have H3 := Hid.mk' h3
  clear h1 h2 h3
  go_wp2_with fail
  go_ret
  exact ⟨_, _, rfl, H1.out, Grew.trans (by repeat (first | with_reducible exact .refl _ | refine .alloc ?_ _ | refine .set ?_ (by simp) _ | refine .drewN ?_ _ | refine .drew ?_)) H2.out, H3.out⟩
theorem so_208_sq (H : FA B C w cx TT FL EL RB dt es 208 n ny N sl) {X : World} (g : Grew w X) : Calls Tryz.prog 16 #[.agg cx, .agg es] X (SQ B C X) := by
  have N1 : ((X.alloc (.cells cx 30)).alloc (.cells es 52)).heap[X.heap.size + 1]? = some (.cells es 52 (0, 0)) := by
    have := heap_alloc_last (X.alloc (.cells cx 30)) (.cells es 52)
    rw [alloc_size] at this
    exact this
  have N0 : ((X.alloc (.cells cx 30)).alloc (.cells es 52)).heap[X.heap.size]? = some (.cells cx 30 (0, 0)) := heap_alloc (heap_alloc_last _ _) _
  have HN := Hid.mk' N1
  have HM := Hid.mk' N0
  have hsz := H.c.sz
  have hes := H.i.sz
  have HH := Hid.mk' H
  have Hg := Hid.mk' g
  have o0 := (cell_of N1 0).trans H.i.h0
  have ox : es[0]'(by rw [hes]; decide) = .int .i64 208 := getE H.i.h0
  have CQ : Hid (∀ Y, Grew ((X.alloc (.cells cx 30)).alloc (.cells es 52)) Y → Calls Tryz.prog 26 #[.agg cx, .agg es] Y (SQ B C Y)) := fun Y gY => qnull_sq HH.out ((Hg.out.trans (by repeat (first | with_reducible exact .refl _ | refine .alloc ?_ _ | refine .set ?_ (by simp) _ | refine .drewN ?_ _ | refine .drew ?_))).trans gY)
  clear N1 N0 H g
  go_enter Tryz.func16, Tryz.ntmps16
  go_wp2_with (first
    | (with_reducible refine stop_load 30 rfl ?_
       unfold Stop
       refine wpList_load_row rfl 30 _ rfl (X.heap.size) (by go_simp) 30 cx (0, 0) _ HM.out Tryz.underlying30 rfl (by rw [hsz]; kernel_rfl) ?_)
    | (with_reducible refine stop_load 52 rfl ?_
       unfold Stop
       refine wpList_load_row rfl 52 _ rfl (X.heap.size + 1) (by go_simp) 52 es (0, 0) _ HN.out Tryz.underlying52 rfl (by rw [hes]; kernel_rfl) ?_)
    | fail)
  refine (CQ.out _ (by repeat (first | with_reducible exact .refl _ | refine .alloc ?_ _ | refine .set ?_ (by simp) _ | refine .drewN ?_ _ | refine .drew ?_))).mono ?_
  rintro en wz ⟨k1, l1, rfl, h1, h2, h3⟩
  have H1 := Hid.mk' h1
  have H2 := Hid.mk' h2
  have H3 := Hid.mk' h3
  clear h1 h2 h3
  go_wp2_with fail
  go_ret
  exact ⟨_, _, rfl, H1.out, Grew.trans (by repeat (first | with_reducible exact .refl _ | refine .alloc ?_ _ | refine .set ?_ (by simp) _ | refine .drewN ?_ _ | refine .drew ?_)) H2.out, H3.out⟩
theorem so_209_sq (H : FA B C w cx TT FL EL RB dt es 209 n ny N sl) {X : World} (g : Grew w X) : Calls Tryz.prog 16 #[.agg cx, .agg es] X (SQ B C X) := by
  have N1 : ((X.alloc (.cells cx 30)).alloc (.cells es 52)).heap[X.heap.size + 1]? = some (.cells es 52 (0, 0)) := by
    have := heap_alloc_last (X.alloc (.cells cx 30)) (.cells es 52)
    rw [alloc_size] at this
    exact this
  have N0 : ((X.alloc (.cells cx 30)).alloc (.cells es 52)).heap[X.heap.size]? = some (.cells cx 30 (0, 0)) := heap_alloc (heap_alloc_last _ _) _
  have HN := Hid.mk' N1
  have HM := Hid.mk' N0
  have hsz := H.c.sz
  have hes := H.i.sz
  have HH := Hid.mk' H
  have Hg := Hid.mk' g
  have o0 := (cell_of N1 0).trans H.i.h0
  have ox : es[0]'(by rw [hes]; decide) = .int .i64 209 := getE H.i.h0
  have CQ : Hid (∀ Y, Grew ((X.alloc (.cells cx 30)).alloc (.cells es 52)) Y → Calls Tryz.prog 27 #[.func (.func 28) #[] #[], .func (.func 29) #[] #[]] Y (SQ B C Y)) := fun Y gY => by
    have gy : Grew w Y := ((Hg.out.trans (by repeat (first | with_reducible exact .refl _ | refine .alloc ?_ _ | refine .set ?_ (by simp) _ | refine .drewN ?_ _ | refine .drew ?_))).trans gY)
    exact qturns_sq (Nat.le_trans HH.out.F.hB gy.2) (enters_of Tryz.func28 (by kernel_rfl) rfl) (fun Z gZ => popRef_z HH.out.F (gy.trans gZ))
  clear N1 N0 H g
  go_enter Tryz.func16, Tryz.ntmps16
  go_wp2_with (first
    | (with_reducible refine stop_load 30 rfl ?_
       unfold Stop
       refine wpList_load_row rfl 30 _ rfl (X.heap.size) (by go_simp) 30 cx (0, 0) _ HM.out Tryz.underlying30 rfl (by rw [hsz]; kernel_rfl) ?_)
    | (with_reducible refine stop_load 52 rfl ?_
       unfold Stop
       refine wpList_load_row rfl 52 _ rfl (X.heap.size + 1) (by go_simp) 52 es (0, 0) _ HN.out Tryz.underlying52 rfl (by rw [hes]; kernel_rfl) ?_)
    | fail)
  refine (CQ.out _ (by repeat (first | with_reducible exact .refl _ | refine .alloc ?_ _ | refine .set ?_ (by simp) _ | refine .drewN ?_ _ | refine .drew ?_))).mono ?_
  rintro en wz ⟨k1, l1, rfl, h1, h2, h3⟩
  have H1 := Hid.mk' h1
  have H2 := Hid.mk' h2
  have H3 := Hid.mk' h3
  clear h1 h2 h3
  go_wp2_with fail
  go_ret
  exact ⟨_, _, rfl, H1.out, Grew.trans (by repeat (first | with_reducible exact .refl _ | refine .alloc ?_ _ | refine .set ?_ (by simp) _ | refine .drewN ?_ _ | refine .drew ?_)) H2.out, H3.out⟩
theorem so_210_sq (H : FA B C w cx TT FL EL RB dt es 210 n ny N sl) {X : World} (g : Grew w X) : Calls Tryz.prog 16 #[.agg cx, .agg es] X (SQ B C X) := by
  have N1 : ((X.alloc (.cells cx 30)).alloc (.cells es 52)).heap[X.heap.size + 1]? = some (.cells es 52 (0, 0)) := by
    have := heap_alloc_last (X.alloc (.cells cx 30)) (.cells es 52)
    rw [alloc_size] at this
    exact this
  have N0 : ((X.alloc (.cells cx 30)).alloc (.cells es 52)).heap[X.heap.size]? = some (.cells cx 30 (0, 0)) := heap_alloc (heap_alloc_last _ _) _
  have HN := Hid.mk' N1
  have HM := Hid.mk' N0
  have hsz := H.c.sz
  have hes := H.i.sz
  have HH := Hid.mk' H
  have Hg := Hid.mk' g
  have o0 := (cell_of N1 0).trans H.i.h0
  have ox : es[0]'(by rw [hes]; decide) = .int .i64 210 := getE H.i.h0
  have CQ : Hid (∀ Y, Grew ((X.alloc (.cells cx 30)).alloc (.cells es 52)) Y → Calls Tryz.prog 30 #[.agg cx, .agg es] Y (SQ B C Y)) := fun Y gY => qfunction_sq HH.out ((Hg.out.trans (by repeat (first | with_reducible exact .refl _ | refine .alloc ?_ _ | refine .set ?_ (by simp) _ | refine .drewN ?_ _ | refine .drew ?_))).trans gY)
  clear N1 N0 H g
  go_enter Tryz.func16, Tryz.ntmps16
  go_wp2_with (first
    | (with_reducible refine stop_load 30 rfl ?_
       unfold Stop
       refine wpList_load_row rfl 30 _ rfl (X.heap.size) (by go_simp) 30 cx (0, 0) _ HM.out Tryz.underlying30 rfl (by rw [hsz]; kernel_rfl) ?_)
    | (with_reducible refine stop_load 52 rfl ?_
       unfold Stop
       refine wpList_load_row rfl 52 _ rfl (X.heap.size + 1) (by go_simp) 52 es (0, 0) _ HN.out Tryz.underlying52 rfl (by rw [hes]; kernel_rfl) ?_)
    | fail)
  refine (CQ.out _ (by repeat (first | with_reducible exact .refl _ | refine .alloc ?_ _ | refine .set ?_ (by simp) _ | refine .drewN ?_ _ | refine .drew ?_))).mono ?_
  rintro en wz ⟨k1, l1, rfl, h1, h2, h3⟩
  have H1 := Hid.mk' h1
  have H2 := Hid.mk' h2
  have H3 := Hid.mk' h3
  clear h1 h2 h3
  go_wp2_with fail
  go_ret
  exact ⟨_, _, rfl, H1.out, Grew.trans (by repeat (first | with_reducible exact .refl _ | refine .alloc ?_ _ | refine .set ?_ (by simp) _ | refine .drewN ?_ _ | refine .drew ?_)) H2.out, H3.out⟩
theorem so_211_sq (H : FA B C w cx TT FL EL RB dt es 211 n ny N sl) {X : World} (g : Grew w X) : Calls Tryz.prog 16 #[.agg cx, .agg es] X (SQ B C X) := by
  have N1 : ((X.alloc (.cells cx 30)).alloc (.cells es 52)).heap[X.heap.size + 1]? = some (.cells es 52 (0, 0)) := by
    have := heap_alloc_last (X.alloc (.cells cx 30)) (.cells es 52)
    rw [alloc_size] at this
    exact this
  have N0 : ((X.alloc (.cells cx 30)).alloc (.cells es 52)).heap[X.heap.size]? = some (.cells cx 30 (0, 0)) := heap_alloc (heap_alloc_last _ _) _
  have HN := Hid.mk' N1
  have HM := Hid.mk' N0
  have hsz := H.c.sz
  have hes := H.i.sz
  have HH := Hid.mk' H
  have Hg := Hid.mk' g
  have o0 := (cell_of N1 0).trans H.i.h0
  have ox : es[0]'(by rw [hes]; decide) = .int .i64 211 := getE H.i.h0
  have CA : Hid (∀ b h Y, Calls Tryz.prog 33 #[.bool b, .int .i64 h] Y fun en w' => en = .returned (.agg #[.int .i64 5, .bool b, .int .i64 h]) ∧ Grew Y w') := abs_any
  have C3 : Hid (∀ Y, Calls Tryz.prog 34 #[] Y fun en w' => en = .returned (.agg #[.int .i64 1, .bool false, .int .i64 0]) ∧ Grew Y w') := q32_any
  have CL : Hid (∀ v Y, Calls Tryz.prog 32 #[v] Y fun en w' => en = .returned v ∧ Grew Y w') := ql_any
  have CS : Hid (∀ Y (ia ua : Option Addr) (il ic ul uc : Nat) (li lu : List VT), Grew w Y → LV Y (.slice ia il ic) li → LV Y (.slice ua ul uc) lu → lu.length ≤ 8000000 → (∀ a, ua = some a → a.block < Y.heap.size) → Calls Tryz.prog 31 #[.slice ia il ic, .slice ua ul uc] Y (SQ B C Y)) := fun Y ia ua il ic ul uc li lu gY hi hu hn hb => qswaps_sq HH.out.F gY hi hu hn hb
  have HX0 : Hid (Grew X ((X.alloc (.cells cx 30)).alloc (.cells es 52))) := (by repeat (first | with_reducible exact .refl _ | refine .alloc ?_ _ | refine .set ?_ (by simp) _ | refine .drewN ?_ _ | refine .drew ?_))
  clear N1 N0 H g
  go_enter Tryz.func16, Tryz.ntmps16
  go_wp2_with (first
    | (with_reducible refine stop_load 30 rfl ?_
       unfold Stop
       refine wpList_load_row rfl 30 _ rfl (X.heap.size) (by go_simp) 30 cx (0, 0) _ HM.out Tryz.underlying30 rfl (by rw [hsz]; kernel_rfl) ?_)
    | (with_reducible refine stop_load 52 rfl ?_
       unfold Stop
       refine wpList_load_row rfl 52 _ rfl (X.heap.size + 1) (by go_simp) 52 es (0, 0) _ HN.out Tryz.underlying52 rfl (by rw [hes]; kernel_rfl) ?_)
    | fail)
  have GP := Hid.mk' (show Grew X ((X.alloc (.cells cx 30)).alloc (.cells es 52)) from (by repeat (first | with_reducible exact .refl _ | refine .alloc ?_ _ | refine .set ?_ (by simp) _ | refine .drewN ?_ _ | refine .drew ?_)))
  generalize ((X.alloc (.cells cx 30)).alloc (.cells es 52)) = w0 at *
  refine (CA.out _ _ _).mono ?_
  rintro en w1 ⟨rfl, g1⟩
  have gx := GP.out.trans g1
  clear GP
  have GP := Hid.mk' gx
  clear gx g1
  go_wp2_with fail
  refine (CA.out _ _ _).mono ?_
  rintro en w2 ⟨rfl, g2⟩
  have gx := GP.out.trans g2
  clear GP
  have GP := Hid.mk' gx
  clear gx g2
  go_wp2_with fail
  refine (CL.out _ _).mono ?_
  rintro en w3 ⟨rfl, gg⟩
  have g3 : Grew (w2.alloc (.cells #[.int .i64 (5), .bool true, .int .i64 (-6), .int .i64 (5), .bool true, .int .i64 (-6)] 46)) w3 := gg
  have HU0 := Hid.mk' ((two_lst w2 (5) (-6) (5) (-6) true true).grew g3)
  have ga : Grew w2 w3 := Grew.trans ((Grew.refl _).alloc _) g3
  have gb : w2.heap.size < w3.heap.size := Nat.lt_of_lt_of_le (by rw [alloc_size]; omega) g3.2
  have HB0 := Hid.mk' gb
  have gx := GP.out.trans ga
  clear GP
  have GP := Hid.mk' gx
  clear gx gg g3 ga gb
  go_wp2_with fail
  refine (C3.out _).mono ?_
  rintro en w4 ⟨rfl, g4⟩
  have gx := GP.out.trans g4
  clear GP
  have GP := Hid.mk' gx
  have HU0 := Hid.mk' (HU0.out.grew g4)
  clear gx g4
  go_wp2_with fail
  refine (CL.out _ _).mono ?_
  rintro en w5 ⟨rfl, gg⟩
  have g5 : Grew (w4.alloc (.cells #[.int .i64 (1), .bool false, .int .i64 (0)] 46)) w5 := gg
  have HU1 := Hid.mk' ((one_lst w4 (1) (0) false).grew g5)
  have ga : Grew w4 w5 := Grew.trans ((Grew.refl _).alloc _) g5
  have gb : w4.heap.size < w5.heap.size := Nat.lt_of_lt_of_le (by rw [alloc_size]; omega) g5.2
  have HB1 := Hid.mk' gb
  have HU0 := Hid.mk' (HU0.out.grew ga)
  have gx := GP.out.trans ga
  clear GP
  have GP := Hid.mk' gx
  clear gx gg g5 ga gb
  go_wp2_with fail
  refine (CS.out _ _ _ _ _ _ _ _ _ (Hg.out.trans GP.out) HU0.out HU1.out (by simp) (fun a e => by injection e with e; subst e; exact HB1.out)).mono ?_
  rintro en wz ⟨k1, l1, rfl, h1, h2, h3⟩
  have H1 := Hid.mk' h1
  have H2 := Hid.mk' h2
  have H3 := Hid.mk' h3
  clear h1 h2 h3
  go_wp2_with fail
  go_ret
  exact ⟨_, _, rfl, H1.out, Grew.trans GP.out H2.out, H3.out⟩
theorem so_212_sq (H : FA B C w cx TT FL EL RB dt es 212 n ny N sl) {X : World} (g : Grew w X) : Calls Tryz.prog 16 #[.agg cx, .agg es] X (SQ B C X) := by
  have N1 : ((X.alloc (.cells cx 30)).alloc (.cells es 52)).heap[X.heap.size + 1]? = some (.cells es 52 (0, 0)) := by
    have := heap_alloc_last (X.alloc (.cells cx 30)) (.cells es 52)
    rw [alloc_size] at this
    exact this
  have N0 : ((X.alloc (.cells cx 30)).alloc (.cells es 52)).heap[X.heap.size]? = some (.cells cx 30 (0, 0)) := heap_alloc (heap_alloc_last _ _) _
  have HN := Hid.mk' N1
  have HM := Hid.mk' N0
  have hsz := H.c.sz
  have hes := H.i.sz
  have HH := Hid.mk' H
  have Hg := Hid.mk' g
  have o0 := (cell_of N1 0).trans H.i.h0
  have ox : es[0]'(by rw [hes]; decide) = .int .i64 212 := getE H.i.h0
  have CQ : Hid (∀ Y, Grew ((X.alloc (.cells cx 30)).alloc (.cells es 52)) Y → Calls Tryz.prog 27 #[.func (.func 28) #[] #[], .func (.func 35) #[] #[]] Y (SQ B C Y)) := fun Y gY => by
    have gy : Grew w Y := ((Hg.out.trans (by repeat (first | with_reducible exact .refl _ | refine .alloc ?_ _ | refine .set ?_ (by simp) _ | refine .drewN ?_ _ | refine .drew ?_))).trans gY)
    exact qturns_sq (Nat.le_trans HH.out.F.hB gy.2) (enters_of Tryz.func28 (by kernel_rfl) rfl) (fun Z gZ => popRef_z HH.out.F (gy.trans gZ))
  clear N1 N0 H g
  go_enter Tryz.func16, Tryz.ntmps16
  go_wp2_with (first
    | (with_reducible refine stop_load 30 rfl ?_
       unfold Stop
       refine wpList_load_row rfl 30 _ rfl (X.heap.size) (by go_simp) 30 cx (0, 0) _ HM.out Tryz.underlying30 rfl (by rw [hsz]; kernel_rfl) ?_)
    | (with_reducible refine stop_load 52 rfl ?_
       unfold Stop
       refine wpList_load_row rfl 52 _ rfl (X.heap.size + 1) (by go_simp) 52 es (0, 0) _ HN.out Tryz.underlying52 rfl (by rw [hes]; kernel_rfl) ?_)
    | fail)
  refine (CQ.out _ (by repeat (first | with_reducible exact .refl _ | refine .alloc ?_ _ | refine .set ?_ (by simp) _ | refine .drewN ?_ _ | refine .drew ?_))).mono ?_
  rintro en wz ⟨k1, l1, rfl, h1, h2, h3⟩
  have H1 := Hid.mk' h1
  have H2 := Hid.mk' h2
  have H3 := Hid.mk' h3
  clear h1 h2 h3
  go_wp2_with fail
  go_ret
  exact ⟨_, _, rfl, H1.out, Grew.trans (by repeat (first | with_reducible exact .refl _ | refine .alloc ?_ _ | refine .set ?_ (by simp) _ | refine .drewN ?_ _ | refine .drew ?_)) H2.out, H3.out⟩
theorem so_64256_sq (H : FA B C w cx TT FL EL RB dt es 64256 n ny N sl) {X : World} (g : Grew w X) : Calls Tryz.prog 16 #[.agg cx, .agg es] X (SQ B C X) := by
  have N1 : ((X.alloc (.cells cx 30)).alloc (.cells es 52)).heap[X.heap.size + 1]? = some (.cells es 52 (0, 0)) := by
    have := heap_alloc_last (X.alloc (.cells cx 30)) (.cells es 52)
    rw [alloc_size] at this
    exact this
  have N0 : ((X.alloc (.cells cx 30)).alloc (.cells es 52)).heap[X.heap.size]? = some (.cells cx 30 (0, 0)) := heap_alloc (heap_alloc_last _ _) _
  have HN := Hid.mk' N1
  have HM := Hid.mk' N0
  have hsz := H.c.sz
  have hes := H.i.sz
  have HH := Hid.mk' H
  have Hg := Hid.mk' g
  have o0 := (cell_of N1 0).trans H.i.h0
  have ox : es[0]'(by rw [hes]; decide) = .int .i64 64256 := getE H.i.h0
  have CQ : Hid (∀ Y, Grew ((X.alloc (.cells cx 30)).alloc (.cells es 52)) Y → Calls Tryz.prog 36 #[.agg cx, .agg es] Y (SQ B C Y)) := fun Y gY => qstructNew_sq HH.out ((Hg.out.trans (by repeat (first | with_reducible exact .refl _ | refine .alloc ?_ _ | refine .set ?_ (by simp) _ | refine .drewN ?_ _ | refine .drew ?_))).trans gY)
  clear N1 N0 H g
  go_enter Tryz.func16, Tryz.ntmps16
  go_wp2_with (first
    | (with_reducible refine stop_load 30 rfl ?_
       unfold Stop
       refine wpList_load_row rfl 30 _ rfl (X.heap.size) (by go_simp) 30 cx (0, 0) _ HM.out Tryz.underlying30 rfl (by rw [hsz]; kernel_rfl) ?_)
    | (with_reducible refine stop_load 52 rfl ?_
       unfold Stop
       refine wpList_load_row rfl 52 _ rfl (X.heap.size + 1) (by go_simp) 52 es (0, 0) _ HN.out Tryz.underlying52 rfl (by rw [hes]; kernel_rfl) ?_)
    | fail)
  refine (CQ.out _ (by repeat (first | with_reducible exact .refl _ | refine .alloc ?_ _ | refine .set ?_ (by simp) _ | refine .drewN ?_ _ | refine .drew ?_))).mono ?_
  rintro en wz ⟨k1, l1, rfl, h1, h2, h3⟩
  have H1 := Hid.mk' h1
  have H2 := Hid.mk' h2
  have H3 := Hid.mk' h3
  clear h1 h2 h3
  go_wp2_with fail
  go_ret
  exact ⟨_, _, rfl, H1.out, Grew.trans (by repeat (first | with_reducible exact .refl _ | refine .alloc ?_ _ | refine .set ?_ (by simp) _ | refine .drewN ?_ _ | refine .drew ?_)) H2.out, H3.out⟩
theorem so_64257_sq (H : FA B C w cx TT FL EL RB dt es 64257 n ny N sl) {X : World} (g : Grew w X) : Calls Tryz.prog 16 #[.agg cx, .agg es] X (SQ B C X) := by
  have N1 : ((X.alloc (.cells cx 30)).alloc (.cells es 52)).heap[X.heap.size + 1]? = some (.cells es 52 (0, 0)) := by
    have := heap_alloc_last (X.alloc (.cells cx 30)) (.cells es 52)
    rw [alloc_size] at this
    exact this
  have N0 : ((X.alloc (.cells cx 30)).alloc (.cells es 52)).heap[X.heap.size]? = some (.cells cx 30 (0, 0)) := heap_alloc (heap_alloc_last _ _) _
  have HN := Hid.mk' N1
  have HM := Hid.mk' N0
  have hsz := H.c.sz
  have hes := H.i.sz
  have HH := Hid.mk' H
  have Hg := Hid.mk' g
  have o0 := (cell_of N1 0).trans H.i.h0
  have ox : es[0]'(by rw [hes]; decide) = .int .i64 64257 := getE H.i.h0
  have CQ : Hid (∀ Y, Grew ((X.alloc (.cells cx 30)).alloc (.cells es 52)) Y → Calls Tryz.prog 37 #[.agg cx, .agg es] Y (SQ B C Y)) := fun Y gY => qstructNewDefault_sq HH.out ((Hg.out.trans (by repeat (first | with_reducible exact .refl _ | refine .alloc ?_ _ | refine .set ?_ (by simp) _ | refine .drewN ?_ _ | refine .drew ?_))).trans gY)
  clear N1 N0 H g
  go_enter Tryz.func16, Tryz.ntmps16
  go_wp2_with (first
    | (with_reducible refine stop_load 30 rfl ?_
       unfold Stop
       refine wpList_load_row rfl 30 _ rfl (X.heap.size) (by go_simp) 30 cx (0, 0) _ HM.out Tryz.underlying30 rfl (by rw [hsz]; kernel_rfl) ?_)
    | (with_reducible refine stop_load 52 rfl ?_
       unfold Stop
       refine wpList_load_row rfl 52 _ rfl (X.heap.size + 1) (by go_simp) 52 es (0, 0) _ HN.out Tryz.underlying52 rfl (by rw [hes]; kernel_rfl) ?_)
    | fail)
  refine (CQ.out _ (by repeat (first | with_reducible exact .refl _ | refine .alloc ?_ _ | refine .set ?_ (by simp) _ | refine .drewN ?_ _ | refine .drew ?_))).mono ?_
  rintro en wz ⟨k1, l1, rfl, h1, h2, h3⟩
  have H1 := Hid.mk' h1
  have H2 := Hid.mk' h2
  have H3 := Hid.mk' h3
  clear h1 h2 h3
  go_wp2_with fail
  go_ret
  exact ⟨_, _, rfl, H1.out, Grew.trans (by repeat (first | with_reducible exact .refl _ | refine .alloc ?_ _ | refine .set ?_ (by simp) _ | refine .drewN ?_ _ | refine .drew ?_)) H2.out, H3.out⟩
theorem so_64262_sq (H : FA B C w cx TT FL EL RB dt es 64262 n ny N sl) {X : World} (g : Grew w X) : Calls Tryz.prog 16 #[.agg cx, .agg es] X (SQ B C X) := by
  have N1 : ((X.alloc (.cells cx 30)).alloc (.cells es 52)).heap[X.heap.size + 1]? = some (.cells es 52 (0, 0)) := by
    have := heap_alloc_last (X.alloc (.cells cx 30)) (.cells es 52)
    rw [alloc_size] at this
    exact this
  have N0 : ((X.alloc (.cells cx 30)).alloc (.cells es 52)).heap[X.heap.size]? = some (.cells cx 30 (0, 0)) := heap_alloc (heap_alloc_last _ _) _
  have HN := Hid.mk' N1
  have HM := Hid.mk' N0
  have hsz := H.c.sz
  have hes := H.i.sz
  have HH := Hid.mk' H
  have Hg := Hid.mk' g
  have o0 := (cell_of N1 0).trans H.i.h0
  have ox : es[0]'(by rw [hes]; decide) = .int .i64 64262 := getE H.i.h0
  have CQ : Hid (∀ Y, Grew ((X.alloc (.cells cx 30)).alloc (.cells es 52)) Y → Calls Tryz.prog 39 #[.agg cx, .agg es] Y (SQ B C Y)) := fun Y gY => qarrayNew_sq HH.out ((Hg.out.trans (by repeat (first | with_reducible exact .refl _ | refine .alloc ?_ _ | refine .set ?_ (by simp) _ | refine .drewN ?_ _ | refine .drew ?_))).trans gY)
  clear N1 N0 H g
  go_enter Tryz.func16, Tryz.ntmps16
  go_wp2_with (first
    | (with_reducible refine stop_load 30 rfl ?_
       unfold Stop
       refine wpList_load_row rfl 30 _ rfl (X.heap.size) (by go_simp) 30 cx (0, 0) _ HM.out Tryz.underlying30 rfl (by rw [hsz]; kernel_rfl) ?_)
    | (with_reducible refine stop_load 52 rfl ?_
       unfold Stop
       refine wpList_load_row rfl 52 _ rfl (X.heap.size + 1) (by go_simp) 52 es (0, 0) _ HN.out Tryz.underlying52 rfl (by rw [hes]; kernel_rfl) ?_)
    | fail)
  refine (CQ.out _ (by repeat (first | with_reducible exact .refl _ | refine .alloc ?_ _ | refine .set ?_ (by simp) _ | refine .drewN ?_ _ | refine .drew ?_))).mono ?_
  rintro en wz ⟨k1, l1, rfl, h1, h2, h3⟩
  have H1 := Hid.mk' h1
  have H2 := Hid.mk' h2
  have H3 := Hid.mk' h3
  clear h1 h2 h3
  go_wp2_with fail
  go_ret
  exact ⟨_, _, rfl, H1.out, Grew.trans (by repeat (first | with_reducible exact .refl _ | refine .alloc ?_ _ | refine .set ?_ (by simp) _ | refine .drewN ?_ _ | refine .drew ?_)) H2.out, H3.out⟩
theorem so_64263_sq (H : FA B C w cx TT FL EL RB dt es 64263 n ny N sl) {X : World} (g : Grew w X) : Calls Tryz.prog 16 #[.agg cx, .agg es] X (SQ B C X) := by
  have N1 : ((X.alloc (.cells cx 30)).alloc (.cells es 52)).heap[X.heap.size + 1]? = some (.cells es 52 (0, 0)) := by
    have := heap_alloc_last (X.alloc (.cells cx 30)) (.cells es 52)
    rw [alloc_size] at this
    exact this
  have N0 : ((X.alloc (.cells cx 30)).alloc (.cells es 52)).heap[X.heap.size]? = some (.cells cx 30 (0, 0)) := heap_alloc (heap_alloc_last _ _) _
  have HN := Hid.mk' N1
  have HM := Hid.mk' N0
  have hsz := H.c.sz
  have hes := H.i.sz
  have HH := Hid.mk' H
  have Hg := Hid.mk' g
  have o0 := (cell_of N1 0).trans H.i.h0
  have ox : es[0]'(by rw [hes]; decide) = .int .i64 64263 := getE H.i.h0
  have CQ : Hid (∀ Y, Grew ((X.alloc (.cells cx 30)).alloc (.cells es 52)) Y → Calls Tryz.prog 40 #[.agg cx, .agg es] Y (SQ B C Y)) := fun Y gY => qarrayNewDefault_sq HH.out ((Hg.out.trans (by repeat (first | with_reducible exact .refl _ | refine .alloc ?_ _ | refine .set ?_ (by simp) _ | refine .drewN ?_ _ | refine .drew ?_))).trans gY)
  clear N1 N0 H g
  go_enter Tryz.func16, Tryz.ntmps16
  go_wp2_with (first
    | (with_reducible refine stop_load 30 rfl ?_
       unfold Stop
       refine wpList_load_row rfl 30 _ rfl (X.heap.size) (by go_simp) 30 cx (0, 0) _ HM.out Tryz.underlying30 rfl (by rw [hsz]; kernel_rfl) ?_)
    | (with_reducible refine stop_load 52 rfl ?_
       unfold Stop
       refine wpList_load_row rfl 52 _ rfl (X.heap.size + 1) (by go_simp) 52 es (0, 0) _ HN.out Tryz.underlying52 rfl (by rw [hes]; kernel_rfl) ?_)
    | fail)
  refine (CQ.out _ (by repeat (first | with_reducible exact .refl _ | refine .alloc ?_ _ | refine .set ?_ (by simp) _ | refine .drewN ?_ _ | refine .drew ?_))).mono ?_
  rintro en wz ⟨k1, l1, rfl, h1, h2, h3⟩
  have H1 := Hid.mk' h1
  have H2 := Hid.mk' h2
  have H3 := Hid.mk' h3
  clear h1 h2 h3
  go_wp2_with fail
  go_ret
  exact ⟨_, _, rfl, H1.out, Grew.trans (by repeat (first | with_reducible exact .refl _ | refine .alloc ?_ _ | refine .set ?_ (by simp) _ | refine .drewN ?_ _ | refine .drew ?_)) H2.out, H3.out⟩
theorem so_64264_sq (H : FA B C w cx TT FL EL RB dt es 64264 n ny N sl) {X : World} (g : Grew w X) : Calls Tryz.prog 16 #[.agg cx, .agg es] X (SQ B C X) := by
  have N1 : ((X.alloc (.cells cx 30)).alloc (.cells es 52)).heap[X.heap.size + 1]? = some (.cells es 52 (0, 0)) := by
    have := heap_alloc_last (X.alloc (.cells cx 30)) (.cells es 52)
    rw [alloc_size] at this
    exact this
  have N0 : ((X.alloc (.cells cx 30)).alloc (.cells es 52)).heap[X.heap.size]? = some (.cells cx 30 (0, 0)) := heap_alloc (heap_alloc_last _ _) _
  have HN := Hid.mk' N1
  have HM := Hid.mk' N0
  have hsz := H.c.sz
  have hes := H.i.sz
  have HH := Hid.mk' H
  have Hg := Hid.mk' g
  have o0 := (cell_of N1 0).trans H.i.h0
  have ox : es[0]'(by rw [hes]; decide) = .int .i64 64264 := getE H.i.h0
  have CQ : Hid (∀ Y, Grew ((X.alloc (.cells cx 30)).alloc (.cells es 52)) Y → Calls Tryz.prog 41 #[.agg cx, .agg es] Y (SQ B C Y)) := fun Y gY => qarrayNewFixed_sq HH.out ((Hg.out.trans (by repeat (first | with_reducible exact .refl _ | refine .alloc ?_ _ | refine .set ?_ (by simp) _ | refine .drewN ?_ _ | refine .drew ?_))).trans gY)
  clear N1 N0 H g
  go_enter Tryz.func16, Tryz.ntmps16
  go_wp2_with (first
    | (with_reducible refine stop_load 30 rfl ?_
       unfold Stop
       refine wpList_load_row rfl 30 _ rfl (X.heap.size) (by go_simp) 30 cx (0, 0) _ HM.out Tryz.underlying30 rfl (by rw [hsz]; kernel_rfl) ?_)
    | (with_reducible refine stop_load 52 rfl ?_
       unfold Stop
       refine wpList_load_row rfl 52 _ rfl (X.heap.size + 1) (by go_simp) 52 es (0, 0) _ HN.out Tryz.underlying52 rfl (by rw [hes]; kernel_rfl) ?_)
    | fail)
  refine (CQ.out _ (by repeat (first | with_reducible exact .refl _ | refine .alloc ?_ _ | refine .set ?_ (by simp) _ | refine .drewN ?_ _ | refine .drew ?_))).mono ?_
  rintro en wz ⟨k1, l1, rfl, h1, h2, h3⟩
  have H1 := Hid.mk' h1
  have H2 := Hid.mk' h2
  have H3 := Hid.mk' h3
  clear h1 h2 h3
  go_wp2_with fail
  go_ret
  exact ⟨_, _, rfl, H1.out, Grew.trans (by repeat (first | with_reducible exact .refl _ | refine .alloc ?_ _ | refine .set ?_ (by simp) _ | refine .drewN ?_ _ | refine .drew ?_)) H2.out, H3.out⟩
theorem so_64265_sq (H : FA B C w cx TT FL EL RB dt es 64265 n ny N sl) {X : World} (g : Grew w X) : Calls Tryz.prog 16 #[.agg cx, .agg es] X (SQ B C X) := by
  have N1 : ((X.alloc (.cells cx 30)).alloc (.cells es 52)).heap[X.heap.size + 1]? = some (.cells es 52 (0, 0)) := by
    have := heap_alloc_last (X.alloc (.cells cx 30)) (.cells es 52)
    rw [alloc_size] at this
    exact this
  have N0 : ((X.alloc (.cells cx 30)).alloc (.cells es 52)).heap[X.heap.size]? = some (.cells cx 30 (0, 0)) := heap_alloc (heap_alloc_last _ _) _
  have HN := Hid.mk' N1
  have HM := Hid.mk' N0
  have hsz := H.c.sz
  have hes := H.i.sz
  have HH := Hid.mk' H
  have Hg := Hid.mk' g
  have o0 := (cell_of N1 0).trans H.i.h0
  have ox : es[0]'(by rw [hes]; decide) = .int .i64 64265 := getE H.i.h0
  have CQ : Hid (∀ Y, Grew ((X.alloc (.cells cx 30)).alloc (.cells es 52)) Y → Calls Tryz.prog 42 #[.agg cx, .agg es, .func (.func 43) #[] #[]] Y (SQ B C Y)) := fun Y gY => qarrayNewFrom_sq HH.out ((Hg.out.trans (by repeat (first | with_reducible exact .refl _ | refine .alloc ?_ _ | refine .set ?_ (by simp) _ | refine .drewN ?_ _ | refine .drew ?_))).trans gY) _ (enters_of Tryz.func43 (by kernel_rfl) rfl) (fun Z a c b d gZ => fromData_any HH.out.c ny HH.out.i.l2 a c b d gZ)
  clear N1 N0 H g
  go_enter Tryz.func16, Tryz.ntmps16
  go_wp2_with (first
    | (with_reducible refine stop_load 30 rfl ?_
       unfold Stop
       refine wpList_load_row rfl 30 _ rfl (X.heap.size) (by go_simp) 30 cx (0, 0) _ HM.out Tryz.underlying30 rfl (by rw [hsz]; kernel_rfl) ?_)
    | (with_reducible refine stop_load 52 rfl ?_
       unfold Stop
       refine wpList_load_row rfl 52 _ rfl (X.heap.size + 1) (by go_simp) 52 es (0, 0) _ HN.out Tryz.underlying52 rfl (by rw [hes]; kernel_rfl) ?_)
    | fail)
  refine (CQ.out _ (by repeat (first | with_reducible exact .refl _ | refine .alloc ?_ _ | refine .set ?_ (by simp) _ | refine .drewN ?_ _ | refine .drew ?_))).mono ?_
  rintro en wz ⟨k1, l1, rfl, h1, h2, h3⟩
  have H1 := Hid.mk' h1
  have H2 := Hid.mk' h2
  have H3 := Hid.mk' h3
  clear h1 h2 h3
  go_wp2_with fail
  go_ret
  exact ⟨_, _, rfl, H1.out, Grew.trans (by repeat (first | with_reducible exact .refl _ | refine .alloc ?_ _ | refine .set ?_ (by simp) _ | refine .drewN ?_ _ | refine .drew ?_)) H2.out, H3.out⟩
theorem so_64266_sq (H : FA B C w cx TT FL EL RB dt es 64266 n ny N sl) {X : World} (g : Grew w X) : Calls Tryz.prog 16 #[.agg cx, .agg es] X (SQ B C X) := by
  have N1 : ((X.alloc (.cells cx 30)).alloc (.cells es 52)).heap[X.heap.size + 1]? = some (.cells es 52 (0, 0)) := by
    have := heap_alloc_last (X.alloc (.cells cx 30)) (.cells es 52)
    rw [alloc_size] at this
    exact this
  have N0 : ((X.alloc (.cells cx 30)).alloc (.cells es 52)).heap[X.heap.size]? = some (.cells cx 30 (0, 0)) := heap_alloc (heap_alloc_last _ _) _
  have HN := Hid.mk' N1
  have HM := Hid.mk' N0
  have hsz := H.c.sz
  have hes := H.i.sz
  have HH := Hid.mk' H
  have Hg := Hid.mk' g
  have o0 := (cell_of N1 0).trans H.i.h0
  have ox : es[0]'(by rw [hes]; decide) = .int .i64 64266 := getE H.i.h0
  have CQ : Hid (∀ Y, Grew ((X.alloc (.cells cx 30)).alloc (.cells es 52)) Y → Calls Tryz.prog 42 #[.agg cx, .agg es, .func (.func 44) #[] #[]] Y (SQ B C Y)) := fun Y gY => qarrayNewFrom_sq HH.out ((Hg.out.trans (by repeat (first | with_reducible exact .refl _ | refine .alloc ?_ _ | refine .set ?_ (by simp) _ | refine .drewN ?_ _ | refine .drew ?_))).trans gY) _ (enters_of Tryz.func44 (by kernel_rfl) rfl) (fun Z a c b d gZ => fromElem_any HH.out.c ny HH.out.i.l2 a c b d gZ)
  clear N1 N0 H g
  go_enter Tryz.func16, Tryz.ntmps16
  go_wp2_with (first
    | (with_reducible refine stop_load 30 rfl ?_
       unfold Stop
       refine wpList_load_row rfl 30 _ rfl (X.heap.size) (by go_simp) 30 cx (0, 0) _ HM.out Tryz.underlying30 rfl (by rw [hsz]; kernel_rfl) ?_)
    | (with_reducible refine stop_load 52 rfl ?_
       unfold Stop
       refine wpList_load_row rfl 52 _ rfl (X.heap.size + 1) (by go_simp) 52 es (0, 0) _ HN.out Tryz.underlying52 rfl (by rw [hes]; kernel_rfl) ?_)
    | fail)
  refine (CQ.out _ (by repeat (first | with_reducible exact .refl _ | refine .alloc ?_ _ | refine .set ?_ (by simp) _ | refine .drewN ?_ _ | refine .drew ?_))).mono ?_
  rintro en wz ⟨k1, l1, rfl, h1, h2, h3⟩
  have H1 := Hid.mk' h1
  have H2 := Hid.mk' h2
  have H3 := Hid.mk' h3
  clear h1 h2 h3
  go_wp2_with fail
  go_ret
  exact ⟨_, _, rfl, H1.out, Grew.trans (by repeat (first | with_reducible exact .refl _ | refine .alloc ?_ _ | refine .set ?_ (by simp) _ | refine .drewN ?_ _ | refine .drew ?_)) H2.out, H3.out⟩
theorem so_64271_sq (H : FA B C w cx TT FL EL RB dt es 64271 n ny N sl) {X : World} (g : Grew w X) : Calls Tryz.prog 16 #[.agg cx, .agg es] X (SQ B C X) := by
  have N1 : ((X.alloc (.cells cx 30)).alloc (.cells es 52)).heap[X.heap.size + 1]? = some (.cells es 52 (0, 0)) := by
    have := heap_alloc_last (X.alloc (.cells cx 30)) (.cells es 52)
    rw [alloc_size] at this
    exact this
  have N0 : ((X.alloc (.cells cx 30)).alloc (.cells es 52)).heap[X.heap.size]? = some (.cells cx 30 (0, 0)) := heap_alloc (heap_alloc_last _ _) _
  have HN := Hid.mk' N1
  have HM := Hid.mk' N0
  have hsz := H.c.sz
  have hes := H.i.sz
  have HH := Hid.mk' H
  have Hg := Hid.mk' g
  have o0 := (cell_of N1 0).trans H.i.h0
  have ox : es[0]'(by rw [hes]; decide) = .int .i64 64271 := getE H.i.h0
  have CA : Hid (∀ b h Y, Calls Tryz.prog 33 #[.bool b, .int .i64 h] Y fun en w' => en = .returned (.agg #[.int .i64 5, .bool b, .int .i64 h]) ∧ Grew Y w') := abs_any
  have C3 : Hid (∀ Y, Calls Tryz.prog 34 #[] Y fun en w' => en = .returned (.agg #[.int .i64 1, .bool false, .int .i64 0]) ∧ Grew Y w') := q32_any
  have CL : Hid (∀ v Y, Calls Tryz.prog 32 #[v] Y fun en w' => en = .returned v ∧ Grew Y w') := ql_any
  have CS : Hid (∀ Y (ia ua : Option Addr) (il ic ul uc : Nat) (li lu : List VT), Grew w Y → LV Y (.slice ia il ic) li → LV Y (.slice ua ul uc) lu → lu.length ≤ 8000000 → (∀ a, ua = some a → a.block < Y.heap.size) → Calls Tryz.prog 31 #[.slice ia il ic, .slice ua ul uc] Y (SQ B C Y)) := fun Y ia ua il ic ul uc li lu gY hi hu hn hb => qswaps_sq HH.out.F gY hi hu hn hb
  have HX0 : Hid (Grew X ((X.alloc (.cells cx 30)).alloc (.cells es 52))) := (by repeat (first | with_reducible exact .refl _ | refine .alloc ?_ _ | refine .set ?_ (by simp) _ | refine .drewN ?_ _ | refine .drew ?_))
  clear N1 N0 H g
  go_enter Tryz.func16, Tryz.ntmps16
  go_wp2_with (first
    | (with_reducible refine stop_load 30 rfl ?_
       unfold Stop
       refine wpList_load_row rfl 30 _ rfl (X.heap.size) (by go_simp) 30 cx (0, 0) _ HM.out Tryz.underlying30 rfl (by rw [hsz]; kernel_rfl) ?_)
    | (with_reducible refine stop_load 52 rfl ?_
       unfold Stop
       refine wpList_load_row rfl 52 _ rfl (X.heap.size + 1) (by go_simp) 52 es (0, 0) _ HN.out Tryz.underlying52 rfl (by rw [hes]; kernel_rfl) ?_)
    | fail)
  have GP := Hid.mk' (show Grew X ((X.alloc (.cells cx 30)).alloc (.cells es 52)) from (by repeat (first | with_reducible exact .refl _ | refine .alloc ?_ _ | refine .set ?_ (by simp) _ | refine .drewN ?_ _ | refine .drew ?_)))
  generalize ((X.alloc (.cells cx 30)).alloc (.cells es 52)) = w0 at *
  refine (CA.out _ _ _).mono ?_
  rintro en w1 ⟨rfl, g1⟩
  have gx := GP.out.trans g1
  clear GP
  have GP := Hid.mk' gx
  clear gx g1
  go_wp2_with fail
  refine (CL.out _ _).mono ?_
  rintro en w2 ⟨rfl, gg⟩
  have g2 : Grew (w1.alloc (.cells #[.int .i64 (5), .bool true, .int .i64 (-9)] 46)) w2 := gg
  have HU0 := Hid.mk' ((one_lst w1 (5) (-9) true).grew g2)
  have ga : Grew w1 w2 := Grew.trans ((Grew.refl _).alloc _) g2
  have gb : w1.heap.size < w2.heap.size := Nat.lt_of_lt_of_le (by rw [alloc_size]; omega) g2.2
  have HB0 := Hid.mk' gb
  have gx := GP.out.trans ga
  clear GP
  have GP := Hid.mk' gx
  clear gx gg g2 ga gb
  go_wp2_with fail
  refine (C3.out _).mono ?_
  rintro en w3 ⟨rfl, g3⟩
  have gx := GP.out.trans g3
  clear GP
  have GP := Hid.mk' gx
  have HU0 := Hid.mk' (HU0.out.grew g3)
  clear gx g3
  go_wp2_with fail
  refine (CL.out _ _).mono ?_
  rintro en w4 ⟨rfl, gg⟩
  have g4 : Grew (w3.alloc (.cells #[.int .i64 (1), .bool false, .int .i64 (0)] 46)) w4 := gg
  have HU1 := Hid.mk' ((one_lst w3 (1) (0) false).grew g4)
  have ga : Grew w3 w4 := Grew.trans ((Grew.refl _).alloc _) g4
  have gb : w3.heap.size < w4.heap.size := Nat.lt_of_lt_of_le (by rw [alloc_size]; omega) g4.2
  have HB1 := Hid.mk' gb
  have HU0 := Hid.mk' (HU0.out.grew ga)
  have gx := GP.out.trans ga
  clear GP
  have GP := Hid.mk' gx
  clear gx gg g4 ga gb
  go_wp2_with fail
  refine (CS.out _ _ _ _ _ _ _ _ _ (Hg.out.trans GP.out) HU0.out HU1.out (by simp) (fun a e => by injection e with e; subst e; exact HB1.out)).mono ?_
  rintro en wz ⟨k1, l1, rfl, h1, h2, h3⟩
  have H1 := Hid.mk' h1
  have H2 := Hid.mk' h2
  have H3 := Hid.mk' h3
  clear h1 h2 h3
  go_wp2_with fail
  go_ret
  exact ⟨_, _, rfl, H1.out, Grew.trans GP.out H2.out, H3.out⟩
theorem so_64272_sq (H : FA B C w cx TT FL EL RB dt es 64272 n ny N sl) {X : World} (g : Grew w X) : Calls Tryz.prog 16 #[.agg cx, .agg es] X (SQ B C X) := by
  have N1 : ((X.alloc (.cells cx 30)).alloc (.cells es 52)).heap[X.heap.size + 1]? = some (.cells es 52 (0, 0)) := by
    have := heap_alloc_last (X.alloc (.cells cx 30)) (.cells es 52)
    rw [alloc_size] at this
    exact this
  have N0 : ((X.alloc (.cells cx 30)).alloc (.cells es 52)).heap[X.heap.size]? = some (.cells cx 30 (0, 0)) := heap_alloc (heap_alloc_last _ _) _
  have HN := Hid.mk' N1
  have HM := Hid.mk' N0
  have hsz := H.c.sz
  have hes := H.i.sz
  have HH := Hid.mk' H
  have Hg := Hid.mk' g
  have o0 := (cell_of N1 0).trans H.i.h0
  have ox : es[0]'(by rw [hes]; decide) = .int .i64 64272 := getE H.i.h0
  have CQ : Hid (∀ Y, Grew ((X.alloc (.cells cx 30)).alloc (.cells es 52)) Y → Calls Tryz.prog 45 #[.agg cx, .agg es] Y (SQ B C Y)) := fun Y gY => qarrayFill_sq HH.out ((Hg.out.trans (by repeat (first | with_reducible exact .refl _ | refine .alloc ?_ _ | refine .set ?_ (by simp) _ | refine .drewN ?_ _ | refine .drew ?_))).trans gY)
  clear N1 N0 H g
  go_enter Tryz.func16, Tryz.ntmps16
  go_wp2_with (first
    | (with_reducible refine stop_load 30 rfl ?_
       unfold Stop
       refine wpList_load_row rfl 30 _ rfl (X.heap.size) (by go_simp) 30 cx (0, 0) _ HM.out Tryz.underlying30 rfl (by rw [hsz]; kernel_rfl) ?_)
    | (with_reducible refine stop_load 52 rfl ?_
       unfold Stop
       refine wpList_load_row rfl 52 _ rfl (X.heap.size + 1) (by go_simp) 52 es (0, 0) _ HN.out Tryz.underlying52 rfl (by rw [hes]; kernel_rfl) ?_)
    | fail)
  refine (CQ.out _ (by repeat (first | with_reducible exact .refl _ | refine .alloc ?_ _ | refine .set ?_ (by simp) _ | refine .drewN ?_ _ | refine .drew ?_))).mono ?_
  rintro en wz ⟨k1, l1, rfl, h1, h2, h3⟩
  have H1 := Hid.mk' h1
  have H2 := Hid.mk' h2
  have H3 := Hid.mk' h3
  clear h1 h2 h3
  go_wp2_with fail
  go_ret
  exact ⟨_, _, rfl, H1.out, Grew.trans (by repeat (first | with_reducible exact .refl _ | refine .alloc ?_ _ | refine .set ?_ (by simp) _ | refine .drewN ?_ _ | refine .drew ?_)) H2.out, H3.out⟩
theorem so_64273_sq (H : FA B C w cx TT FL EL RB dt es 64273 n ny N sl) {X : World} (g : Grew w X) : Calls Tryz.prog 16 #[.agg cx, .agg es] X (SQ B C X) := by
  have N1 : ((X.alloc (.cells cx 30)).alloc (.cells es 52)).heap[X.heap.size + 1]? = some (.cells es 52 (0, 0)) := by
    have := heap_alloc_last (X.alloc (.cells cx 30)) (.cells es 52)
    rw [alloc_size] at this
    exact this
  have N0 : ((X.alloc (.cells cx 30)).alloc (.cells es 52)).heap[X.heap.size]? = some (.cells cx 30 (0, 0)) := heap_alloc (heap_alloc_last _ _) _
  have HN := Hid.mk' N1
  have HM := Hid.mk' N0
  have hsz := H.c.sz
  have hes := H.i.sz
  have HH := Hid.mk' H
  have Hg := Hid.mk' g
  have o0 := (cell_of N1 0).trans H.i.h0
  have ox : es[0]'(by rw [hes]; decide) = .int .i64 64273 := getE H.i.h0
  have CQ : Hid (∀ Y, Grew ((X.alloc (.cells cx 30)).alloc (.cells es 52)) Y → Calls Tryz.prog 46 #[.agg cx, .agg es] Y (SQ B C Y)) := fun Y gY => qarrayCopy_sq HH.out ((Hg.out.trans (by repeat (first | with_reducible exact .refl _ | refine .alloc ?_ _ | refine .set ?_ (by simp) _ | refine .drewN ?_ _ | refine .drew ?_))).trans gY)
  clear N1 N0 H g
  go_enter Tryz.func16, Tryz.ntmps16
  go_wp2_with (first
    | (with_reducible refine stop_load 30 rfl ?_
       unfold Stop
       refine wpList_load_row rfl 30 _ rfl (X.heap.size) (by go_simp) 30 cx (0, 0) _ HM.out Tryz.underlying30 rfl (by rw [hsz]; kernel_rfl) ?_)
    | (with_reducible refine stop_load 52 rfl ?_
       unfold Stop
       refine wpList_load_row rfl 52 _ rfl (X.heap.size + 1) (by go_simp) 52 es (0, 0) _ HN.out Tryz.underlying52 rfl (by rw [hes]; kernel_rfl) ?_)
    | fail)
  refine (CQ.out _ (by repeat (first | with_reducible exact .refl _ | refine .alloc ?_ _ | refine .set ?_ (by simp) _ | refine .drewN ?_ _ | refine .drew ?_))).mono ?_
  rintro en wz ⟨k1, l1, rfl, h1, h2, h3⟩
  have H1 := Hid.mk' h1
  have H2 := Hid.mk' h2
  have H3 := Hid.mk' h3
  clear h1 h2 h3
  go_wp2_with fail
  go_ret
  exact ⟨_, _, rfl, H1.out, Grew.trans (by repeat (first | with_reducible exact .refl _ | refine .alloc ?_ _ | refine .set ?_ (by simp) _ | refine .drewN ?_ _ | refine .drew ?_)) H2.out, H3.out⟩
theorem so_64274_sq (H : FA B C w cx TT FL EL RB dt es 64274 n ny N sl) {X : World} (g : Grew w X) : Calls Tryz.prog 16 #[.agg cx, .agg es] X (SQ B C X) := by
  have N1 : ((X.alloc (.cells cx 30)).alloc (.cells es 52)).heap[X.heap.size + 1]? = some (.cells es 52 (0, 0)) := by
    have := heap_alloc_last (X.alloc (.cells cx 30)) (.cells es 52)
    rw [alloc_size] at this
    exact this
  have N0 : ((X.alloc (.cells cx 30)).alloc (.cells es 52)).heap[X.heap.size]? = some (.cells cx 30 (0, 0)) := heap_alloc (heap_alloc_last _ _) _
  have HN := Hid.mk' N1
  have HM := Hid.mk' N0
  have hsz := H.c.sz
  have hes := H.i.sz
  have HH := Hid.mk' H
  have Hg := Hid.mk' g
  have o0 := (cell_of N1 0).trans H.i.h0
  have ox : es[0]'(by rw [hes]; decide) = .int .i64 64274 := getE H.i.h0
  have CQ : Hid (∀ Y, Grew ((X.alloc (.cells cx 30)).alloc (.cells es 52)) Y → Calls Tryz.prog 47 #[.agg cx, .agg es, .func (.func 43) #[] #[]] Y (SQ B C Y)) := fun Y gY => qarrayInitFrom_sq HH.out ((Hg.out.trans (by repeat (first | with_reducible exact .refl _ | refine .alloc ?_ _ | refine .set ?_ (by simp) _ | refine .drewN ?_ _ | refine .drew ?_))).trans gY) _ (enters_of Tryz.func43 (by kernel_rfl) rfl) (fun Z a c b d gZ => fromData_any HH.out.c ny HH.out.i.l2 a c b d gZ)
  clear N1 N0 H g
  go_enter Tryz.func16, Tryz.ntmps16
  go_wp2_with (first
    | (with_reducible refine stop_load 30 rfl ?_
       unfold Stop
       refine wpList_load_row rfl 30 _ rfl (X.heap.size) (by go_simp) 30 cx (0, 0) _ HM.out Tryz.underlying30 rfl (by rw [hsz]; kernel_rfl) ?_)
    | (with_reducible refine stop_load 52 rfl ?_
       unfold Stop
       refine wpList_load_row rfl 52 _ rfl (X.heap.size + 1) (by go_simp) 52 es (0, 0) _ HN.out Tryz.underlying52 rfl (by rw [hes]; kernel_rfl) ?_)
    | fail)
  refine (CQ.out _ (by repeat (first | with_reducible exact .refl _ | refine .alloc ?_ _ | refine .set ?_ (by simp) _ | refine .drewN ?_ _ | refine .drew ?_))).mono ?_
  rintro en wz ⟨k1, l1, rfl, h1, h2, h3⟩
  have H1 := Hid.mk' h1
  have H2 := Hid.mk' h2
  have H3 := Hid.mk' h3
  clear h1 h2 h3
  go_wp2_with fail
  go_ret
  exact ⟨_, _, rfl, H1.out, Grew.trans (by repeat (first | with_reducible exact .refl _ | refine .alloc ?_ _ | refine .set ?_ (by simp) _ | refine .drewN ?_ _ | refine .drew ?_)) H2.out, H3.out⟩
theorem so_64275_sq (H : FA B C w cx TT FL EL RB dt es 64275 n ny N sl) {X : World} (g : Grew w X) : Calls Tryz.prog 16 #[.agg cx, .agg es] X (SQ B C X) := by
  have N1 : ((X.alloc (.cells cx 30)).alloc (.cells es 52)).heap[X.heap.size + 1]? = some (.cells es 52 (0, 0)) := by
    have := heap_alloc_last (X.alloc (.cells cx 30)) (.cells es 52)
    rw [alloc_size] at this
    exact this
  have N0 : ((X.alloc (.cells cx 30)).alloc (.cells es 52)).heap[X.heap.size]? = some (.cells cx 30 (0, 0)) := heap_alloc (heap_alloc_last _ _) _
  have HN := Hid.mk' N1
  have HM := Hid.mk' N0
  have hsz := H.c.sz
  have hes := H.i.sz
  have HH := Hid.mk' H
  have Hg := Hid.mk' g
  have o0 := (cell_of N1 0).trans H.i.h0
  have ox : es[0]'(by rw [hes]; decide) = .int .i64 64275 := getE H.i.h0
  have CQ : Hid (∀ Y, Grew ((X.alloc (.cells cx 30)).alloc (.cells es 52)) Y → Calls Tryz.prog 47 #[.agg cx, .agg es, .func (.func 44) #[] #[]] Y (SQ B C Y)) := fun Y gY => qarrayInitFrom_sq HH.out ((Hg.out.trans (by repeat (first | with_reducible exact .refl _ | refine .alloc ?_ _ | refine .set ?_ (by simp) _ | refine .drewN ?_ _ | refine .drew ?_))).trans gY) _ (enters_of Tryz.func44 (by kernel_rfl) rfl) (fun Z a c b d gZ => fromElem_any HH.out.c ny HH.out.i.l2 a c b d gZ)
  clear N1 N0 H g
  go_enter Tryz.func16, Tryz.ntmps16
  go_wp2_with (first
    | (with_reducible refine stop_load 30 rfl ?_
       unfold Stop
       refine wpList_load_row rfl 30 _ rfl (X.heap.size) (by go_simp) 30 cx (0, 0) _ HM.out Tryz.underlying30 rfl (by rw [hsz]; kernel_rfl) ?_)
    | (with_reducible refine stop_load 52 rfl ?_
       unfold Stop
       refine wpList_load_row rfl 52 _ rfl (X.heap.size + 1) (by go_simp) 52 es (0, 0) _ HN.out Tryz.underlying52 rfl (by rw [hes]; kernel_rfl) ?_)
    | fail)
  refine (CQ.out _ (by repeat (first | with_reducible exact .refl _ | refine .alloc ?_ _ | refine .set ?_ (by simp) _ | refine .drewN ?_ _ | refine .drew ?_))).mono ?_
  rintro en wz ⟨k1, l1, rfl, h1, h2, h3⟩
  have H1 := Hid.mk' h1
  have H2 := Hid.mk' h2
  have H3 := Hid.mk' h3
  clear h1 h2 h3
  go_wp2_with fail
  go_ret
  exact ⟨_, _, rfl, H1.out, Grew.trans (by repeat (first | with_reducible exact .refl _ | refine .alloc ?_ _ | refine .set ?_ (by simp) _ | refine .drewN ?_ _ | refine .drew ?_)) H2.out, H3.out⟩
theorem sc_64276_sq (H : FA B C w cx TT FL EL RB dt es 64276 n ny N sl) {X : World} (g : Grew w X) : Calls Tryz.prog 48 #[.agg cx, .agg es] X (SQ B C X) := by
  have N1 : ((X.alloc (.cells cx 30)).alloc (.cells es 52)).heap[X.heap.size + 1]? = some (.cells es 52 (0, 0)) := by
    have := heap_alloc_last (X.alloc (.cells cx 30)) (.cells es 52)
    rw [alloc_size] at this
    exact this
  have N0 : ((X.alloc (.cells cx 30)).alloc (.cells es 52)).heap[X.heap.size]? = some (.cells cx 30 (0, 0)) := heap_alloc (heap_alloc_last _ _) _
  have HN := Hid.mk' N1
  have HM := Hid.mk' N0
  have hsz := H.c.sz
  have hes := H.i.sz
  have HH := Hid.mk' H
  have Hg := Hid.mk' g
  have o0 := (cell_of N1 0).trans H.i.h0
  have ox : es[0]'(by rw [hes]; decide) = .int .i64 64276 := getE H.i.h0
  have CQ : Hid (∀ Y, Grew ((X.alloc (.cells cx 30)).alloc (.cells es 52)) Y → Calls Tryz.prog 92 #[.agg cx, .agg es] Y (SQ B C Y)) := fun Y gY => qcast_sq HH.out ((Hg.out.trans (by repeat (first | with_reducible exact .refl _ | refine .alloc ?_ _ | refine .set ?_ (by simp) _ | refine .drewN ?_ _ | refine .drew ?_))).trans gY)
  clear N1 N0 H g
  go_enter Tryz.func48, Tryz.ntmps48
  go_wp2_with (first
    | (with_reducible refine stop_load 30 rfl ?_
       unfold Stop
       refine wpList_load_row rfl 30 _ rfl (X.heap.size) (by go_simp) 30 cx (0, 0) _ HM.out Tryz.underlying30 rfl (by rw [hsz]; kernel_rfl) ?_)
    | (with_reducible refine stop_load 52 rfl ?_
       unfold Stop
       refine wpList_load_row rfl 52 _ rfl (X.heap.size + 1) (by go_simp) 52 es (0, 0) _ HN.out Tryz.underlying52 rfl (by rw [hes]; kernel_rfl) ?_)
    | fail)
  refine (CQ.out _ (by repeat (first | with_reducible exact .refl _ | refine .alloc ?_ _ | refine .set ?_ (by simp) _ | refine .drewN ?_ _ | refine .drew ?_))).mono ?_
  rintro en wz ⟨k1, l1, rfl, h1, h2, h3⟩
  have H1 := Hid.mk' h1
  have H2 := Hid.mk' h2
  have H3 := Hid.mk' h3
  clear h1 h2 h3
  go_wp2_with fail
  go_ret
  exact ⟨_, _, rfl, H1.out, Grew.trans (by repeat (first | with_reducible exact .refl _ | refine .alloc ?_ _ | refine .set ?_ (by simp) _ | refine .drewN ?_ _ | refine .drew ?_)) H2.out, H3.out⟩
theorem sc_64277_sq (H : FA B C w cx TT FL EL RB dt es 64277 n ny N sl) {X : World} (g : Grew w X) : Calls Tryz.prog 48 #[.agg cx, .agg es] X (SQ B C X) := by
  have N1 : ((X.alloc (.cells cx 30)).alloc (.cells es 52)).heap[X.heap.size + 1]? = some (.cells es 52 (0, 0)) := by
    have := heap_alloc_last (X.alloc (.cells cx 30)) (.cells es 52)
    rw [alloc_size] at this
    exact this
  have N0 : ((X.alloc (.cells cx 30)).alloc (.cells es 52)).heap[X.heap.size]? = some (.cells cx 30 (0, 0)) := heap_alloc (heap_alloc_last _ _) _
  have HN := Hid.mk' N1
  have HM := Hid.mk' N0
  have hsz := H.c.sz
  have hes := H.i.sz
  have HH := Hid.mk' H
  have Hg := Hid.mk' g
  have o0 := (cell_of N1 0).trans H.i.h0
  have ox : es[0]'(by rw [hes]; decide) = .int .i64 64277 := getE H.i.h0
  have CQ : Hid (∀ Y, Grew ((X.alloc (.cells cx 30)).alloc (.cells es 52)) Y → Calls Tryz.prog 92 #[.agg cx, .agg es] Y (SQ B C Y)) := fun Y gY => qcast_sq HH.out ((Hg.out.trans (by repeat (first | with_reducible exact .refl _ | refine .alloc ?_ _ | refine .set ?_ (by simp) _ | refine .drewN ?_ _ | refine .drew ?_))).trans gY)
  clear N1 N0 H g
  go_enter Tryz.func48, Tryz.ntmps48
  go_wp2_with (first
    | (with_reducible refine stop_load 30 rfl ?_
       unfold Stop
       refine wpList_load_row rfl 30 _ rfl (X.heap.size) (by go_simp) 30 cx (0, 0) _ HM.out Tryz.underlying30 rfl (by rw [hsz]; kernel_rfl) ?_)
    | (with_reducible refine stop_load 52 rfl ?_
       unfold Stop
       refine wpList_load_row rfl 52 _ rfl (X.heap.size + 1) (by go_simp) 52 es (0, 0) _ HN.out Tryz.underlying52 rfl (by rw [hes]; kernel_rfl) ?_)
    | fail)
  refine (CQ.out _ (by repeat (first | with_reducible exact .refl _ | refine .alloc ?_ _ | refine .set ?_ (by simp) _ | refine .drewN ?_ _ | refine .drew ?_))).mono ?_
  rintro en wz ⟨k1, l1, rfl, h1, h2, h3⟩
  have H1 := Hid.mk' h1
  have H2 := Hid.mk' h2
  have H3 := Hid.mk' h3
  clear h1 h2 h3
  go_wp2_with fail
  go_ret
  exact ⟨_, _, rfl, H1.out, Grew.trans (by repeat (first | with_reducible exact .refl _ | refine .alloc ?_ _ | refine .set ?_ (by simp) _ | refine .drewN ?_ _ | refine .drew ?_)) H2.out, H3.out⟩
theorem sc_64278_sq (H : FA B C w cx TT FL EL RB dt es 64278 n ny N sl) {X : World} (g : Grew w X) : Calls Tryz.prog 48 #[.agg cx, .agg es] X (SQ B C X) := by
  have N1 : ((X.alloc (.cells cx 30)).alloc (.cells es 52)).heap[X.heap.size + 1]? = some (.cells es 52 (0, 0)) := by
    have := heap_alloc_last (X.alloc (.cells cx 30)) (.cells es 52)
    rw [alloc_size] at this
    exact this
  have N0 : ((X.alloc (.cells cx 30)).alloc (.cells es 52)).heap[X.heap.size]? = some (.cells cx 30 (0, 0)) := heap_alloc (heap_alloc_last _ _) _
  have HN := Hid.mk' N1
  have HM := Hid.mk' N0
  have hsz := H.c.sz
  have hes := H.i.sz
  have HH := Hid.mk' H
  have Hg := Hid.mk' g
  have o0 := (cell_of N1 0).trans H.i.h0
  have ox : es[0]'(by rw [hes]; decide) = .int .i64 64278 := getE H.i.h0
  have CQ : Hid (∀ Y, Grew ((X.alloc (.cells cx 30)).alloc (.cells es 52)) Y → Calls Tryz.prog 92 #[.agg cx, .agg es] Y (SQ B C Y)) := fun Y gY => qcast_sq HH.out ((Hg.out.trans (by repeat (first | with_reducible exact .refl _ | refine .alloc ?_ _ | refine .set ?_ (by simp) _ | refine .drewN ?_ _ | refine .drew ?_))).trans gY)
  clear N1 N0 H g
  go_enter Tryz.func48, Tryz.ntmps48
  go_wp2_with (first
    | (with_reducible refine stop_load 30 rfl ?_
       unfold Stop
       refine wpList_load_row rfl 30 _ rfl (X.heap.size) (by go_simp) 30 cx (0, 0) _ HM.out Tryz.underlying30 rfl (by rw [hsz]; kernel_rfl) ?_)
    | (with_reducible refine stop_load 52 rfl ?_
       unfold Stop
       refine wpList_load_row rfl 52 _ rfl (X.heap.size + 1) (by go_simp) 52 es (0, 0) _ HN.out Tryz.underlying52 rfl (by rw [hes]; kernel_rfl) ?_)
    | fail)
  refine (CQ.out _ (by repeat (first | with_reducible exact .refl _ | refine .alloc ?_ _ | refine .set ?_ (by simp) _ | refine .drewN ?_ _ | refine .drew ?_))).mono ?_
  rintro en wz ⟨k1, l1, rfl, h1, h2, h3⟩
  have H1 := Hid.mk' h1
  have H2 := Hid.mk' h2
  have H3 := Hid.mk' h3
  clear h1 h2 h3
  go_wp2_with fail
  go_ret
  exact ⟨_, _, rfl, H1.out, Grew.trans (by repeat (first | with_reducible exact .refl _ | refine .alloc ?_ _ | refine .set ?_ (by simp) _ | refine .drewN ?_ _ | refine .drew ?_)) H2.out, H3.out⟩
theorem sc_64279_sq (H : FA B C w cx TT FL EL RB dt es 64279 n ny N sl) {X : World} (g : Grew w X) : Calls Tryz.prog 48 #[.agg cx, .agg es] X (SQ B C X) := by
  have N1 : ((X.alloc (.cells cx 30)).alloc (.cells es 52)).heap[X.heap.size + 1]? = some (.cells es 52 (0, 0)) := by
    have := heap_alloc_last (X.alloc (.cells cx 30)) (.cells es 52)
    rw [alloc_size] at this
    exact this
  have N0 : ((X.alloc (.cells cx 30)).alloc (.cells es 52)).heap[X.heap.size]? = some (.cells cx 30 (0, 0)) := heap_alloc (heap_alloc_last _ _) _
  have HN := Hid.mk' N1
  have HM := Hid.mk' N0
  have hsz := H.c.sz
  have hes := H.i.sz
  have HH := Hid.mk' H
  have Hg := Hid.mk' g
  have o0 := (cell_of N1 0).trans H.i.h0
  have ox : es[0]'(by rw [hes]; decide) = .int .i64 64279 := getE H.i.h0
  have CQ : Hid (∀ Y, Grew ((X.alloc (.cells cx 30)).alloc (.cells es 52)) Y → Calls Tryz.prog 92 #[.agg cx, .agg es] Y (SQ B C Y)) := fun Y gY => qcast_sq HH.out ((Hg.out.trans (by repeat (first | with_reducible exact .refl _ | refine .alloc ?_ _ | refine .set ?_ (by simp) _ | refine .drewN ?_ _ | refine .drew ?_))).trans gY)
  clear N1 N0 H g
  go_enter Tryz.func48, Tryz.ntmps48
  go_wp2_with (first
    | (with_reducible refine stop_load 30 rfl ?_
       unfold Stop
       refine wpList_load_row rfl 30 _ rfl (X.heap.size) (by go_simp) 30 cx (0, 0) _ HM.out Tryz.underlying30 rfl (by rw [hsz]; kernel_rfl) ?_)
    | (with_reducible refine stop_load 52 rfl ?_
       unfold Stop
       refine wpList_load_row rfl 52 _ rfl (X.heap.size + 1) (by go_simp) 52 es (0, 0) _ HN.out Tryz.underlying52 rfl (by rw [hes]; kernel_rfl) ?_)
    | fail)
  refine (CQ.out _ (by repeat (first | with_reducible exact .refl _ | refine .alloc ?_ _ | refine .set ?_ (by simp) _ | refine .drewN ?_ _ | refine .drew ?_))).mono ?_
  rintro en wz ⟨k1, l1, rfl, h1, h2, h3⟩
  have H1 := Hid.mk' h1
  have H2 := Hid.mk' h2
  have H3 := Hid.mk' h3
  clear h1 h2 h3
  go_wp2_with fail
  go_ret
  exact ⟨_, _, rfl, H1.out, Grew.trans (by repeat (first | with_reducible exact .refl _ | refine .alloc ?_ _ | refine .set ?_ (by simp) _ | refine .drewN ?_ _ | refine .drew ?_)) H2.out, H3.out⟩
theorem sc_64280_sq (H : FA B C w cx TT FL EL RB dt es 64280 n ny N sl) {X : World} (g : Grew w X) : Calls Tryz.prog 48 #[.agg cx, .agg es] X (SQ B C X) := by
  have N1 : ((X.alloc (.cells cx 30)).alloc (.cells es 52)).heap[X.heap.size + 1]? = some (.cells es 52 (0, 0)) := by
    have := heap_alloc_last (X.alloc (.cells cx 30)) (.cells es 52)
    rw [alloc_size] at this
    exact this
  have N0 : ((X.alloc (.cells cx 30)).alloc (.cells es 52)).heap[X.heap.size]? = some (.cells cx 30 (0, 0)) := heap_alloc (heap_alloc_last _ _) _
  have HN := Hid.mk' N1
  have HM := Hid.mk' N0
  have hsz := H.c.sz
  have hes := H.i.sz
  have HH := Hid.mk' H
  have Hg := Hid.mk' g
  have o0 := (cell_of N1 0).trans H.i.h0
  have ox : es[0]'(by rw [hes]; decide) = .int .i64 64280 := getE H.i.h0
  have CQ : Hid (∀ Y, Grew ((X.alloc (.cells cx 30)).alloc (.cells es 52)) Y → Calls Tryz.prog 93 #[.agg cx, .agg es] Y (SQ B C Y)) := fun Y gY => qbranch_sq HH.out ((Hg.out.trans (by repeat (first | with_reducible exact .refl _ | refine .alloc ?_ _ | refine .set ?_ (by simp) _ | refine .drewN ?_ _ | refine .drew ?_))).trans gY)
  clear N1 N0 H g
  go_enter Tryz.func48, Tryz.ntmps48
  go_wp2_with (first
    | (with_reducible refine stop_load 30 rfl ?_
       unfold Stop
       refine wpList_load_row rfl 30 _ rfl (X.heap.size) (by go_simp) 30 cx (0, 0) _ HM.out Tryz.underlying30 rfl (by rw [hsz]; kernel_rfl) ?_)
    | (with_reducible refine stop_load 52 rfl ?_
       unfold Stop
       refine wpList_load_row rfl 52 _ rfl (X.heap.size + 1) (by go_simp) 52 es (0, 0) _ HN.out Tryz.underlying52 rfl (by rw [hes]; kernel_rfl) ?_)
    | fail)
  refine (CQ.out _ (by repeat (first | with_reducible exact .refl _ | refine .alloc ?_ _ | refine .set ?_ (by simp) _ | refine .drewN ?_ _ | refine .drew ?_))).mono ?_
  rintro en wz ⟨k1, l1, rfl, h1, h2, h3⟩
  have H1 := Hid.mk' h1
  have H2 := Hid.mk' h2
  have H3 := Hid.mk' h3
  clear h1 h2 h3
  go_wp2_with fail
  go_ret
  exact ⟨_, _, rfl, H1.out, Grew.trans (by repeat (first | with_reducible exact .refl _ | refine .alloc ?_ _ | refine .set ?_ (by simp) _ | refine .drewN ?_ _ | refine .drew ?_)) H2.out, H3.out⟩
theorem sc_64281_sq (H : FA B C w cx TT FL EL RB dt es 64281 n ny N sl) {X : World} (g : Grew w X) : Calls Tryz.prog 48 #[.agg cx, .agg es] X (SQ B C X) := by
  have N1 : ((X.alloc (.cells cx 30)).alloc (.cells es 52)).heap[X.heap.size + 1]? = some (.cells es 52 (0, 0)) := by
    have := heap_alloc_last (X.alloc (.cells cx 30)) (.cells es 52)
    rw [alloc_size] at this
    exact this
  have N0 : ((X.alloc (.cells cx 30)).alloc (.cells es 52)).heap[X.heap.size]? = some (.cells cx 30 (0, 0)) := heap_alloc (heap_alloc_last _ _) _
  have HN := Hid.mk' N1
  have HM := Hid.mk' N0
  have hsz := H.c.sz
  have hes := H.i.sz
  have HH := Hid.mk' H
  have Hg := Hid.mk' g
  have o0 := (cell_of N1 0).trans H.i.h0
  have ox : es[0]'(by rw [hes]; decide) = .int .i64 64281 := getE H.i.h0
  have CQ : Hid (∀ Y, Grew ((X.alloc (.cells cx 30)).alloc (.cells es 52)) Y → Calls Tryz.prog 93 #[.agg cx, .agg es] Y (SQ B C Y)) := fun Y gY => qbranch_sq HH.out ((Hg.out.trans (by repeat (first | with_reducible exact .refl _ | refine .alloc ?_ _ | refine .set ?_ (by simp) _ | refine .drewN ?_ _ | refine .drew ?_))).trans gY)
  clear N1 N0 H g
  go_enter Tryz.func48, Tryz.ntmps48
  go_wp2_with (first
    | (with_reducible refine stop_load 30 rfl ?_
       unfold Stop
       refine wpList_load_row rfl 30 _ rfl (X.heap.size) (by go_simp) 30 cx (0, 0) _ HM.out Tryz.underlying30 rfl (by rw [hsz]; kernel_rfl) ?_)
    | (with_reducible refine stop_load 52 rfl ?_
       unfold Stop
       refine wpList_load_row rfl 52 _ rfl (X.heap.size + 1) (by go_simp) 52 es (0, 0) _ HN.out Tryz.underlying52 rfl (by rw [hes]; kernel_rfl) ?_)
    | fail)
  refine (CQ.out _ (by repeat (first | with_reducible exact .refl _ | refine .alloc ?_ _ | refine .set ?_ (by simp) _ | refine .drewN ?_ _ | refine .drew ?_))).mono ?_
  rintro en wz ⟨k1, l1, rfl, h1, h2, h3⟩
  have H1 := Hid.mk' h1
  have H2 := Hid.mk' h2
  have H3 := Hid.mk' h3
  clear h1 h2 h3
  go_wp2_with fail
  go_ret
  exact ⟨_, _, rfl, H1.out, Grew.trans (by repeat (first | with_reducible exact .refl _ | refine .alloc ?_ _ | refine .set ?_ (by simp) _ | refine .drewN ?_ _ | refine .drew ?_)) H2.out, H3.out⟩
theorem sc_64282_sq (H : FA B C w cx TT FL EL RB dt es 64282 n ny N sl) {X : World} (g : Grew w X) : Calls Tryz.prog 48 #[.agg cx, .agg es] X (SQ B C X) := by
  have N1 : ((X.alloc (.cells cx 30)).alloc (.cells es 52)).heap[X.heap.size + 1]? = some (.cells es 52 (0, 0)) := by
    have := heap_alloc_last (X.alloc (.cells cx 30)) (.cells es 52)
    rw [alloc_size] at this
    exact this
  have N0 : ((X.alloc (.cells cx 30)).alloc (.cells es 52)).heap[X.heap.size]? = some (.cells cx 30 (0, 0)) := heap_alloc (heap_alloc_last _ _) _
  have HN := Hid.mk' N1
  have HM := Hid.mk' N0
  have hsz := H.c.sz
  have hes := H.i.sz
  have HH := Hid.mk' H
  have Hg := Hid.mk' g
  have o0 := (cell_of N1 0).trans H.i.h0
  have ox : es[0]'(by rw [hes]; decide) = .int .i64 64282 := getE H.i.h0
  have CQ : Hid (∀ Y, Grew ((X.alloc (.cells cx 30)).alloc (.cells es 52)) Y → Calls Tryz.prog 94 #[.int .i64 (-3), .int .i64 (-5)] Y (SQ B C Y)) := fun Y gY => qconverts_sq HH.out.F ((Hg.out.trans (by repeat (first | with_reducible exact .refl _ | refine .alloc ?_ _ | refine .set ?_ (by simp) _ | refine .drewN ?_ _ | refine .drew ?_))).trans gY) _ _
  clear N1 N0 H g
  go_enter Tryz.func48, Tryz.ntmps48
  go_wp2_with (first
    | (with_reducible refine stop_load 30 rfl ?_
       unfold Stop
       refine wpList_load_row rfl 30 _ rfl (X.heap.size) (by go_simp) 30 cx (0, 0) _ HM.out Tryz.underlying30 rfl (by rw [hsz]; kernel_rfl) ?_)
    | (with_reducible refine stop_load 52 rfl ?_
       unfold Stop
       refine wpList_load_row rfl 52 _ rfl (X.heap.size + 1) (by go_simp) 52 es (0, 0) _ HN.out Tryz.underlying52 rfl (by rw [hes]; kernel_rfl) ?_)
    | fail)
  refine (CQ.out _ (by repeat (first | with_reducible exact .refl _ | refine .alloc ?_ _ | refine .set ?_ (by simp) _ | refine .drewN ?_ _ | refine .drew ?_))).mono ?_
  rintro en wz ⟨k1, l1, rfl, h1, h2, h3⟩
  have H1 := Hid.mk' h1
  have H2 := Hid.mk' h2
  have H3 := Hid.mk' h3
  clear h1 h2 h3
  go_wp2_with fail
  go_ret
  exact ⟨_, _, rfl, H1.out, Grew.trans (by repeat (first | with_reducible exact .refl _ | refine .alloc ?_ _ | refine .set ?_ (by simp) _ | refine .drewN ?_ _ | refine .drew ?_)) H2.out, H3.out⟩
theorem sc_64283_sq (H : FA B C w cx TT FL EL RB dt es 64283 n ny N sl) {X : World} (g : Grew w X) : Calls Tryz.prog 48 #[.agg cx, .agg es] X (SQ B C X) := by
  have N1 : ((X.alloc (.cells cx 30)).alloc (.cells es 52)).heap[X.heap.size + 1]? = some (.cells es 52 (0, 0)) := by
    have := heap_alloc_last (X.alloc (.cells cx 30)) (.cells es 52)
    rw [alloc_size] at this
    exact this
  have N0 : ((X.alloc (.cells cx 30)).alloc (.cells es 52)).heap[X.heap.size]? = some (.cells cx 30 (0, 0)) := heap_alloc (heap_alloc_last _ _) _
  have HN := Hid.mk' N1
  have HM := Hid.mk' N0
  have hsz := H.c.sz
  have hes := H.i.sz
  have HH := Hid.mk' H
  have Hg := Hid.mk' g
  have o0 := (cell_of N1 0).trans H.i.h0
  have ox : es[0]'(by rw [hes]; decide) = .int .i64 64283 := getE H.i.h0
  have CQ : Hid (∀ Y, Grew ((X.alloc (.cells cx 30)).alloc (.cells es 52)) Y → Calls Tryz.prog 94 #[.int .i64 (-5), .int .i64 (-3)] Y (SQ B C Y)) := fun Y gY => qconverts_sq HH.out.F ((Hg.out.trans (by repeat (first | with_reducible exact .refl _ | refine .alloc ?_ _ | refine .set ?_ (by simp) _ | refine .drewN ?_ _ | refine .drew ?_))).trans gY) _ _
  clear N1 N0 H g
  go_enter Tryz.func48, Tryz.ntmps48
  go_wp2_with (first
    | (with_reducible refine stop_load 30 rfl ?_
       unfold Stop
       refine wpList_load_row rfl 30 _ rfl (X.heap.size) (by go_simp) 30 cx (0, 0) _ HM.out Tryz.underlying30 rfl (by rw [hsz]; kernel_rfl) ?_)
    | (with_reducible refine stop_load 52 rfl ?_
       unfold Stop
       refine wpList_load_row rfl 52 _ rfl (X.heap.size + 1) (by go_simp) 52 es (0, 0) _ HN.out Tryz.underlying52 rfl (by rw [hes]; kernel_rfl) ?_)
    | fail)
  refine (CQ.out _ (by repeat (first | with_reducible exact .refl _ | refine .alloc ?_ _ | refine .set ?_ (by simp) _ | refine .drewN ?_ _ | refine .drew ?_))).mono ?_
  rintro en wz ⟨k1, l1, rfl, h1, h2, h3⟩
  have H1 := Hid.mk' h1
  have H2 := Hid.mk' h2
  have H3 := Hid.mk' h3
  clear h1 h2 h3
  go_wp2_with fail
  go_ret
  exact ⟨_, _, rfl, H1.out, Grew.trans (by repeat (first | with_reducible exact .refl _ | refine .alloc ?_ _ | refine .set ?_ (by simp) _ | refine .drewN ?_ _ | refine .drew ?_)) H2.out, H3.out⟩
theorem sc_64284_sq (H : FA B C w cx TT FL EL RB dt es 64284 n ny N sl) {X : World} (g : Grew w X) : Calls Tryz.prog 48 #[.agg cx, .agg es] X (SQ B C X) := by
  have N1 : ((X.alloc (.cells cx 30)).alloc (.cells es 52)).heap[X.heap.size + 1]? = some (.cells es 52 (0, 0)) := by
    have := heap_alloc_last (X.alloc (.cells cx 30)) (.cells es 52)
    rw [alloc_size] at this
    exact this
  have N0 : ((X.alloc (.cells cx 30)).alloc (.cells es 52)).heap[X.heap.size]? = some (.cells cx 30 (0, 0)) := heap_alloc (heap_alloc_last _ _) _
  have HN := Hid.mk' N1
  have HM := Hid.mk' N0
  have hsz := H.c.sz
  have hes := H.i.sz
  have HH := Hid.mk' H
  have Hg := Hid.mk' g
  have o0 := (cell_of N1 0).trans H.i.h0
  have ox : es[0]'(by rw [hes]; decide) = .int .i64 64284 := getE H.i.h0
  have CA : Hid (∀ b h Y, Calls Tryz.prog 33 #[.bool b, .int .i64 h] Y fun en w' => en = .returned (.agg #[.int .i64 5, .bool b, .int .i64 h]) ∧ Grew Y w') := abs_any
  have C3 : Hid (∀ Y, Calls Tryz.prog 34 #[] Y fun en w' => en = .returned (.agg #[.int .i64 1, .bool false, .int .i64 0]) ∧ Grew Y w') := q32_any
  have CL : Hid (∀ v Y, Calls Tryz.prog 32 #[v] Y fun en w' => en = .returned v ∧ Grew Y w') := ql_any
  have CS : Hid (∀ Y (ia ua : Option Addr) (il ic ul uc : Nat) (li lu : List VT), Grew w Y → LV Y (.slice ia il ic) li → LV Y (.slice ua ul uc) lu → lu.length ≤ 8000000 → (∀ a, ua = some a → a.block < Y.heap.size) → Calls Tryz.prog 31 #[.slice ia il ic, .slice ua ul uc] Y (SQ B C Y)) := fun Y ia ua il ic ul uc li lu gY hi hu hn hb => qswaps_sq HH.out.F gY hi hu hn hb
  have HX0 : Hid (Grew X ((X.alloc (.cells cx 30)).alloc (.cells es 52))) := (by repeat (first | with_reducible exact .refl _ | refine .alloc ?_ _ | refine .set ?_ (by simp) _ | refine .drewN ?_ _ | refine .drew ?_))
  clear N1 N0 H g
  go_enter Tryz.func48, Tryz.ntmps48
  go_wp2_with (first
    | (with_reducible refine stop_load 30 rfl ?_
       unfold Stop
       refine wpList_load_row rfl 30 _ rfl (X.heap.size) (by go_simp) 30 cx (0, 0) _ HM.out Tryz.underlying30 rfl (by rw [hsz]; kernel_rfl) ?_)
    | (with_reducible refine stop_load 52 rfl ?_
       unfold Stop
       refine wpList_load_row rfl 52 _ rfl (X.heap.size + 1) (by go_simp) 52 es (0, 0) _ HN.out Tryz.underlying52 rfl (by rw [hes]; kernel_rfl) ?_)
    | fail)
  have GP := Hid.mk' (show Grew X ((X.alloc (.cells cx 30)).alloc (.cells es 52)) from (by repeat (first | with_reducible exact .refl _ | refine .alloc ?_ _ | refine .set ?_ (by simp) _ | refine .drewN ?_ _ | refine .drew ?_)))
  generalize ((X.alloc (.cells cx 30)).alloc (.cells es 52)) = w0 at *
  refine (C3.out _).mono ?_
  rintro en w1 ⟨rfl, g1⟩
  have gx := GP.out.trans g1
  clear GP
  have GP := Hid.mk' gx
  clear gx g1
  go_wp2_with fail
  refine (CL.out _ _).mono ?_
  rintro en w2 ⟨rfl, gg⟩
  have g2 : Grew (w1.alloc (.cells #[.int .i64 (1), .bool false, .int .i64 (0)] 46)) w2 := gg
  have HU0 := Hid.mk' ((one_lst w1 (1) (0) false).grew g2)
  have ga : Grew w1 w2 := Grew.trans ((Grew.refl _).alloc _) g2
  have gb : w1.heap.size < w2.heap.size := Nat.lt_of_lt_of_le (by rw [alloc_size]; omega) g2.2
  have HB0 := Hid.mk' gb
  have gx := GP.out.trans ga
  clear GP
  have GP := Hid.mk' gx
  clear gx gg g2 ga gb
  go_wp2_with fail
  refine (CA.out _ _ _).mono ?_
  rintro en w3 ⟨rfl, g3⟩
  have gx := GP.out.trans g3
  clear GP
  have GP := Hid.mk' gx
  have HU0 := Hid.mk' (HU0.out.grew g3)
  clear gx g3
  go_wp2_with fail
  refine (CL.out _ _).mono ?_
  rintro en w4 ⟨rfl, gg⟩
  have g4 : Grew (w3.alloc (.cells #[.int .i64 (5), .bool false, .int .i64 (-7)] 46)) w4 := gg
  have HU1 := Hid.mk' ((one_lst w3 (5) (-7) false).grew g4)
  have ga : Grew w3 w4 := Grew.trans ((Grew.refl _).alloc _) g4
  have gb : w3.heap.size < w4.heap.size := Nat.lt_of_lt_of_le (by rw [alloc_size]; omega) g4.2
  have HB1 := Hid.mk' gb
  have HU0 := Hid.mk' (HU0.out.grew ga)
  have gx := GP.out.trans ga
  clear GP
  have GP := Hid.mk' gx
  clear gx gg g4 ga gb
  go_wp2_with fail
  refine (CS.out _ _ _ _ _ _ _ _ _ (Hg.out.trans GP.out) HU0.out HU1.out (by simp) (fun a e => by injection e with e; subst e; exact HB1.out)).mono ?_
  rintro en wz ⟨k1, l1, rfl, h1, h2, h3⟩
  have H1 := Hid.mk' h1
  have H2 := Hid.mk' h2
  have H3 := Hid.mk' h3
  clear h1 h2 h3
  go_wp2_with fail
  go_ret
  exact ⟨_, _, rfl, H1.out, Grew.trans GP.out H2.out, H3.out⟩
theorem sc_64285_sq (H : FA B C w cx TT FL EL RB dt es 64285 n ny N sl) {X : World} (g : Grew w X) : Calls Tryz.prog 48 #[.agg cx, .agg es] X (SQ B C X) := by
  have N1 : ((X.alloc (.cells cx 30)).alloc (.cells es 52)).heap[X.heap.size + 1]? = some (.cells es 52 (0, 0)) := by
    have := heap_alloc_last (X.alloc (.cells cx 30)) (.cells es 52)
    rw [alloc_size] at this
    exact this
  have N0 : ((X.alloc (.cells cx 30)).alloc (.cells es 52)).heap[X.heap.size]? = some (.cells cx 30 (0, 0)) := heap_alloc (heap_alloc_last _ _) _
  have HN := Hid.mk' N1
  have HM := Hid.mk' N0
  have hsz := H.c.sz
  have hes := H.i.sz
  have HH := Hid.mk' H
  have Hg := Hid.mk' g
  have o0 := (cell_of N1 0).trans H.i.h0
  have ox : es[0]'(by rw [hes]; decide) = .int .i64 64285 := getE H.i.h0
  have CA : Hid (∀ b h Y, Calls Tryz.prog 33 #[.bool b, .int .i64 h] Y fun en w' => en = .returned (.agg #[.int .i64 5, .bool b, .int .i64 h]) ∧ Grew Y w') := abs_any
  have C3 : Hid (∀ Y, Calls Tryz.prog 34 #[] Y fun en w' => en = .returned (.agg #[.int .i64 1, .bool false, .int .i64 0]) ∧ Grew Y w') := q32_any
  have CL : Hid (∀ v Y, Calls Tryz.prog 32 #[v] Y fun en w' => en = .returned v ∧ Grew Y w') := ql_any
  have CS : Hid (∀ Y (ia ua : Option Addr) (il ic ul uc : Nat) (li lu : List VT), Grew w Y → LV Y (.slice ia il ic) li → LV Y (.slice ua ul uc) lu → lu.length ≤ 8000000 → (∀ a, ua = some a → a.block < Y.heap.size) → Calls Tryz.prog 31 #[.slice ia il ic, .slice ua ul uc] Y (SQ B C Y)) := fun Y ia ua il ic ul uc li lu gY hi hu hn hb => qswaps_sq HH.out.F gY hi hu hn hb
  have HX0 : Hid (Grew X ((X.alloc (.cells cx 30)).alloc (.cells es 52))) := (by repeat (first | with_reducible exact .refl _ | refine .alloc ?_ _ | refine .set ?_ (by simp) _ | refine .drewN ?_ _ | refine .drew ?_))
  clear N1 N0 H g
  go_enter Tryz.func48, Tryz.ntmps48
  go_wp2_with (first
    | (with_reducible refine stop_load 30 rfl ?_
       unfold Stop
       refine wpList_load_row rfl 30 _ rfl (X.heap.size) (by go_simp) 30 cx (0, 0) _ HM.out Tryz.underlying30 rfl (by rw [hsz]; kernel_rfl) ?_)
    | (with_reducible refine stop_load 52 rfl ?_
       unfold Stop
       refine wpList_load_row rfl 52 _ rfl (X.heap.size + 1) (by go_simp) 52 es (0, 0) _ HN.out Tryz.underlying52 rfl (by rw [hes]; kernel_rfl) ?_)
    | fail)
  have GP := Hid.mk' (show Grew X ((X.alloc (.cells cx 30)).alloc (.cells es 52)) from (by repeat (first | with_reducible exact .refl _ | refine .alloc ?_ _ | refine .set ?_ (by simp) _ | refine .drewN ?_ _ | refine .drew ?_)))
  generalize ((X.alloc (.cells cx 30)).alloc (.cells es 52)) = w0 at *
  refine (CA.out _ _ _).mono ?_
  rintro en w1 ⟨rfl, g1⟩
  have gx := GP.out.trans g1
  clear GP
  have GP := Hid.mk' gx
  clear gx g1
  go_wp2_with fail
  refine (CL.out _ _).mono ?_
  rintro en w2 ⟨rfl, gg⟩
  have g2 : Grew (w1.alloc (.cells #[.int .i64 (5), .bool true, .int .i64 (-7)] 46)) w2 := gg
  have HU0 := Hid.mk' ((one_lst w1 (5) (-7) true).grew g2)
  have ga : Grew w1 w2 := Grew.trans ((Grew.refl _).alloc _) g2
  have gb : w1.heap.size < w2.heap.size := Nat.lt_of_lt_of_le (by rw [alloc_size]; omega) g2.2
  have HB0 := Hid.mk' gb
  have gx := GP.out.trans ga
  clear GP
  have GP := Hid.mk' gx
  clear gx gg g2 ga gb
  go_wp2_with fail
  refine (C3.out _).mono ?_
  rintro en w3 ⟨rfl, g3⟩
  have gx := GP.out.trans g3
  clear GP
  have GP := Hid.mk' gx
  have HU0 := Hid.mk' (HU0.out.grew g3)
  clear gx g3
  go_wp2_with fail
  refine (CL.out _ _).mono ?_
  rintro en w4 ⟨rfl, gg⟩
  have g4 : Grew (w3.alloc (.cells #[.int .i64 (1), .bool false, .int .i64 (0)] 46)) w4 := gg
  have HU1 := Hid.mk' ((one_lst w3 (1) (0) false).grew g4)
  have ga : Grew w3 w4 := Grew.trans ((Grew.refl _).alloc _) g4
  have gb : w3.heap.size < w4.heap.size := Nat.lt_of_lt_of_le (by rw [alloc_size]; omega) g4.2
  have HB1 := Hid.mk' gb
  have HU0 := Hid.mk' (HU0.out.grew ga)
  have gx := GP.out.trans ga
  clear GP
  have GP := Hid.mk' gx
  clear gx gg g4 ga gb
  go_wp2_with fail
  refine (CS.out _ _ _ _ _ _ _ _ _ (Hg.out.trans GP.out) HU0.out HU1.out (by simp) (fun a e => by injection e with e; subst e; exact HB1.out)).mono ?_
  rintro en wz ⟨k1, l1, rfl, h1, h2, h3⟩
  have H1 := Hid.mk' h1
  have H2 := Hid.mk' h2
  have H3 := Hid.mk' h3
  clear h1 h2 h3
  go_wp2_with fail
  go_ret
  exact ⟨_, _, rfl, H1.out, Grew.trans GP.out H2.out, H3.out⟩
theorem sc_64286_sq (H : FA B C w cx TT FL EL RB dt es 64286 n ny N sl) {X : World} (g : Grew w X) : Calls Tryz.prog 48 #[.agg cx, .agg es] X (SQ B C X) := by
  have N1 : ((X.alloc (.cells cx 30)).alloc (.cells es 52)).heap[X.heap.size + 1]? = some (.cells es 52 (0, 0)) := by
    have := heap_alloc_last (X.alloc (.cells cx 30)) (.cells es 52)
    rw [alloc_size] at this
    exact this
  have N0 : ((X.alloc (.cells cx 30)).alloc (.cells es 52)).heap[X.heap.size]? = some (.cells cx 30 (0, 0)) := heap_alloc (heap_alloc_last _ _) _
  have HN := Hid.mk' N1
  have HM := Hid.mk' N0
  have hsz := H.c.sz
  have hes := H.i.sz
  have HH := Hid.mk' H
  have Hg := Hid.mk' g
  have o0 := (cell_of N1 0).trans H.i.h0
  have ox : es[0]'(by rw [hes]; decide) = .int .i64 64286 := getE H.i.h0
  have CA : Hid (∀ b h Y, Calls Tryz.prog 33 #[.bool b, .int .i64 h] Y fun en w' => en = .returned (.agg #[.int .i64 5, .bool b, .int .i64 h]) ∧ Grew Y w') := abs_any
  have C3 : Hid (∀ Y, Calls Tryz.prog 34 #[] Y fun en w' => en = .returned (.agg #[.int .i64 1, .bool false, .int .i64 0]) ∧ Grew Y w') := q32_any
  have CL : Hid (∀ v Y, Calls Tryz.prog 32 #[v] Y fun en w' => en = .returned v ∧ Grew Y w') := ql_any
  have CS : Hid (∀ Y (ia ua : Option Addr) (il ic ul uc : Nat) (li lu : List VT), Grew w Y → LV Y (.slice ia il ic) li → LV Y (.slice ua ul uc) lu → lu.length ≤ 8000000 → (∀ a, ua = some a → a.block < Y.heap.size) → Calls Tryz.prog 31 #[.slice ia il ic, .slice ua ul uc] Y (SQ B C Y)) := fun Y ia ua il ic ul uc li lu gY hi hu hn hb => qswaps_sq HH.out.F gY hi hu hn hb
  have HX0 : Hid (Grew X ((X.alloc (.cells cx 30)).alloc (.cells es 52))) := (by repeat (first | with_reducible exact .refl _ | refine .alloc ?_ _ | refine .set ?_ (by simp) _ | refine .drewN ?_ _ | refine .drew ?_))
  clear N1 N0 H g
  go_enter Tryz.func48, Tryz.ntmps48
  go_wp2_with (first
    | (with_reducible refine stop_load 30 rfl ?_
       unfold Stop
       refine wpList_load_row rfl 30 _ rfl (X.heap.size) (by go_simp) 30 cx (0, 0) _ HM.out Tryz.underlying30 rfl (by rw [hsz]; kernel_rfl) ?_)
    | (with_reducible refine stop_load 52 rfl ?_
       unfold Stop
       refine wpList_load_row rfl 52 _ rfl (X.heap.size + 1) (by go_simp) 52 es (0, 0) _ HN.out Tryz.underlying52 rfl (by rw [hes]; kernel_rfl) ?_)
    | fail)
  have GP := Hid.mk' (show Grew X ((X.alloc (.cells cx 30)).alloc (.cells es 52)) from (by repeat (first | with_reducible exact .refl _ | refine .alloc ?_ _ | refine .set ?_ (by simp) _ | refine .drewN ?_ _ | refine .drew ?_)))
  generalize ((X.alloc (.cells cx 30)).alloc (.cells es 52)) = w0 at *
  refine (CA.out _ _ _).mono ?_
  rintro en w1 ⟨rfl, g1⟩
  have gx := GP.out.trans g1
  clear GP
  have GP := Hid.mk' gx
  clear gx g1
  go_wp2_with fail
  refine (CL.out _ _).mono ?_
  rintro en w2 ⟨rfl, gg⟩
  have g2 : Grew (w1.alloc (.cells #[.int .i64 (5), .bool true, .int .i64 (-7)] 46)) w2 := gg
  have HU0 := Hid.mk' ((one_lst w1 (5) (-7) true).grew g2)
  have ga : Grew w1 w2 := Grew.trans ((Grew.refl _).alloc _) g2
  have gb : w1.heap.size < w2.heap.size := Nat.lt_of_lt_of_le (by rw [alloc_size]; omega) g2.2
  have HB0 := Hid.mk' gb
  have gx := GP.out.trans ga
  clear GP
  have GP := Hid.mk' gx
  clear gx gg g2 ga gb
  go_wp2_with fail
  refine (C3.out _).mono ?_
  rintro en w3 ⟨rfl, g3⟩
  have gx := GP.out.trans g3
  clear GP
  have GP := Hid.mk' gx
  have HU0 := Hid.mk' (HU0.out.grew g3)
  clear gx g3
  go_wp2_with fail
  refine (CL.out _ _).mono ?_
  rintro en w4 ⟨rfl, gg⟩
  have g4 : Grew (w3.alloc (.cells #[.int .i64 (1), .bool false, .int .i64 (0)] 46)) w4 := gg
  have HU1 := Hid.mk' ((one_lst w3 (1) (0) false).grew g4)
  have ga : Grew w3 w4 := Grew.trans ((Grew.refl _).alloc _) g4
  have gb : w3.heap.size < w4.heap.size := Nat.lt_of_lt_of_le (by rw [alloc_size]; omega) g4.2
  have HB1 := Hid.mk' gb
  have HU0 := Hid.mk' (HU0.out.grew ga)
  have gx := GP.out.trans ga
  clear GP
  have GP := Hid.mk' gx
  clear gx gg g4 ga gb
  go_wp2_with fail
  refine (CS.out _ _ _ _ _ _ _ _ _ (Hg.out.trans GP.out) HU0.out HU1.out (by simp) (fun a e => by injection e with e; subst e; exact HB1.out)).mono ?_
  rintro en wz ⟨k1, l1, rfl, h1, h2, h3⟩
  have H1 := Hid.mk' h1
  have H2 := Hid.mk' h2
  have H3 := Hid.mk' h3
  clear h1 h2 h3
  go_wp2_with fail
  go_ret
  exact ⟨_, _, rfl, H1.out, Grew.trans GP.out H2.out, H3.out⟩
theorem so_64276_sq (H : FA B C w cx TT FL EL RB dt es 64276 n ny N sl) {X : World} (g : Grew w X) : Calls Tryz.prog 16 #[.agg cx, .agg es] X (SQ B C X) := by
  have N1 : ((X.alloc (.cells cx 30)).alloc (.cells es 52)).heap[X.heap.size + 1]? = some (.cells es 52 (0, 0)) := by
    have := heap_alloc_last (X.alloc (.cells cx 30)) (.cells es 52)
    rw [alloc_size] at this
    exact this
  have N0 : ((X.alloc (.cells cx 30)).alloc (.cells es 52)).heap[X.heap.size]? = some (.cells cx 30 (0, 0)) := heap_alloc (heap_alloc_last _ _) _
  have HN := Hid.mk' N1
  have HM := Hid.mk' N0
  have hsz := H.c.sz
  have hes := H.i.sz
  have HH := Hid.mk' H
  have Hg := Hid.mk' g
  have o0 := (cell_of N1 0).trans H.i.h0
  have ox : es[0]'(by rw [hes]; decide) = .int .i64 64276 := getE H.i.h0
  have CQ : Hid (∀ Y, Grew ((X.alloc (.cells cx 30)).alloc (.cells es 52)) Y → Calls Tryz.prog 48 #[.agg cx, .agg es] Y (SQ B C Y)) := fun Y gY => sc_64276_sq HH.out ((Hg.out.trans (by repeat (first | with_reducible exact .refl _ | refine .alloc ?_ _ | refine .set ?_ (by simp) _ | refine .drewN ?_ _ | refine .drew ?_))).trans gY)
  clear N1 N0 H g
  go_enter Tryz.func16, Tryz.ntmps16
  go_wp2_with (first
    | (with_reducible refine stop_load 30 rfl ?_
       unfold Stop
       refine wpList_load_row rfl 30 _ rfl (X.heap.size) (by go_simp) 30 cx (0, 0) _ HM.out Tryz.underlying30 rfl (by rw [hsz]; kernel_rfl) ?_)
    | (with_reducible refine stop_load 52 rfl ?_
       unfold Stop
       refine wpList_load_row rfl 52 _ rfl (X.heap.size + 1) (by go_simp) 52 es (0, 0) _ HN.out Tryz.underlying52 rfl (by rw [hes]; kernel_rfl) ?_)
    | fail)
  refine (CQ.out _ (by repeat (first | with_reducible exact .refl _ | refine .alloc ?_ _ | refine .set ?_ (by simp) _ | refine .drewN ?_ _ | refine .drew ?_))).mono ?_
  rintro en wz ⟨k1, l1, rfl, h1, h2, h3⟩
  have H1 := Hid.mk' h1
  have H2 := Hid.mk' h2
  have H3 := Hid.mk' h3
  clear h1 h2 h3
  go_wp2_with fail
  go_ret
  exact ⟨_, _, rfl, H1.out, Grew.trans (by repeat (first | with_reducible exact .refl _ | refine .alloc ?_ _ | refine .set ?_ (by simp) _ | refine .drewN ?_ _ | refine .drew ?_)) H2.out, H3.out⟩
theorem so_64277_sq (H : FA B C w cx TT FL EL RB dt es 64277 n ny N sl) {X : World} (g : Grew w X) : Calls Tryz.prog 16 #[.agg cx, .agg es] X (SQ B C X) := by
  have N1 : ((X.alloc (.cells cx 30)).alloc (.cells es 52)).heap[X.heap.size + 1]? = some (.cells es 52 (0, 0)) := by
    have := heap_alloc_last (X.alloc (.cells cx 30)) (.cells es 52)
    rw [alloc_size] at this
    exact this
  have N0 : ((X.alloc (.cells cx 30)).alloc (.cells es 52)).heap[X.heap.size]? = some (.cells cx 30 (0, 0)) := heap_alloc (heap_alloc_last _ _) _
  have HN := Hid.mk' N1
  have HM := Hid.mk' N0
  have hsz := H.c.sz
  have hes := H.i.sz
  have HH := Hid.mk' H
  have Hg := Hid.mk' g
  have o0 := (cell_of N1 0).trans H.i.h0
  have ox : es[0]'(by rw [hes]; decide) = .int .i64 64277 := getE H.i.h0
  have CQ : Hid (∀ Y, Grew ((X.alloc (.cells cx 30)).alloc (.cells es 52)) Y → Calls Tryz.prog 48 #[.agg cx, .agg es] Y (SQ B C Y)) := fun Y gY => sc_64277_sq HH.out ((Hg.out.trans (by repeat (first | with_reducible exact .refl _ | refine .alloc ?_ _ | refine .set ?_ (by simp) _ | refine .drewN ?_ _ | refine .drew ?_))).trans gY)
  clear N1 N0 H g
  go_enter Tryz.func16, Tryz.ntmps16
  go_wp2_with (first
    | (with_reducible refine stop_load 30 rfl ?_
       unfold Stop
       refine wpList_load_row rfl 30 _ rfl (X.heap.size) (by go_simp) 30 cx (0, 0) _ HM.out Tryz.underlying30 rfl (by rw [hsz]; kernel_rfl) ?_)
    | (with_reducible refine stop_load 52 rfl ?_
       unfold Stop
       refine wpList_load_row rfl 52 _ rfl (X.heap.size + 1) (by go_simp) 52 es (0, 0) _ HN.out Tryz.underlying52 rfl (by rw [hes]; kernel_rfl) ?_)
    | fail)
  refine (CQ.out _ (by repeat (first | with_reducible exact .refl _ | refine .alloc ?_ _ | refine .set ?_ (by simp) _ | refine .drewN ?_ _ | refine .drew ?_))).mono ?_
  rintro en wz ⟨k1, l1, rfl, h1, h2, h3⟩
  have H1 := Hid.mk' h1
  have H2 := Hid.mk' h2
  have H3 := Hid.mk' h3
  clear h1 h2 h3
  go_wp2_with fail
  go_ret
  exact ⟨_, _, rfl, H1.out, Grew.trans (by repeat (first | with_reducible exact .refl _ | refine .alloc ?_ _ | refine .set ?_ (by simp) _ | refine .drewN ?_ _ | refine .drew ?_)) H2.out, H3.out⟩
theorem so_64278_sq (H : FA B C w cx TT FL EL RB dt es 64278 n ny N sl) {X : World} (g : Grew w X) : Calls Tryz.prog 16 #[.agg cx, .agg es] X (SQ B C X) := by
  have N1 : ((X.alloc (.cells cx 30)).alloc (.cells es 52)).heap[X.heap.size + 1]? = some (.cells es 52 (0, 0)) := by
    have := heap_alloc_last (X.alloc (.cells cx 30)) (.cells es 52)
    rw [alloc_size] at this
    exact this
  have N0 : ((X.alloc (.cells cx 30)).alloc (.cells es 52)).heap[X.heap.size]? = some (.cells cx 30 (0, 0)) := heap_alloc (heap_alloc_last _ _) _
  have HN := Hid.mk' N1
  have HM := Hid.mk' N0
  have hsz := H.c.sz
  have hes := H.i.sz
  have HH := Hid.mk' H
  have Hg := Hid.mk' g
  have o0 := (cell_of N1 0).trans H.i.h0
  have ox : es[0]'(by rw [hes]; decide) = .int .i64 64278 := getE H.i.h0
  have CQ : Hid (∀ Y, Grew ((X.alloc (.cells cx 30)).alloc (.cells es 52)) Y → Calls Tryz.prog 48 #[.agg cx, .agg es] Y (SQ B C Y)) := fun Y gY => sc_64278_sq HH.out ((Hg.out.trans (by repeat (first | with_reducible exact .refl _ | refine .alloc ?_ _ | refine .set ?_ (by simp) _ | refine .drewN ?_ _ | refine .drew ?_))).trans gY)
  clear N1 N0 H g
  go_enter Tryz.func16, Tryz.ntmps16
  go_wp2_with (first
    | (with_reducible refine stop_load 30 rfl ?_
       unfold Stop
       refine wpList_load_row rfl 30 _ rfl (X.heap.size) (by go_simp) 30 cx (0, 0) _ HM.out Tryz.underlying30 rfl (by rw [hsz]; kernel_rfl) ?_)
    | (with_reducible refine stop_load 52 rfl ?_
       unfold Stop
       refine wpList_load_row rfl 52 _ rfl (X.heap.size + 1) (by go_simp) 52 es (0, 0) _ HN.out Tryz.underlying52 rfl (by rw [hes]; kernel_rfl) ?_)
    | fail)
  refine (CQ.out _ (by repeat (first | with_reducible exact .refl _ | refine .alloc ?_ _ | refine .set ?_ (by simp) _ | refine .drewN ?_ _ | refine .drew ?_))).mono ?_
  rintro en wz ⟨k1, l1, rfl, h1, h2, h3⟩
  have H1 := Hid.mk' h1
  have H2 := Hid.mk' h2
  have H3 := Hid.mk' h3
  clear h1 h2 h3
  go_wp2_with fail
  go_ret
  exact ⟨_, _, rfl, H1.out, Grew.trans (by repeat (first | with_reducible exact .refl _ | refine .alloc ?_ _ | refine .set ?_ (by simp) _ | refine .drewN ?_ _ | refine .drew ?_)) H2.out, H3.out⟩
theorem so_64279_sq (H : FA B C w cx TT FL EL RB dt es 64279 n ny N sl) {X : World} (g : Grew w X) : Calls Tryz.prog 16 #[.agg cx, .agg es] X (SQ B C X) := by
  have N1 : ((X.alloc (.cells cx 30)).alloc (.cells es 52)).heap[X.heap.size + 1]? = some (.cells es 52 (0, 0)) := by
    have := heap_alloc_last (X.alloc (.cells cx 30)) (.cells es 52)
    rw [alloc_size] at this
    exact this
  have N0 : ((X.alloc (.cells cx 30)).alloc (.cells es 52)).heap[X.heap.size]? = some (.cells cx 30 (0, 0)) := heap_alloc (heap_alloc_last _ _) _
  have HN := Hid.mk' N1
  have HM := Hid.mk' N0
  have hsz := H.c.sz
  have hes := H.i.sz
  have HH := Hid.mk' H
  have Hg := Hid.mk' g
  have o0 := (cell_of N1 0).trans H.i.h0
  have ox : es[0]'(by rw [hes]; decide) = .int .i64 64279 := getE H.i.h0
  have CQ : Hid (∀ Y, Grew ((X.alloc (.cells cx 30)).alloc (.cells es 52)) Y → Calls Tryz.prog 48 #[.agg cx, .agg es] Y (SQ B C Y)) := fun Y gY => sc_64279_sq HH.out ((Hg.out.trans (by repeat (first | with_reducible exact .refl _ | refine .alloc ?_ _ | refine .set ?_ (by simp) _ | refine .drewN ?_ _ | refine .drew ?_))).trans gY)
  clear N1 N0 H g
  go_enter Tryz.func16, Tryz.ntmps16
  go_wp2_with (first
    | (with_reducible refine stop_load 30 rfl ?_
       unfold Stop
       refine wpList_load_row rfl 30 _ rfl (X.heap.size) (by go_simp) 30 cx (0, 0) _ HM.out Tryz.underlying30 rfl (by rw [hsz]; kernel_rfl) ?_)
    | (with_reducible refine stop_load 52 rfl ?_
       unfold Stop
       refine wpList_load_row rfl 52 _ rfl (X.heap.size + 1) (by go_simp) 52 es (0, 0) _ HN.out Tryz.underlying52 rfl (by rw [hes]; kernel_rfl) ?_)
    | fail)
  refine (CQ.out _ (by repeat (first | with_reducible exact .refl _ | refine .alloc ?_ _ | refine .set ?_ (by simp) _ | refine .drewN ?_ _ | refine .drew ?_))).mono ?_
  rintro en wz ⟨k1, l1, rfl, h1, h2, h3⟩
  have H1 := Hid.mk' h1
  have H2 := Hid.mk' h2
  have H3 := Hid.mk' h3
  clear h1 h2 h3
  go_wp2_with fail
  go_ret
  exact ⟨_, _, rfl, H1.out, Grew.trans (by repeat (first | with_reducible exact .refl _ | refine .alloc ?_ _ | refine .set ?_ (by simp) _ | refine .drewN ?_ _ | refine .drew ?_)) H2.out, H3.out⟩
theorem so_64280_sq (H : FA B C w cx TT FL EL RB dt es 64280 n ny N sl) {X : World} (g : Grew w X) : Calls Tryz.prog 16 #[.agg cx, .agg es] X (SQ B C X) := by
  have N1 : ((X.alloc (.cells cx 30)).alloc (.cells es 52)).heap[X.heap.size + 1]? = some (.cells es 52 (0, 0)) := by
    have := heap_alloc_last (X.alloc (.cells cx 30)) (.cells es 52)
    rw [alloc_size] at this
    exact this
  have N0 : ((X.alloc (.cells cx 30)).alloc (.cells es 52)).heap[X.heap.size]? = some (.cells cx 30 (0, 0)) := heap_alloc (heap_alloc_last _ _) _
  have HN := Hid.mk' N1
  have HM := Hid.mk' N0
  have hsz := H.c.sz
  have hes := H.i.sz
  have HH := Hid.mk' H
  have Hg := Hid.mk' g
  have o0 := (cell_of N1 0).trans H.i.h0
  have ox : es[0]'(by rw [hes]; decide) = .int .i64 64280 := getE H.i.h0
  have CQ : Hid (∀ Y, Grew ((X.alloc (.cells cx 30)).alloc (.cells es 52)) Y → Calls Tryz.prog 48 #[.agg cx, .agg es] Y (SQ B C Y)) := fun Y gY => sc_64280_sq HH.out ((Hg.out.trans (by repeat (first | with_reducible exact .refl _ | refine .alloc ?_ _ | refine .set ?_ (by simp) _ | refine .drewN ?_ _ | refine .drew ?_))).trans gY)
  clear N1 N0 H g
  go_enter Tryz.func16, Tryz.ntmps16
  go_wp2_with (first
    | (with_reducible refine stop_load 30 rfl ?_
       unfold Stop
       refine wpList_load_row rfl 30 _ rfl (X.heap.size) (by go_simp) 30 cx (0, 0) _ HM.out Tryz.underlying30 rfl (by rw [hsz]; kernel_rfl) ?_)
    | (with_reducible refine stop_load 52 rfl ?_
       unfold Stop
       refine wpList_load_row rfl 52 _ rfl (X.heap.size + 1) (by go_simp) 52 es (0, 0) _ HN.out Tryz.underlying52 rfl (by rw [hes]; kernel_rfl) ?_)
    | fail)
  refine (CQ.out _ (by repeat (first | with_reducible exact .refl _ | refine .alloc ?_ _ | refine .set ?_ (by simp) _ | refine .drewN ?_ _ | refine .drew ?_))).mono ?_
  rintro en wz ⟨k1, l1, rfl, h1, h2, h3⟩
  have H1 := Hid.mk' h1
  have H2 := Hid.mk' h2
  have H3 := Hid.mk' h3
  clear h1 h2 h3
  go_wp2_with fail
  go_ret
  exact ⟨_, _, rfl, H1.out, Grew.trans (by repeat (first | with_reducible exact .refl _ | refine .alloc ?_ _ | refine .set ?_ (by simp) _ | refine .drewN ?_ _ | refine .drew ?_)) H2.out, H3.out⟩
theorem so_64281_sq (H : FA B C w cx TT FL EL RB dt es 64281 n ny N sl) {X : World} (g : Grew w X) : Calls Tryz.prog 16 #[.agg cx, .agg es] X (SQ B C X) := by
  have N1 : ((X.alloc (.cells cx 30)).alloc (.cells es 52)).heap[X.heap.size + 1]? = some (.cells es 52 (0, 0)) := by
    have := heap_alloc_last (X.alloc (.cells cx 30)) (.cells es 52)
    rw [alloc_size] at this
    exact this
  have N0 : ((X.alloc (.cells cx 30)).alloc (.cells es 52)).heap[X.heap.size]? = some (.cells cx 30 (0, 0)) := heap_alloc (heap_alloc_last _ _) _
  have HN := Hid.mk' N1
  have HM := Hid.mk' N0
  have hsz := H.c.sz
  have hes := H.i.sz
  have HH := Hid.mk' H
  have Hg := Hid.mk' g
  have o0 := (cell_of N1 0).trans H.i.h0
  have ox : es[0]'(by rw [hes]; decide) = .int .i64 64281 := getE H.i.h0
  have CQ : Hid (∀ Y, Grew ((X.alloc (.cells cx 30)).alloc (.cells es 52)) Y → Calls Tryz.prog 48 #[.agg cx, .agg es] Y (SQ B C Y)) := fun Y gY => sc_64281_sq HH.out ((Hg.out.trans (by repeat (first | with_reducible exact .refl _ | refine .alloc ?_ _ | refine .set ?_ (by simp) _ | refine .drewN ?_ _ | refine .drew ?_))).trans gY)
  clear N1 N0 H g
  go_enter Tryz.func16, Tryz.ntmps16
  go_wp2_with (first
    | (with_reducible refine stop_load 30 rfl ?_
       unfold Stop
       refine wpList_load_row rfl 30 _ rfl (X.heap.size) (by go_simp) 30 cx (0, 0) _ HM.out Tryz.underlying30 rfl (by rw [hsz]; kernel_rfl) ?_)
    | (with_reducible refine stop_load 52 rfl ?_
       unfold Stop
       refine wpList_load_row rfl 52 _ rfl (X.heap.size + 1) (by go_simp) 52 es (0, 0) _ HN.out Tryz.underlying52 rfl (by rw [hes]; kernel_rfl) ?_)
    | fail)
  refine (CQ.out _ (by repeat (first | with_reducible exact .refl _ | refine .alloc ?_ _ | refine .set ?_ (by simp) _ | refine .drewN ?_ _ | refine .drew ?_))).mono ?_
  rintro en wz ⟨k1, l1, rfl, h1, h2, h3⟩
  have H1 := Hid.mk' h1
  have H2 := Hid.mk' h2
  have H3 := Hid.mk' h3
  clear h1 h2 h3
  go_wp2_with fail
  go_ret
  exact ⟨_, _, rfl, H1.out, Grew.trans (by repeat (first | with_reducible exact .refl _ | refine .alloc ?_ _ | refine .set ?_ (by simp) _ | refine .drewN ?_ _ | refine .drew ?_)) H2.out, H3.out⟩
theorem so_64282_sq (H : FA B C w cx TT FL EL RB dt es 64282 n ny N sl) {X : World} (g : Grew w X) : Calls Tryz.prog 16 #[.agg cx, .agg es] X (SQ B C X) := by
  have N1 : ((X.alloc (.cells cx 30)).alloc (.cells es 52)).heap[X.heap.size + 1]? = some (.cells es 52 (0, 0)) := by
    have := heap_alloc_last (X.alloc (.cells cx 30)) (.cells es 52)
    rw [alloc_size] at this
    exact this
  have N0 : ((X.alloc (.cells cx 30)).alloc (.cells es 52)).heap[X.heap.size]? = some (.cells cx 30 (0, 0)) := heap_alloc (heap_alloc_last _ _) _
  have HN := Hid.mk' N1
  have HM := Hid.mk' N0
  have hsz := H.c.sz
  have hes := H.i.sz
  have HH := Hid.mk' H
  have Hg := Hid.mk' g
  have o0 := (cell_of N1 0).trans H.i.h0
  have ox : es[0]'(by rw [hes]; decide) = .int .i64 64282 := getE H.i.h0
  have CQ : Hid (∀ Y, Grew ((X.alloc (.cells cx 30)).alloc (.cells es 52)) Y → Calls Tryz.prog 48 #[.agg cx, .agg es] Y (SQ B C Y)) := fun Y gY => sc_64282_sq HH.out ((Hg.out.trans (by repeat (first | with_reducible exact .refl _ | refine .alloc ?_ _ | refine .set ?_ (by simp) _ | refine .drewN ?_ _ | refine .drew ?_))).trans gY)
  clear N1 N0 H g
  go_enter Tryz.func16, Tryz.ntmps16
  go_wp2_with (first
    | (with_reducible refine stop_load 30 rfl ?_
       unfold Stop
       refine wpList_load_row rfl 30 _ rfl (X.heap.size) (by go_simp) 30 cx (0, 0) _ HM.out Tryz.underlying30 rfl (by rw [hsz]; kernel_rfl) ?_)
    | (with_reducible refine stop_load 52 rfl ?_
       unfold Stop
       refine wpList_load_row rfl 52 _ rfl (X.heap.size + 1) (by go_simp) 52 es (0, 0) _ HN.out Tryz.underlying52 rfl (by rw [hes]; kernel_rfl) ?_)
    | fail)
  refine (CQ.out _ (by repeat (first | with_reducible exact .refl _ | refine .alloc ?_ _ | refine .set ?_ (by simp) _ | refine .drewN ?_ _ | refine .drew ?_))).mono ?_
  rintro en wz ⟨k1, l1, rfl, h1, h2, h3⟩
  have H1 := Hid.mk' h1
  have H2 := Hid.mk' h2
  have H3 := Hid.mk' h3
  clear h1 h2 h3
  go_wp2_with fail
  go_ret
  exact ⟨_, _, rfl, H1.out, Grew.trans (by repeat (first | with_reducible exact .refl _ | refine .alloc ?_ _ | refine .set ?_ (by simp) _ | refine .drewN ?_ _ | refine .drew ?_)) H2.out, H3.out⟩
theorem so_64283_sq (H : FA B C w cx TT FL EL RB dt es 64283 n ny N sl) {X : World} (g : Grew w X) : Calls Tryz.prog 16 #[.agg cx, .agg es] X (SQ B C X) := by
  have N1 : ((X.alloc (.cells cx 30)).alloc (.cells es 52)).heap[X.heap.size + 1]? = some (.cells es 52 (0, 0)) := by
    have := heap_alloc_last (X.alloc (.cells cx 30)) (.cells es 52)
    rw [alloc_size] at this
    exact this
  have N0 : ((X.alloc (.cells cx 30)).alloc (.cells es 52)).heap[X.heap.size]? = some (.cells cx 30 (0, 0)) := heap_alloc (heap_alloc_last _ _) _
  have HN := Hid.mk' N1
  have HM := Hid.mk' N0
  have hsz := H.c.sz
  have hes := H.i.sz
  have HH := Hid.mk' H
  have Hg := Hid.mk' g
  have o0 := (cell_of N1 0).trans H.i.h0
  have ox : es[0]'(by rw [hes]; decide) = .int .i64 64283 := getE H.i.h0
  have CQ : Hid (∀ Y, Grew ((X.alloc (.cells cx 30)).alloc (.cells es 52)) Y → Calls Tryz.prog 48 #[.agg cx, .agg es] Y (SQ B C Y)) := fun Y gY => sc_64283_sq HH.out ((Hg.out.trans (by repeat (first | with_reducible exact .refl _ | refine .alloc ?_ _ | refine .set ?_ (by simp) _ | refine .drewN ?_ _ | refine .drew ?_))).trans gY)
  clear N1 N0 H g
  go_enter Tryz.func16, Tryz.ntmps16
  go_wp2_with (first
    | (with_reducible refine stop_load 30 rfl ?_
       unfold Stop
       refine wpList_load_row rfl 30 _ rfl (X.heap.size) (by go_simp) 30 cx (0, 0) _ HM.out Tryz.underlying30 rfl (by rw [hsz]; kernel_rfl) ?_)
    | (with_reducible refine stop_load 52 rfl ?_
       unfold Stop
       refine wpList_load_row rfl 52 _ rfl (X.heap.size + 1) (by go_simp) 52 es (0, 0) _ HN.out Tryz.underlying52 rfl (by rw [hes]; kernel_rfl) ?_)
    | fail)
  refine (CQ.out _ (by repeat (first | with_reducible exact .refl _ | refine .alloc ?_ _ | refine .set ?_ (by simp) _ | refine .drewN ?_ _ | refine .drew ?_))).mono ?_
  rintro en wz ⟨k1, l1, rfl, h1, h2, h3⟩
  have H1 := Hid.mk' h1
  have H2 := Hid.mk' h2
  have H3 := Hid.mk' h3
  clear h1 h2 h3
  go_wp2_with fail
  go_ret
  exact ⟨_, _, rfl, H1.out, Grew.trans (by repeat (first | with_reducible exact .refl _ | refine .alloc ?_ _ | refine .set ?_ (by simp) _ | refine .drewN ?_ _ | refine .drew ?_)) H2.out, H3.out⟩
theorem so_64284_sq (H : FA B C w cx TT FL EL RB dt es 64284 n ny N sl) {X : World} (g : Grew w X) : Calls Tryz.prog 16 #[.agg cx, .agg es] X (SQ B C X) := by
  have N1 : ((X.alloc (.cells cx 30)).alloc (.cells es 52)).heap[X.heap.size + 1]? = some (.cells es 52 (0, 0)) := by
    have := heap_alloc_last (X.alloc (.cells cx 30)) (.cells es 52)
    rw [alloc_size] at this
    exact this
  have N0 : ((X.alloc (.cells cx 30)).alloc (.cells es 52)).heap[X.heap.size]? = some (.cells cx 30 (0, 0)) := heap_alloc (heap_alloc_last _ _) _
  have HN := Hid.mk' N1
  have HM := Hid.mk' N0
  have hsz := H.c.sz
  have hes := H.i.sz
  have HH := Hid.mk' H
  have Hg := Hid.mk' g
  have o0 := (cell_of N1 0).trans H.i.h0
  have ox : es[0]'(by rw [hes]; decide) = .int .i64 64284 := getE H.i.h0
  have CQ : Hid (∀ Y, Grew ((X.alloc (.cells cx 30)).alloc (.cells es 52)) Y → Calls Tryz.prog 48 #[.agg cx, .agg es] Y (SQ B C Y)) := fun Y gY => sc_64284_sq HH.out ((Hg.out.trans (by repeat (first | with_reducible exact .refl _ | refine .alloc ?_ _ | refine .set ?_ (by simp) _ | refine .drewN ?_ _ | refine .drew ?_))).trans gY)
  clear N1 N0 H g
  go_enter Tryz.func16, Tryz.ntmps16
  go_wp2_with (first
    | (with_reducible refine stop_load 30 rfl ?_
       unfold Stop
       refine wpList_load_row rfl 30 _ rfl (X.heap.size) (by go_simp) 30 cx (0, 0) _ HM.out Tryz.underlying30 rfl (by rw [hsz]; kernel_rfl) ?_)
    | (with_reducible refine stop_load 52 rfl ?_
       unfold Stop
       refine wpList_load_row rfl 52 _ rfl (X.heap.size + 1) (by go_simp) 52 es (0, 0) _ HN.out Tryz.underlying52 rfl (by rw [hes]; kernel_rfl) ?_)
    | fail)
  refine (CQ.out _ (by repeat (first | with_reducible exact .refl _ | refine .alloc ?_ _ | refine .set ?_ (by simp) _ | refine .drewN ?_ _ | refine .drew ?_))).mono ?_
  rintro en wz ⟨k1, l1, rfl, h1, h2, h3⟩
  have H1 := Hid.mk' h1
  have H2 := Hid.mk' h2
  have H3 := Hid.mk' h3
  clear h1 h2 h3
  go_wp2_with fail
  go_ret
  exact ⟨_, _, rfl, H1.out, Grew.trans (by repeat (first | with_reducible exact .refl _ | refine .alloc ?_ _ | refine .set ?_ (by simp) _ | refine .drewN ?_ _ | refine .drew ?_)) H2.out, H3.out⟩
theorem so_64285_sq (H : FA B C w cx TT FL EL RB dt es 64285 n ny N sl) {X : World} (g : Grew w X) : Calls Tryz.prog 16 #[.agg cx, .agg es] X (SQ B C X) := by
  have N1 : ((X.alloc (.cells cx 30)).alloc (.cells es 52)).heap[X.heap.size + 1]? = some (.cells es 52 (0, 0)) := by
    have := heap_alloc_last (X.alloc (.cells cx 30)) (.cells es 52)
    rw [alloc_size] at this
    exact this
  have N0 : ((X.alloc (.cells cx 30)).alloc (.cells es 52)).heap[X.heap.size]? = some (.cells cx 30 (0, 0)) := heap_alloc (heap_alloc_last _ _) _
  have HN := Hid.mk' N1
  have HM := Hid.mk' N0
  have hsz := H.c.sz
  have hes := H.i.sz
  have HH := Hid.mk' H
  have Hg := Hid.mk' g
  have o0 := (cell_of N1 0).trans H.i.h0
  have ox : es[0]'(by rw [hes]; decide) = .int .i64 64285 := getE H.i.h0
  have CQ : Hid (∀ Y, Grew ((X.alloc (.cells cx 30)).alloc (.cells es 52)) Y → Calls Tryz.prog 48 #[.agg cx, .agg es] Y (SQ B C Y)) := fun Y gY => sc_64285_sq HH.out ((Hg.out.trans (by repeat (first | with_reducible exact .refl _ | refine .alloc ?_ _ | refine .set ?_ (by simp) _ | refine .drewN ?_ _ | refine .drew ?_))).trans gY)
  clear N1 N0 H g
  go_enter Tryz.func16, Tryz.ntmps16
  go_wp2_with (first
    | (with_reducible refine stop_load 30 rfl ?_
       unfold Stop
       refine wpList_load_row rfl 30 _ rfl (X.heap.size) (by go_simp) 30 cx (0, 0) _ HM.out Tryz.underlying30 rfl (by rw [hsz]; kernel_rfl) ?_)
    | (with_reducible refine stop_load 52 rfl ?_
       unfold Stop
       refine wpList_load_row rfl 52 _ rfl (X.heap.size + 1) (by go_simp) 52 es (0, 0) _ HN.out Tryz.underlying52 rfl (by rw [hes]; kernel_rfl) ?_)
    | fail)
  refine (CQ.out _ (by repeat (first | with_reducible exact .refl _ | refine .alloc ?_ _ | refine .set ?_ (by simp) _ | refine .drewN ?_ _ | refine .drew ?_))).mono ?_
  rintro en wz ⟨k1, l1, rfl, h1, h2, h3⟩
  have H1 := Hid.mk' h1
  have H2 := Hid.mk' h2
  have H3 := Hid.mk' h3
  clear h1 h2 h3
  go_wp2_with fail
  go_ret
  exact ⟨_, _, rfl, H1.out, Grew.trans (by repeat (first | with_reducible exact .refl _ | refine .alloc ?_ _ | refine .set ?_ (by simp) _ | refine .drewN ?_ _ | refine .drew ?_)) H2.out, H3.out⟩
theorem so_64286_sq (H : FA B C w cx TT FL EL RB dt es 64286 n ny N sl) {X : World} (g : Grew w X) : Calls Tryz.prog 16 #[.agg cx, .agg es] X (SQ B C X) := by
  have N1 : ((X.alloc (.cells cx 30)).alloc (.cells es 52)).heap[X.heap.size + 1]? = some (.cells es 52 (0, 0)) := by
    have := heap_alloc_last (X.alloc (.cells cx 30)) (.cells es 52)
    rw [alloc_size] at this
    exact this
  have N0 : ((X.alloc (.cells cx 30)).alloc (.cells es 52)).heap[X.heap.size]? = some (.cells cx 30 (0, 0)) := heap_alloc (heap_alloc_last _ _) _
  have HN := Hid.mk' N1
  have HM := Hid.mk' N0
  have hsz := H.c.sz
  have hes := H.i.sz
  have HH := Hid.mk' H
  have Hg := Hid.mk' g
  have o0 := (cell_of N1 0).trans H.i.h0
  have ox : es[0]'(by rw [hes]; decide) = .int .i64 64286 := getE H.i.h0
  have CQ : Hid (∀ Y, Grew ((X.alloc (.cells cx 30)).alloc (.cells es 52)) Y → Calls Tryz.prog 48 #[.agg cx, .agg es] Y (SQ B C Y)) := fun Y gY => sc_64286_sq HH.out ((Hg.out.trans (by repeat (first | with_reducible exact .refl _ | refine .alloc ?_ _ | refine .set ?_ (by simp) _ | refine .drewN ?_ _ | refine .drew ?_))).trans gY)
  clear N1 N0 H g
  go_enter Tryz.func16, Tryz.ntmps16
  go_wp2_with (first
    | (with_reducible refine stop_load 30 rfl ?_
       unfold Stop
       refine wpList_load_row rfl 30 _ rfl (X.heap.size) (by go_simp) 30 cx (0, 0) _ HM.out Tryz.underlying30 rfl (by rw [hsz]; kernel_rfl) ?_)
    | (with_reducible refine stop_load 52 rfl ?_
       unfold Stop
       refine wpList_load_row rfl 52 _ rfl (X.heap.size + 1) (by go_simp) 52 es (0, 0) _ HN.out Tryz.underlying52 rfl (by rw [hes]; kernel_rfl) ?_)
    | fail)
  refine (CQ.out _ (by repeat (first | with_reducible exact .refl _ | refine .alloc ?_ _ | refine .set ?_ (by simp) _ | refine .drewN ?_ _ | refine .drew ?_))).mono ?_
  rintro en wz ⟨k1, l1, rfl, h1, h2, h3⟩
  have H1 := Hid.mk' h1
  have H2 := Hid.mk' h2
  have H3 := Hid.mk' h3
  clear h1 h2 h3
  go_wp2_with fail
  go_ret
  exact ⟨_, _, rfl, H1.out, Grew.trans (by repeat (first | with_reducible exact .refl _ | refine .alloc ?_ _ | refine .set ?_ (by simp) _ | refine .drewN ?_ _ | refine .drew ?_)) H2.out, H3.out⟩
end
end Go.Proofs.YtnmbniojejckpaaGreatDoor
