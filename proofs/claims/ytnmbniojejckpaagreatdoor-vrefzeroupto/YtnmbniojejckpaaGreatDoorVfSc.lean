/-
  vref's steps at one field, as its table gives them, on a fresh checker; no statement is proved here.
-/
import Derived.Test.YtnmbniojejckpaaGreatDoorVfU
set_option maxRecDepth 100000
set_option maxHeartbeats 8000000
namespace Go.Proofs.YtnmbniojejckpaaGreatDoor
open Go.RowKit
set_option linter.unusedVariables false
set_option linter.unusedSimpArgs false
section
variable {B C : Nat} {w : World} {cx : Array Value} {TT : List RT} {FL : List Int} {EL : List VT} {RB : List Bool} {dt : Int} {es : Array Value} {op : Int} {n ny N : Nat} {sl : List VT}
theorem acc_64258 (w : World) : Calls Tryz.prog 75 #[.int .i64 64258] w fun en w' => en = .returned (.agg #[.int .i64 2, .bool false, .bool false]) ∧ Grew w w' := by
  go_enter Tryz.func75, Tryz.ntmps75
  go_wp2_with fail
  refine bodyPost_ret (v := .agg #[.int .i64 2, .bool false, .bool false]) (by simp [results, Tryz.results75, go_sem]) rfl ?_
  exact ⟨rfl, by repeat (first | with_reducible exact .refl _ | refine .alloc ?_ _ | refine .set ?_ (by simp) _ | refine .drewN ?_ _ | refine .drew ?_)⟩
theorem acc_64259 (w : World) : Calls Tryz.prog 75 #[.int .i64 64259] w fun en w' => en = .returned (.agg #[.int .i64 2, .bool false, .bool true]) ∧ Grew w w' := by
  go_enter Tryz.func75, Tryz.ntmps75
  go_wp2_with fail
  refine bodyPost_ret (v := .agg #[.int .i64 2, .bool false, .bool true]) (by simp [results, Tryz.results75, go_sem]) rfl ?_
  exact ⟨rfl, by repeat (first | with_reducible exact .refl _ | refine .alloc ?_ _ | refine .set ?_ (by simp) _ | refine .drewN ?_ _ | refine .drew ?_)⟩
theorem acc_64260 (w : World) : Calls Tryz.prog 75 #[.int .i64 64260] w fun en w' => en = .returned (.agg #[.int .i64 2, .bool false, .bool true]) ∧ Grew w w' := by
  go_enter Tryz.func75, Tryz.ntmps75
  go_wp2_with fail
  refine bodyPost_ret (v := .agg #[.int .i64 2, .bool false, .bool true]) (by simp [results, Tryz.results75, go_sem]) rfl ?_
  exact ⟨rfl, by repeat (first | with_reducible exact .refl _ | refine .alloc ?_ _ | refine .set ?_ (by simp) _ | refine .drewN ?_ _ | refine .drew ?_)⟩
theorem acc_64261 (w : World) : Calls Tryz.prog 75 #[.int .i64 64261] w fun en w' => en = .returned (.agg #[.int .i64 2, .bool true, .bool false]) ∧ Grew w w' := by
  go_enter Tryz.func75, Tryz.ntmps75
  go_wp2_with fail
  refine bodyPost_ret (v := .agg #[.int .i64 2, .bool true, .bool false]) (by simp [results, Tryz.results75, go_sem]) rfl ?_
  exact ⟨rfl, by repeat (first | with_reducible exact .refl _ | refine .alloc ?_ _ | refine .set ?_ (by simp) _ | refine .drewN ?_ _ | refine .drew ?_)⟩
theorem acc_64267 (w : World) : Calls Tryz.prog 75 #[.int .i64 64267] w fun en w' => en = .returned (.agg #[.int .i64 3, .bool false, .bool false]) ∧ Grew w w' := by
  go_enter Tryz.func75, Tryz.ntmps75
  go_wp2_with fail
  refine bodyPost_ret (v := .agg #[.int .i64 3, .bool false, .bool false]) (by simp [results, Tryz.results75, go_sem]) rfl ?_
  exact ⟨rfl, by repeat (first | with_reducible exact .refl _ | refine .alloc ?_ _ | refine .set ?_ (by simp) _ | refine .drewN ?_ _ | refine .drew ?_)⟩
theorem acc_64268 (w : World) : Calls Tryz.prog 75 #[.int .i64 64268] w fun en w' => en = .returned (.agg #[.int .i64 3, .bool false, .bool true]) ∧ Grew w w' := by
  go_enter Tryz.func75, Tryz.ntmps75
  go_wp2_with fail
  refine bodyPost_ret (v := .agg #[.int .i64 3, .bool false, .bool true]) (by simp [results, Tryz.results75, go_sem]) rfl ?_
  exact ⟨rfl, by repeat (first | with_reducible exact .refl _ | refine .alloc ?_ _ | refine .set ?_ (by simp) _ | refine .drewN ?_ _ | refine .drew ?_)⟩
theorem acc_64269 (w : World) : Calls Tryz.prog 75 #[.int .i64 64269] w fun en w' => en = .returned (.agg #[.int .i64 3, .bool false, .bool true]) ∧ Grew w w' := by
  go_enter Tryz.func75, Tryz.ntmps75
  go_wp2_with fail
  refine bodyPost_ret (v := .agg #[.int .i64 3, .bool false, .bool true]) (by simp [results, Tryz.results75, go_sem]) rfl ?_
  exact ⟨rfl, by repeat (first | with_reducible exact .refl _ | refine .alloc ?_ _ | refine .set ?_ (by simp) _ | refine .drewN ?_ _ | refine .drew ?_)⟩
theorem acc_64270 (w : World) : Calls Tryz.prog 75 #[.int .i64 64270] w fun en w' => en = .returned (.agg #[.int .i64 3, .bool true, .bool false]) ∧ Grew w w' := by
  go_enter Tryz.func75, Tryz.ntmps75
  go_wp2_with fail
  refine bodyPost_ret (v := .agg #[.int .i64 3, .bool true, .bool false]) (by simp [results, Tryz.results75, go_sem]) rfl ?_
  exact ⟨rfl, by repeat (first | with_reducible exact .refl _ | refine .alloc ?_ _ | refine .set ?_ (by simp) _ | refine .drewN ?_ _ | refine .drew ?_)⟩
theorem qatField_sq (H : FA B C w cx TT FL EL RB dt es op n ny N sl) {X : World} (g : Grew w X) {k : Int} {s pk : Bool} (ha : ∀ X, Calls Tryz.prog 75 #[.int .i64 op] X fun en w' => en = .returned (.agg #[.int .i64 k, .bool s, .bool pk]) ∧ Grew X w') : Calls Tryz.prog 38 #[.agg cx, .agg es] X (SQ B C X) := by
  have CQ : Hid (∀ Y, Calls Tryz.prog 75 #[.int .i64 op] Y fun en w' => en = .returned (.agg #[.int .i64 k, .bool s, .bool pk]) ∧ Grew Y w') := ha
  have N1 : ((X.alloc (.cells cx 30)).alloc (.cells es 52)).heap[X.heap.size + 1]? = some (.cells es 52 (0, 0)) := by
    have := heap_alloc_last (X.alloc (.cells cx 30)) (.cells es 52)
    rw [alloc_size] at this
    exact this
  have N0 : ((X.alloc (.cells cx 30)).alloc (.cells es 52)).heap[X.heap.size]? = some (.cells cx 30 (0, 0)) := heap_alloc (heap_alloc_last _ _) _
  have HN := Hid.mk' N1
  have HM := Hid.mk' N0
  have hsz := H.c.sz
  have hes := H.i.sz
  have HH := Hid.mk' H
  have Hg := Hid.mk' g
  have o0 := (cell_of N1 0).trans H.i.h0
  have ox : es[0]'(by rw [hes]; decide) = .int .i64 op := getE H.i.h0
  clear N1 N0 H g ha
  have GP := Hid.mk' (show Grew X ((X.alloc (.cells cx 30)).alloc (.cells es 52)) from (by repeat (first | with_reducible exact .refl _ | refine .alloc ?_ _ | refine .set ?_ (by simp) _ | refine .drewN ?_ _ | refine .drew ?_)))
  go_enter Tryz.func38, Tryz.ntmps38
  go_wp2_with fail
  refine (CQ.out _).mono ?_
  rintro en w1 ⟨rfl, g1⟩
  have HM1 := Hid.mk' (obj_grew g1 HM.out)
  have HN1 := Hid.mk' (obj_grew g1 HN.out)
  have G1 := Hid.mk' (GP.out.trans g1)
  clear g1 GP HM HN
  go_wp2_with fail
  go_ret
  refine ⟨76, #[.pointer (some ⟨w1.heap.size, 0, none⟩), .pointer (some ⟨X.heap.size, 0, none⟩), .pointer (some ⟨X.heap.size + 1, 0, none⟩)], rfl, enters_of Tryz.func76 (by kernel_rfl) rfl, G1.out.alloc _, fun Y gY => ?_⟩
  have gy := (Hg.out.trans G1.out).trans (((Grew.refl _).alloc _).trans gY)
  have hr := obj_grew gY (heap_alloc_last w1 _)
  have hx := obj_grew gY (heap_alloc HM1.out _)
  have hq := obj_grew gY (heap_alloc HN1.out _)
  have H := HH.out
  have hrC : w1.heap.size ≠ C := by have h1 := H.F.hC; have h2 := Hg.out.2; have h3 := G1.out.2; omega
  exact atField1_z H.F H.c gy hr hx hq H.i.sz H.i.l1 H.i.h1 H.i.l2 H.i.h2 (H.qC Hg.out 1) hrC
theorem so_64258_sq (H : FA B C w cx TT FL EL RB dt es 64258 n ny N sl) {X : World} (g : Grew w X) : Calls Tryz.prog 16 #[.agg cx, .agg es] X (SQ B C X) := by
  have N1 : ((X.alloc (.cells cx 30)).alloc (.cells es 52)).heap[X.heap.size + 1]? = some (.cells es 52 (0, 0)) := by
    have := heap_alloc_last (X.alloc (.cells cx 30)) (.cells es 52)
    rw [alloc_size] at this
    exact this
  have N0 : ((X.alloc (.cells cx 30)).alloc (.cells es 52)).heap[X.heap.size]? = some (.cells cx 30 (0, 0)) := heap_alloc (heap_alloc_last _ _) _
  have HN := Hid.mk' N1
  have HM := Hid.mk' N0
  have hsz := H.c.sz
  have hes := H.i.sz
  have HH := Hid.mk' H
  have Hg := Hid.mk' g
  have o0 := (cell_of N1 0).trans H.i.h0
  have ox : es[0]'(by rw [hes]; decide) = .int .i64 64258 := getE H.i.h0
  have CQ : Hid (∀ Y, Grew ((X.alloc (.cells cx 30)).alloc (.cells es 52)) Y → Calls Tryz.prog 38 #[.agg cx, .agg es] Y (SQ B C Y)) := fun Y gY => qatField_sq HH.out ((Hg.out.trans (by repeat (first | with_reducible exact .refl _ | refine .alloc ?_ _ | refine .set ?_ (by simp) _ | refine .drewN ?_ _ | refine .drew ?_))).trans gY) acc_64258
  clear N1 N0 H g
  go_enter Tryz.func16, Tryz.ntmps16
  go_wp2_with (first
    | (with_reducible refine stop_load 30 rfl ?_
       unfold Stop
       refine wpList_load_row rfl 30 _ rfl (X.heap.size) (by go_simp) 30 cx (0, 0) _ HM.out Tryz.underlying30 rfl (by rw [hsz]; kernel_rfl) ?_)
    | (with_reducible refine stop_load 52 rfl ?_
       unfold Stop
       refine wpList_load_row rfl 52 _ rfl (X.heap.size + 1) (by go_simp) 52 es (0, 0) _ HN.out Tryz.underlying52 rfl (by rw [hes]; kernel_rfl) ?_)
    | fail)
  refine (CQ.out _ (by repeat (first | with_reducible exact .refl _ | refine .alloc ?_ _ | refine .set ?_ (by simp) _ | refine .drewN ?_ _ | refine .drew ?_))).mono ?_
  rintro en wz ⟨k1, l1, rfl, h1, h2, h3⟩
  have H1 := Hid.mk' h1
  have H2 := Hid.mk' h2
  have H3 := Hid.mk' h3
  clear h1 h2 h3
  go_wp2_with fail
  go_ret
  exact ⟨_, _, rfl, H1.out, Grew.trans (by repeat (first | with_reducible exact .refl _ | refine .alloc ?_ _ | refine .set ?_ (by simp) _ | refine .drewN ?_ _ | refine .drew ?_)) H2.out, H3.out⟩
theorem so_64259_sq (H : FA B C w cx TT FL EL RB dt es 64259 n ny N sl) {X : World} (g : Grew w X) : Calls Tryz.prog 16 #[.agg cx, .agg es] X (SQ B C X) := by
  have N1 : ((X.alloc (.cells cx 30)).alloc (.cells es 52)).heap[X.heap.size + 1]? = some (.cells es 52 (0, 0)) := by
    have := heap_alloc_last (X.alloc (.cells cx 30)) (.cells es 52)
    rw [alloc_size] at this
    exact this
  have N0 : ((X.alloc (.cells cx 30)).alloc (.cells es 52)).heap[X.heap.size]? = some (.cells cx 30 (0, 0)) := heap_alloc (heap_alloc_last _ _) _
  have HN := Hid.mk' N1
  have HM := Hid.mk' N0
  have hsz := H.c.sz
  have hes := H.i.sz
  have HH := Hid.mk' H
  have Hg := Hid.mk' g
  have o0 := (cell_of N1 0).trans H.i.h0
  have ox : es[0]'(by rw [hes]; decide) = .int .i64 64259 := getE H.i.h0
  have CQ : Hid (∀ Y, Grew ((X.alloc (.cells cx 30)).alloc (.cells es 52)) Y → Calls Tryz.prog 38 #[.agg cx, .agg es] Y (SQ B C Y)) := fun Y gY => qatField_sq HH.out ((Hg.out.trans (by repeat (first | with_reducible exact .refl _ | refine .alloc ?_ _ | refine .set ?_ (by simp) _ | refine .drewN ?_ _ | refine .drew ?_))).trans gY) acc_64259
  clear N1 N0 H g
  go_enter Tryz.func16, Tryz.ntmps16
  go_wp2_with (first
    | (with_reducible refine stop_load 30 rfl ?_
       unfold Stop
       refine wpList_load_row rfl 30 _ rfl (X.heap.size) (by go_simp) 30 cx (0, 0) _ HM.out Tryz.underlying30 rfl (by rw [hsz]; kernel_rfl) ?_)
    | (with_reducible refine stop_load 52 rfl ?_
       unfold Stop
       refine wpList_load_row rfl 52 _ rfl (X.heap.size + 1) (by go_simp) 52 es (0, 0) _ HN.out Tryz.underlying52 rfl (by rw [hes]; kernel_rfl) ?_)
    | fail)
  refine (CQ.out _ (by repeat (first | with_reducible exact .refl _ | refine .alloc ?_ _ | refine .set ?_ (by simp) _ | refine .drewN ?_ _ | refine .drew ?_))).mono ?_
  rintro en wz ⟨k1, l1, rfl, h1, h2, h3⟩
  have H1 := Hid.mk' h1
  have H2 := Hid.mk' h2
  have H3 := Hid.mk' h3
  clear h1 h2 h3
  go_wp2_with fail
  go_ret
  exact ⟨_, _, rfl, H1.out, Grew.trans (by repeat (first | with_reducible exact .refl _ | refine .alloc ?_ _ | refine .set ?_ (by simp) _ | refine .drewN ?_ _ | refine .drew ?_)) H2.out, H3.out⟩
theorem so_64260_sq (H : FA B C w cx TT FL EL RB dt es 64260 n ny N sl) {X : World} (g : Grew w X) : Calls Tryz.prog 16 #[.agg cx, .agg es] X (SQ B C X) := by
  have N1 : ((X.alloc (.cells cx 30)).alloc (.cells es 52)).heap[X.heap.size + 1]? = some (.cells es 52 (0, 0)) := by
    have := heap_alloc_last (X.alloc (.cells cx 30)) (.cells es 52)
    rw [alloc_size] at this
    exact this
  have N0 : ((X.alloc (.cells cx 30)).alloc (.cells es 52)).heap[X.heap.size]? = some (.cells cx 30 (0, 0)) := heap_alloc (heap_alloc_last _ _) _
  have HN := Hid.mk' N1
  have HM := Hid.mk' N0
  have hsz := H.c.sz
  have hes := H.i.sz
  have HH := Hid.mk' H
  have Hg := Hid.mk' g
  have o0 := (cell_of N1 0).trans H.i.h0
  have ox : es[0]'(by rw [hes]; decide) = .int .i64 64260 := getE H.i.h0
  have CQ : Hid (∀ Y, Grew ((X.alloc (.cells cx 30)).alloc (.cells es 52)) Y → Calls Tryz.prog 38 #[.agg cx, .agg es] Y (SQ B C Y)) := fun Y gY => qatField_sq HH.out ((Hg.out.trans (by repeat (first | with_reducible exact .refl _ | refine .alloc ?_ _ | refine .set ?_ (by simp) _ | refine .drewN ?_ _ | refine .drew ?_))).trans gY) acc_64260
  clear N1 N0 H g
  go_enter Tryz.func16, Tryz.ntmps16
  go_wp2_with (first
    | (with_reducible refine stop_load 30 rfl ?_
       unfold Stop
       refine wpList_load_row rfl 30 _ rfl (X.heap.size) (by go_simp) 30 cx (0, 0) _ HM.out Tryz.underlying30 rfl (by rw [hsz]; kernel_rfl) ?_)
    | (with_reducible refine stop_load 52 rfl ?_
       unfold Stop
       refine wpList_load_row rfl 52 _ rfl (X.heap.size + 1) (by go_simp) 52 es (0, 0) _ HN.out Tryz.underlying52 rfl (by rw [hes]; kernel_rfl) ?_)
    | fail)
  refine (CQ.out _ (by repeat (first | with_reducible exact .refl _ | refine .alloc ?_ _ | refine .set ?_ (by simp) _ | refine .drewN ?_ _ | refine .drew ?_))).mono ?_
  rintro en wz ⟨k1, l1, rfl, h1, h2, h3⟩
  have H1 := Hid.mk' h1
  have H2 := Hid.mk' h2
  have H3 := Hid.mk' h3
  clear h1 h2 h3
  go_wp2_with fail
  go_ret
  exact ⟨_, _, rfl, H1.out, Grew.trans (by repeat (first | with_reducible exact .refl _ | refine .alloc ?_ _ | refine .set ?_ (by simp) _ | refine .drewN ?_ _ | refine .drew ?_)) H2.out, H3.out⟩
theorem so_64261_sq (H : FA B C w cx TT FL EL RB dt es 64261 n ny N sl) {X : World} (g : Grew w X) : Calls Tryz.prog 16 #[.agg cx, .agg es] X (SQ B C X) := by
  have N1 : ((X.alloc (.cells cx 30)).alloc (.cells es 52)).heap[X.heap.size + 1]? = some (.cells es 52 (0, 0)) := by
    have := heap_alloc_last (X.alloc (.cells cx 30)) (.cells es 52)
    rw [alloc_size] at this
    exact this
  have N0 : ((X.alloc (.cells cx 30)).alloc (.cells es 52)).heap[X.heap.size]? = some (.cells cx 30 (0, 0)) := heap_alloc (heap_alloc_last _ _) _
  have HN := Hid.mk' N1
  have HM := Hid.mk' N0
  have hsz := H.c.sz
  have hes := H.i.sz
  have HH := Hid.mk' H
  have Hg := Hid.mk' g
  have o0 := (cell_of N1 0).trans H.i.h0
  have ox : es[0]'(by rw [hes]; decide) = .int .i64 64261 := getE H.i.h0
  have CQ : Hid (∀ Y, Grew ((X.alloc (.cells cx 30)).alloc (.cells es 52)) Y → Calls Tryz.prog 38 #[.agg cx, .agg es] Y (SQ B C Y)) := fun Y gY => qatField_sq HH.out ((Hg.out.trans (by repeat (first | with_reducible exact .refl _ | refine .alloc ?_ _ | refine .set ?_ (by simp) _ | refine .drewN ?_ _ | refine .drew ?_))).trans gY) acc_64261
  clear N1 N0 H g
  go_enter Tryz.func16, Tryz.ntmps16
  go_wp2_with (first
    | (with_reducible refine stop_load 30 rfl ?_
       unfold Stop
       refine wpList_load_row rfl 30 _ rfl (X.heap.size) (by go_simp) 30 cx (0, 0) _ HM.out Tryz.underlying30 rfl (by rw [hsz]; kernel_rfl) ?_)
    | (with_reducible refine stop_load 52 rfl ?_
       unfold Stop
       refine wpList_load_row rfl 52 _ rfl (X.heap.size + 1) (by go_simp) 52 es (0, 0) _ HN.out Tryz.underlying52 rfl (by rw [hes]; kernel_rfl) ?_)
    | fail)
  refine (CQ.out _ (by repeat (first | with_reducible exact .refl _ | refine .alloc ?_ _ | refine .set ?_ (by simp) _ | refine .drewN ?_ _ | refine .drew ?_))).mono ?_
  rintro en wz ⟨k1, l1, rfl, h1, h2, h3⟩
  have H1 := Hid.mk' h1
  have H2 := Hid.mk' h2
  have H3 := Hid.mk' h3
  clear h1 h2 h3
  go_wp2_with fail
  go_ret
  exact ⟨_, _, rfl, H1.out, Grew.trans (by repeat (first | with_reducible exact .refl _ | refine .alloc ?_ _ | refine .set ?_ (by simp) _ | refine .drewN ?_ _ | refine .drew ?_)) H2.out, H3.out⟩
theorem so_64267_sq (H : FA B C w cx TT FL EL RB dt es 64267 n ny N sl) {X : World} (g : Grew w X) : Calls Tryz.prog 16 #[.agg cx, .agg es] X (SQ B C X) := by
  have N1 : ((X.alloc (.cells cx 30)).alloc (.cells es 52)).heap[X.heap.size + 1]? = some (.cells es 52 (0, 0)) := by
    have := heap_alloc_last (X.alloc (.cells cx 30)) (.cells es 52)
    rw [alloc_size] at this
    exact this
  have N0 : ((X.alloc (.cells cx 30)).alloc (.cells es 52)).heap[X.heap.size]? = some (.cells cx 30 (0, 0)) := heap_alloc (heap_alloc_last _ _) _
  have HN := Hid.mk' N1
  have HM := Hid.mk' N0
  have hsz := H.c.sz
  have hes := H.i.sz
  have HH := Hid.mk' H
  have Hg := Hid.mk' g
  have o0 := (cell_of N1 0).trans H.i.h0
  have ox : es[0]'(by rw [hes]; decide) = .int .i64 64267 := getE H.i.h0
  have CQ : Hid (∀ Y, Grew ((X.alloc (.cells cx 30)).alloc (.cells es 52)) Y → Calls Tryz.prog 38 #[.agg cx, .agg es] Y (SQ B C Y)) := fun Y gY => qatField_sq HH.out ((Hg.out.trans (by repeat (first | with_reducible exact .refl _ | refine .alloc ?_ _ | refine .set ?_ (by simp) _ | refine .drewN ?_ _ | refine .drew ?_))).trans gY) acc_64267
  clear N1 N0 H g
  go_enter Tryz.func16, Tryz.ntmps16
  go_wp2_with (first
    | (with_reducible refine stop_load 30 rfl ?_
       unfold Stop
       refine wpList_load_row rfl 30 _ rfl (X.heap.size) (by go_simp) 30 cx (0, 0) _ HM.out Tryz.underlying30 rfl (by rw [hsz]; kernel_rfl) ?_)
    | (with_reducible refine stop_load 52 rfl ?_
       unfold Stop
       refine wpList_load_row rfl 52 _ rfl (X.heap.size + 1) (by go_simp) 52 es (0, 0) _ HN.out Tryz.underlying52 rfl (by rw [hes]; kernel_rfl) ?_)
    | fail)
  refine (CQ.out _ (by repeat (first | with_reducible exact .refl _ | refine .alloc ?_ _ | refine .set ?_ (by simp) _ | refine .drewN ?_ _ | refine .drew ?_))).mono ?_
  rintro en wz ⟨k1, l1, rfl, h1, h2, h3⟩
  have H1 := Hid.mk' h1
  have H2 := Hid.mk' h2
  have H3 := Hid.mk' h3
  clear h1 h2 h3
  go_wp2_with fail
  go_ret
  exact ⟨_, _, rfl, H1.out, Grew.trans (by repeat (first | with_reducible exact .refl _ | refine .alloc ?_ _ | refine .set ?_ (by simp) _ | refine .drewN ?_ _ | refine .drew ?_)) H2.out, H3.out⟩
theorem so_64268_sq (H : FA B C w cx TT FL EL RB dt es 64268 n ny N sl) {X : World} (g : Grew w X) : Calls Tryz.prog 16 #[.agg cx, .agg es] X (SQ B C X) := by
  have N1 : ((X.alloc (.cells cx 30)).alloc (.cells es 52)).heap[X.heap.size + 1]? = some (.cells es 52 (0, 0)) := by
    have := heap_alloc_last (X.alloc (.cells cx 30)) (.cells es 52)
    rw [alloc_size] at this
    exact this
  have N0 : ((X.alloc (.cells cx 30)).alloc (.cells es 52)).heap[X.heap.size]? = some (.cells cx 30 (0, 0)) := heap_alloc (heap_alloc_last _ _) _
  have HN := Hid.mk' N1
  have HM := Hid.mk' N0
  have hsz := H.c.sz
  have hes := H.i.sz
  have HH := Hid.mk' H
  have Hg := Hid.mk' g
  have o0 := (cell_of N1 0).trans H.i.h0
  have ox : es[0]'(by rw [hes]; decide) = .int .i64 64268 := getE H.i.h0
  have CQ : Hid (∀ Y, Grew ((X.alloc (.cells cx 30)).alloc (.cells es 52)) Y → Calls Tryz.prog 38 #[.agg cx, .agg es] Y (SQ B C Y)) := fun Y gY => qatField_sq HH.out ((Hg.out.trans (by repeat (first | with_reducible exact .refl _ | refine .alloc ?_ _ | refine .set ?_ (by simp) _ | refine .drewN ?_ _ | refine .drew ?_))).trans gY) acc_64268
  clear N1 N0 H g
  go_enter Tryz.func16, Tryz.ntmps16
  go_wp2_with (first
    | (with_reducible refine stop_load 30 rfl ?_
       unfold Stop
       refine wpList_load_row rfl 30 _ rfl (X.heap.size) (by go_simp) 30 cx (0, 0) _ HM.out Tryz.underlying30 rfl (by rw [hsz]; kernel_rfl) ?_)
    | (with_reducible refine stop_load 52 rfl ?_
       unfold Stop
       refine wpList_load_row rfl 52 _ rfl (X.heap.size + 1) (by go_simp) 52 es (0, 0) _ HN.out Tryz.underlying52 rfl (by rw [hes]; kernel_rfl) ?_)
    | fail)
  refine (CQ.out _ (by repeat (first | with_reducible exact .refl _ | refine .alloc ?_ _ | refine .set ?_ (by simp) _ | refine .drewN ?_ _ | refine .drew ?_))).mono ?_
  rintro en wz ⟨k1, l1, rfl, h1, h2, h3⟩
  have H1 := Hid.mk' h1
  have H2 := Hid.mk' h2
  have H3 := Hid.mk' h3
  clear h1 h2 h3
  go_wp2_with fail
  go_ret
  exact ⟨_, _, rfl, H1.out, Grew.trans (by repeat (first | with_reducible exact .refl _ | refine .alloc ?_ _ | refine .set ?_ (by simp) _ | refine .drewN ?_ _ | refine .drew ?_)) H2.out, H3.out⟩
theorem so_64269_sq (H : FA B C w cx TT FL EL RB dt es 64269 n ny N sl) {X : World} (g : Grew w X) : Calls Tryz.prog 16 #[.agg cx, .agg es] X (SQ B C X) := by
  have N1 : ((X.alloc (.cells cx 30)).alloc (.cells es 52)).heap[X.heap.size + 1]? = some (.cells es 52 (0, 0)) := by
    have := heap_alloc_last (X.alloc (.cells cx 30)) (.cells es 52)
    rw [alloc_size] at this
    exact this
  have N0 : ((X.alloc (.cells cx 30)).alloc (.cells es 52)).heap[X.heap.size]? = some (.cells cx 30 (0, 0)) := heap_alloc (heap_alloc_last _ _) _
  have HN := Hid.mk' N1
  have HM := Hid.mk' N0
  have hsz := H.c.sz
  have hes := H.i.sz
  have HH := Hid.mk' H
  have Hg := Hid.mk' g
  have o0 := (cell_of N1 0).trans H.i.h0
  have ox : es[0]'(by rw [hes]; decide) = .int .i64 64269 := getE H.i.h0
  have CQ : Hid (∀ Y, Grew ((X.alloc (.cells cx 30)).alloc (.cells es 52)) Y → Calls Tryz.prog 38 #[.agg cx, .agg es] Y (SQ B C Y)) := fun Y gY => qatField_sq HH.out ((Hg.out.trans (by repeat (first | with_reducible exact .refl _ | refine .alloc ?_ _ | refine .set ?_ (by simp) _ | refine .drewN ?_ _ | refine .drew ?_))).trans gY) acc_64269
  clear N1 N0 H g
  go_enter Tryz.func16, Tryz.ntmps16
  go_wp2_with (first
    | (with_reducible refine stop_load 30 rfl ?_
       unfold Stop
       refine wpList_load_row rfl 30 _ rfl (X.heap.size) (by go_simp) 30 cx (0, 0) _ HM.out Tryz.underlying30 rfl (by rw [hsz]; kernel_rfl) ?_)
    | (with_reducible refine stop_load 52 rfl ?_
       unfold Stop
       refine wpList_load_row rfl 52 _ rfl (X.heap.size + 1) (by go_simp) 52 es (0, 0) _ HN.out Tryz.underlying52 rfl (by rw [hes]; kernel_rfl) ?_)
    | fail)
  refine (CQ.out _ (by repeat (first | with_reducible exact .refl _ | refine .alloc ?_ _ | refine .set ?_ (by simp) _ | refine .drewN ?_ _ | refine .drew ?_))).mono ?_
  rintro en wz ⟨k1, l1, rfl, h1, h2, h3⟩
  have H1 := Hid.mk' h1
  have H2 := Hid.mk' h2
  have H3 := Hid.mk' h3
  clear h1 h2 h3
  go_wp2_with fail
  go_ret
  exact ⟨_, _, rfl, H1.out, Grew.trans (by repeat (first | with_reducible exact .refl _ | refine .alloc ?_ _ | refine .set ?_ (by simp) _ | refine .drewN ?_ _ | refine .drew ?_)) H2.out, H3.out⟩
theorem so_64270_sq (H : FA B C w cx TT FL EL RB dt es 64270 n ny N sl) {X : World} (g : Grew w X) : Calls Tryz.prog 16 #[.agg cx, .agg es] X (SQ B C X) := by
  have N1 : ((X.alloc (.cells cx 30)).alloc (.cells es 52)).heap[X.heap.size + 1]? = some (.cells es 52 (0, 0)) := by
    have := heap_alloc_last (X.alloc (.cells cx 30)) (.cells es 52)
    rw [alloc_size] at this
    exact this
  have N0 : ((X.alloc (.cells cx 30)).alloc (.cells es 52)).heap[X.heap.size]? = some (.cells cx 30 (0, 0)) := heap_alloc (heap_alloc_last _ _) _
  have HN := Hid.mk' N1
  have HM := Hid.mk' N0
  have hsz := H.c.sz
  have hes := H.i.sz
  have HH := Hid.mk' H
  have Hg := Hid.mk' g
  have o0 := (cell_of N1 0).trans H.i.h0
  have ox : es[0]'(by rw [hes]; decide) = .int .i64 64270 := getE H.i.h0
  have CQ : Hid (∀ Y, Grew ((X.alloc (.cells cx 30)).alloc (.cells es 52)) Y → Calls Tryz.prog 38 #[.agg cx, .agg es] Y (SQ B C Y)) := fun Y gY => qatField_sq HH.out ((Hg.out.trans (by repeat (first | with_reducible exact .refl _ | refine .alloc ?_ _ | refine .set ?_ (by simp) _ | refine .drewN ?_ _ | refine .drew ?_))).trans gY) acc_64270
  clear N1 N0 H g
  go_enter Tryz.func16, Tryz.ntmps16
  go_wp2_with (first
    | (with_reducible refine stop_load 30 rfl ?_
       unfold Stop
       refine wpList_load_row rfl 30 _ rfl (X.heap.size) (by go_simp) 30 cx (0, 0) _ HM.out Tryz.underlying30 rfl (by rw [hsz]; kernel_rfl) ?_)
    | (with_reducible refine stop_load 52 rfl ?_
       unfold Stop
       refine wpList_load_row rfl 52 _ rfl (X.heap.size + 1) (by go_simp) 52 es (0, 0) _ HN.out Tryz.underlying52 rfl (by rw [hes]; kernel_rfl) ?_)
    | fail)
  refine (CQ.out _ (by repeat (first | with_reducible exact .refl _ | refine .alloc ?_ _ | refine .set ?_ (by simp) _ | refine .drewN ?_ _ | refine .drew ?_))).mono ?_
  rintro en wz ⟨k1, l1, rfl, h1, h2, h3⟩
  have H1 := Hid.mk' h1
  have H2 := Hid.mk' h2
  have H3 := Hid.mk' h3
  clear h1 h2 h3
  go_wp2_with fail
  go_ret
  exact ⟨_, _, rfl, H1.out, Grew.trans (by repeat (first | with_reducible exact .refl _ | refine .alloc ?_ _ | refine .set ?_ (by simp) _ | refine .drewN ?_ _ | refine .drew ?_)) H2.out, H3.out⟩
end
end Go.Proofs.YtnmbniojejckpaaGreatDoor
