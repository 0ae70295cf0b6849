/-
  A new checker, and the label of its one frame; no statement is proved here.
-/
import Derived.Test.YtnmbniojejckpaaGreatDoorVfS
import Derived.Test.YtnmbniojejckpaaGreatDoorVfO
import Derived.Test.YtnmbniojejckpaaGreatDoorVfF
set_option maxRecDepth 100000
set_option maxHeartbeats 8000000
namespace Go.Proofs.YtnmbniojejckpaaGreatDoor
open Go.RowKit
set_option linter.unusedVariables false
set_option linter.unusedSimpArgs false
section
variable {w : World} {cx : Array Value} {TT : List RT} {FL : List Int} {EL : List VT} {RB : List Bool} {dt : Int}
theorem field_3 (hc : CTX w cx TT FL EL RB dt) {es : Array Value} (hes : es.size = 17) {n ny : Nat} (h32 : n < 4294967296) (h1 : es[1]? = some (.int .u32 (n : Int))) (h322 : ny < 4294967296) (h2 : es[2]? = some (.int .u32 (ny : Int))) (s pk : Bool) {X : World} (g : Grew w X) : Calls Tryz.prog 77 #[.agg #[.int .i64 3, .bool s, .bool pk], .agg cx, .agg es] X (FtQ X) := by
  have CE : Hid (∀ Y, Grew X Y → Calls Tryz.prog 81 #[.agg cx, .int .u32 (n : Int)] Y (FtQ Y)) := fun Y gy => element_any hc n h32 (g.trans gy)
  have hsz := hc.sz
  have x1 : es[1]'(by omega) = .int .u32 (n : Int) := getE h1
  have x2 : es[2]'(by omega) = .int .u32 (ny : Int) := getE h2
  have HX : Hid (((((X.alloc (.cells #[.int .i64 3, .bool s, .bool pk] 134)).alloc (.cells cx 30)).alloc (.cells es 52)).alloc (.cells #[.int .i64 0, .bool false, .int .i64 0, .bool false] 112)).heap[X.heap.size + 1]? = some (.cells cx 30 (0, 0))) := by
    refine heap_alloc (heap_alloc ?_ _) _
    have := heap_alloc_last (X.alloc (.cells #[.int .i64 3, .bool s, .bool pk] 134)) (.cells cx 30)
    rw [alloc_size] at this
    exact this
  have HI : Hid (((((X.alloc (.cells #[.int .i64 3, .bool s, .bool pk] 134)).alloc (.cells cx 30)).alloc (.cells es 52)).alloc (.cells #[.int .i64 0, .bool false, .int .i64 0, .bool false] 112)).heap[X.heap.size + 1 + 1]? = some (.cells es 52 (0, 0))) := by
    refine heap_alloc ?_ _
    have := heap_alloc_last ((X.alloc (.cells #[.int .i64 3, .bool s, .bool pk] 134)).alloc (.cells cx 30)) (.cells es 52)
    rw [alloc_size, alloc_size] at this
    exact this
  have HR : Hid (((((X.alloc (.cells #[.int .i64 3, .bool s, .bool pk] 134)).alloc (.cells cx 30)).alloc (.cells es 52)).alloc (.cells #[.int .i64 0, .bool false, .int .i64 0, .bool false] 112)).heap[X.heap.size + 1 + 1 + 1]? = some (.cells #[.int .i64 0, .bool false, .int .i64 0, .bool false] 112 (0, 0))) := by
    have := heap_alloc_last (((X.alloc (.cells #[.int .i64 3, .bool s, .bool pk] 134)).alloc (.cells cx 30)).alloc (.cells es 52)) (.cells #[.int .i64 0, .bool false, .int .i64 0, .bool false] 112)
    rw [alloc_size, alloc_size, alloc_size] at this
    exact this
  have GP : Hid (Grew X X) := Grew.refl X
  clear hc g h32 h322
  go_enter Tryz.func77, Tryz.ntmps77
  go_wp2_with (first
    | (with_reducible refine stop_load 30 rfl ?_
       unfold Stop
       refine wpList_load_row rfl 30 _ rfl (X.heap.size + 1) (by go_simp) 30 cx (0, 0) _ HX.out Tryz.underlying30 rfl (by rw [hsz]; kernel_rfl) ?_)
    | fail)
  refine (CE.out _ (by repeat (first | with_reducible exact .refl _ | refine .alloc ?_ _))).mono ?_
  rintro en w1 ⟨a, b, c, d, e, rfl, he, g1⟩
  have gx : Grew X w1 := Grew.trans (by repeat (first | with_reducible exact .refl _ | refine .alloc ?_ _)) g1
  clear GP
  have GP := Hid.mk' gx
  have H6 := Hid.mk' he
  have N1 := (g1.turn []).other HR.out (by simp)
  have I1 := (g1.turn []).other HI.out (by simp)
  have i2 := (cell_of I1 2).trans h2
  have li := lt_of_cell i2
  have lB := lt_of_obj N1
  have z0 := cell_of N1 0
  have z1 := cell_of N1 1
  have z2 := cell_of N1 2
  have z3 := cell_of N1 3
  have y0 := free_of N1 0
  have y1 := free_of N1 1
  have y2 := free_of N1 2
  have y3 := free_of N1 3
  simp at z0 z1 z2 z3
  have HN1 := Hid.mk' N1
  clear N1 HX HI HR I1
  clear gx g1 he CE
  go_wp2_with fail
  have hB : X.heap.size ≤ X.heap.size + 1 + 1 + 1 := by omega
  have b3 := heap_set (heap_set (heap_set (heap_set HN1.out 0 (.int .i64 a)) 1 (.bool b)) 2 (.int .i64 c)) 3 (.bool d)
  have G2 := Hid.mk' ((((GP.out.set (p := ⟨X.heap.size + 1 + 1 + 1, 0, none⟩) hB (.int .i64 a)).set (p := ⟨X.heap.size + 1 + 1 + 1, 1, none⟩) hB (.bool b)).set (p := ⟨X.heap.size + 1 + 1 + 1, 2, none⟩) hB (.int .i64 c)).set (p := ⟨X.heap.size + 1 + 1 + 1, 3, none⟩) hB (.bool d))
  generalize (((w1.setCell ⟨X.heap.size + 1 + 1 + 1, 0, none⟩ (.int .i64 a)).setCell ⟨X.heap.size + 1 + 1 + 1, 1, none⟩ (.bool b)).setCell ⟨X.heap.size + 1 + 1 + 1, 2, none⟩ (.int .i64 c)).setCell ⟨X.heap.size + 1 + 1 + 1, 3, none⟩ (.bool d) = w2 at *
  have gz : Grew w2 w2 := Grew.refl w2
  have b4 := b3
  have c0 := cell_of b4 0
  have c1 := cell_of b4 1
  have c2 := cell_of b4 2
  have c3 := cell_of b4 3
  simp at c0 c1 c2 c3
  refine bodyPost_ret (v := .tuple #[.agg #[.int .i64 a, .bool b, .int .i64 c, .bool d], .int .i64 e]) (by simp [results, Tryz.results77, go_sem, c0, c1, c2, c3]) rfl ?_
  exact ⟨_, _, _, _, _, rfl, H6.out, G2.out.trans gz⟩
theorem field_n (hc : CTX w cx TT FL EL RB dt) {es : Array Value} (hes : es.size = 17) {n ny : Nat} (h32 : n < 4294967296) (h1 : es[1]? = some (.int .u32 (n : Int))) (h322 : ny < 4294967296) (h2 : es[2]? = some (.int .u32 (ny : Int))) (k : Int) (hk : k ≠ 3) (s pk : Bool) {X : World} (g : Grew w X) : Calls Tryz.prog 77 #[.agg #[.int .i64 k, .bool s, .bool pk], .agg cx, .agg es] X (FtQ X) := by
  have ek : (k == 3) = false := by rw [beq_eq_false_iff_ne]; exact hk
  have CE : Hid (∀ Y, Grew X Y → Calls Tryz.prog 70 #[.agg cx, .int .u32 (n : Int)] Y fun en w' => ∃ fv l e, en = .returned (.tuple #[fv, .int .i64 e]) ∧ (e = 0 ∨ e = 150 ∨ e = 151) ∧ LF w' fv l ∧ l.length ≤ 1048576 ∧ Grew Y w') := fun Y gy => fields_any hc n h32 (g.trans gy)
  have CA : Hid (∀ (v : Value) (l : List FT) Y, LF Y v l → Calls Tryz.prog 107 #[v, .int .u32 (ny : Int)] Y (FtQ Y)) := fun v l Y h => atFT_any h h322
  have hsz := hc.sz
  have x1 : es[1]'(by omega) = .int .u32 (n : Int) := getE h1
  have x2 : es[2]'(by omega) = .int .u32 (ny : Int) := getE h2
  have HX : Hid (((((X.alloc (.cells #[.int .i64 k, .bool s, .bool pk] 134)).alloc (.cells cx 30)).alloc (.cells es 52)).alloc (.cells #[.int .i64 0, .bool false, .int .i64 0, .bool false] 112)).heap[X.heap.size + 1]? = some (.cells cx 30 (0, 0))) := by
    refine heap_alloc (heap_alloc ?_ _) _
    have := heap_alloc_last (X.alloc (.cells #[.int .i64 k, .bool s, .bool pk] 134)) (.cells cx 30)
    rw [alloc_size] at this
    exact this
  have HI : Hid (((((X.alloc (.cells #[.int .i64 k, .bool s, .bool pk] 134)).alloc (.cells cx 30)).alloc (.cells es 52)).alloc (.cells #[.int .i64 0, .bool false, .int .i64 0, .bool false] 112)).heap[X.heap.size + 1 + 1]? = some (.cells es 52 (0, 0))) := by
    refine heap_alloc ?_ _
    have := heap_alloc_last ((X.alloc (.cells #[.int .i64 k, .bool s, .bool pk] 134)).alloc (.cells cx 30)) (.cells es 52)
    rw [alloc_size, alloc_size] at this
    exact this
  have HR : Hid (((((X.alloc (.cells #[.int .i64 k, .bool s, .bool pk] 134)).alloc (.cells cx 30)).alloc (.cells es 52)).alloc (.cells #[.int .i64 0, .bool false, .int .i64 0, .bool false] 112)).heap[X.heap.size + 1 + 1 + 1]? = some (.cells #[.int .i64 0, .bool false, .int .i64 0, .bool false] 112 (0, 0))) := by
    have := heap_alloc_last (((X.alloc (.cells #[.int .i64 k, .bool s, .bool pk] 134)).alloc (.cells cx 30)).alloc (.cells es 52)) (.cells #[.int .i64 0, .bool false, .int .i64 0, .bool false] 112)
    rw [alloc_size, alloc_size, alloc_size] at this
    exact this
  have GP : Hid (Grew X X) := Grew.refl X
  clear hc g h32 h322
  go_enter Tryz.func77, Tryz.ntmps77
  go_wp2_with (first
    | (with_reducible refine stop_load 30 rfl ?_
       unfold Stop
       refine wpList_load_row rfl 30 _ rfl (X.heap.size + 1) (by go_simp) 30 cx (0, 0) _ HX.out Tryz.underlying30 rfl (by rw [hsz]; kernel_rfl) ?_)
    | fail)
  refine (CE.out _ (by repeat (first | with_reducible exact .refl _ | refine .alloc ?_ _))).mono ?_
  rintro en w1 ⟨fv, l, e, rfl, he, hl, hll, g1⟩
  have gx : Grew X w1 := Grew.trans (by repeat (first | with_reducible exact .refl _ | refine .alloc ?_ _)) g1
  have HL := Hid.mk' hl
  obtain ⟨fa, fc, e1, _, hmx⟩ := hl.one
  subst e1
  clear GP
  have GP := Hid.mk' gx
  have H6 : Hid (e ≠ 6) := by
    show e ≠ 6
    omega
  have N1 := (g1.turn []).other HR.out (by simp)
  have I1 := (g1.turn []).other HI.out (by simp)
  have i2 := (cell_of I1 2).trans h2
  have li := lt_of_cell i2
  have lB := lt_of_obj N1
  have z0 := cell_of N1 0
  have z1 := cell_of N1 1
  have z2 := cell_of N1 2
  have z3 := cell_of N1 3
  have y0 := free_of N1 0
  have y1 := free_of N1 1
  have y2 := free_of N1 2
  have y3 := free_of N1 3
  simp at z0 z1 z2 z3
  have HN1 := Hid.mk' N1
  clear N1 HX HI HR I1
  clear gx g1 he hl CE
  by_cases h0 : e = 0
  · subst h0
    go_wp2_with fail
    refine (CA.out _ _ _ HL.out).mono ?_
    rintro en w2 ⟨a, b, c, d, e, rfl, he, g2⟩
    have N2 := (g2.turn []).other HN1.out (by simp)
    have gx : Grew X w2 := GP.out.trans g2
    clear GP z0 z1 z2 z3 y0 y1 y2 y3 lB HN1 i2 li
    have GP := Hid.mk' gx
    have H6 := Hid.mk' he
    have lB := lt_of_obj N2
    have z0 := cell_of N2 0
    have z1 := cell_of N2 1
    have z2 := cell_of N2 2
    have z3 := cell_of N2 3
    have y0 := free_of N2 0
    have y1 := free_of N2 1
    have y2 := free_of N2 2
    have y3 := free_of N2 3
    simp at z0 z1 z2 z3
    have HN1 := Hid.mk' N2
    clear N2 gx g2 he CA HL
    go_wp2_with fail
    have hB : X.heap.size ≤ X.heap.size + 1 + 1 + 1 := by omega
    have b3 := heap_set (heap_set (heap_set (heap_set HN1.out 0 (.int .i64 a)) 1 (.bool b)) 2 (.int .i64 c)) 3 (.bool d)
    have G2 := Hid.mk' ((((GP.out.set (p := ⟨X.heap.size + 1 + 1 + 1, 0, none⟩) hB (.int .i64 a)).set (p := ⟨X.heap.size + 1 + 1 + 1, 1, none⟩) hB (.bool b)).set (p := ⟨X.heap.size + 1 + 1 + 1, 2, none⟩) hB (.int .i64 c)).set (p := ⟨X.heap.size + 1 + 1 + 1, 3, none⟩) hB (.bool d))
    generalize (((w2.setCell ⟨X.heap.size + 1 + 1 + 1, 0, none⟩ (.int .i64 a)).setCell ⟨X.heap.size + 1 + 1 + 1, 1, none⟩ (.bool b)).setCell ⟨X.heap.size + 1 + 1 + 1, 2, none⟩ (.int .i64 c)).setCell ⟨X.heap.size + 1 + 1 + 1, 3, none⟩ (.bool d) = w9 at *
    have gz : Grew w9 w9 := Grew.refl w9
    have b4 := b3
    have c0 := cell_of b4 0
    have c1 := cell_of b4 1
    have c2 := cell_of b4 2
    have c3 := cell_of b4 3
    simp at c0 c1 c2 c3
    refine bodyPost_ret (v := .tuple #[.agg #[.int .i64 a, .bool b, .int .i64 c, .bool d], .int .i64 e]) (by simp [results, Tryz.results77, go_sem, c0, c1, c2, c3]) rfl ?_
    exact ⟨_, _, _, _, _, rfl, H6.out, G2.out.trans gz⟩
  · have e1 : (e == 0) = false := by rw [beq_eq_false_iff_ne]; exact h0
    clear h0
    go_wp2_with fail
    have hB : X.heap.size ≤ X.heap.size + 1 + 1 + 1 := by omega
    have b3 := heap_set (heap_set (heap_set (heap_set HN1.out 0 (.int .i64 0)) 1 (.bool false)) 2 (.int .i64 0)) 3 (.bool false)
    have G2 := Hid.mk' ((((GP.out.set (p := ⟨X.heap.size + 1 + 1 + 1, 0, none⟩) hB (.int .i64 0)).set (p := ⟨X.heap.size + 1 + 1 + 1, 1, none⟩) hB (.bool false)).set (p := ⟨X.heap.size + 1 + 1 + 1, 2, none⟩) hB (.int .i64 0)).set (p := ⟨X.heap.size + 1 + 1 + 1, 3, none⟩) hB (.bool false))
    generalize (((w1.setCell ⟨X.heap.size + 1 + 1 + 1, 0, none⟩ (.int .i64 0)).setCell ⟨X.heap.size + 1 + 1 + 1, 1, none⟩ (.bool false)).setCell ⟨X.heap.size + 1 + 1 + 1, 2, none⟩ (.int .i64 0)).setCell ⟨X.heap.size + 1 + 1 + 1, 3, none⟩ (.bool false) = w2 at *
    have gz : Grew w2 w2 := Grew.refl w2
    have b4 := b3
    have c0 := cell_of b4 0
    have c1 := cell_of b4 1
    have c2 := cell_of b4 2
    have c3 := cell_of b4 3
    simp at c0 c1 c2 c3
    refine bodyPost_ret (v := .tuple #[.agg #[.int .i64 0, .bool false, .int .i64 0, .bool false], .int .i64 e]) (by simp [results, Tryz.results77, go_sem, c0, c1, c2, c3]) rfl ?_
    exact ⟨_, _, _, _, _, rfl, H6.out, G2.out.trans gz⟩
theorem field_any (hc : CTX w cx TT FL EL RB dt) {es : Array Value} (hes : es.size = 17) {n ny : Nat} (h32 : n < 4294967296) (h1 : es[1]? = some (.int .u32 (n : Int))) (h322 : ny < 4294967296) (h2 : es[2]? = some (.int .u32 (ny : Int))) (k : Int) (s pk : Bool) {X : World} (g : Grew w X) : Calls Tryz.prog 77 #[.agg #[.int .i64 k, .bool s, .bool pk], .agg cx, .agg es] X (FtQ X) := by
  by_cases hk : k = 3
  · subst hk
    exact field_3 hc hes h32 h1 h322 h2 s pk g
  · exact field_n hc hes h32 h1 h322 h2 k hk s pk g
end
theorem new_any2 {w : World} {tv pv lv rv : Value} {L : List RT} {P Q R : List VT} (hL : ∃ ta tc, tv = .slice ta L.length tc) (hG : ∀ X, Grew w X → Calls Tryz.prog 18 #[tv] X fun en w' => ∃ g, en = .returned (.slice (some ⟨g, 0, none⟩) L.length L.length) ∧ LR w' (.slice (some ⟨g, 0, none⟩) L.length L.length) L ∧ Grew X w') (hP : LV w pv P) (hQ : LV w lv Q) (hR : LV w rv R) (h3 : P.length + Q.length ≤ 1048576) (h4 : R.length ≤ 1048576) :
    Calls Tryz.prog 11 #[tv, pv, lv, rv] w fun en w' => ∃ C lv' qv x gv W0, en = .returned (.pointer (some ⟨C, 0, none⟩)) ∧ x.height = 0 ∧ x.fresh = 0 ∧ x.dead = false ∧ (x.op = 2 ∧ ∃ a, x.out = .slice a R.length R.length) ∧ Grew w W0 ∧ LR W0 gv L ∧ CHK (fun v => v = gv) W0.heap.size w' C lv' NILS NILS qv (locs P Q) [] [] [x] ∧ Grew W0 w' := by
  have C1 : Hid (∀ X, Grew w X → Calls Tryz.prog 18 #[tv] X fun en w' => ∃ g, en = .returned (.slice (some ⟨g, 0, none⟩) L.length L.length) ∧ LR w' (.slice (some ⟨g, 0, none⟩) L.length L.length) L ∧ Grew X w') := hG
  have C2 : Hid (∀ X, Grew w X → Calls Tryz.prog 19 #[rv] X (NewRow 46 R.length (R.flatMap VT.c) X)) := fun X g => copiedV_any (hR.raw.grew g) (by omega)
  have C3 : Hid (∀ X, Grew w X → Calls Tryz.prog 20 #[pv, lv] X fun en w' => ∃ u, en = .returned u ∧ RowLo X.heap.size w' u (locs P Q) ∧ Grew X w') := fun X g => localsOf_any (hP.grew g) (hQ.grew g) h3
  obtain ⟨ta, tc, hv⟩ := hL
  subst hv
  obtain ⟨pa, pc, hv, _⟩ := hP.one
  subst hv
  obtain ⟨qa, qc, hv, _⟩ := hQ.one
  subst hv
  obtain ⟨ra, rc, hv, _⟩ := hR.one
  subst hv
  clear hP hQ hR hG
  generalize locs P Q = LL at *
  go_enter Tryz.func11, Tryz.ntmps11
  go_wp2_with fail
  refine (C1.out _ (Grew.refl w)).mono ?_
  rintro en w1 ⟨g1, rfl, lr1, gg1⟩
  have G1 : Hid (Grew w w1) := gg1
  have HL : Hid (LR w1 (.slice (some ⟨g1, 0, none⟩) L.length L.length) L) := lr1
  clear gg1 C1 lr1
  go_wp2_with fail
  refine (C2.out _ G1.out).mono ?_
  rintro en w2 ⟨g2, rfl, _, _, gg2⟩
  have G2 : Hid (Grew w1 w2) := gg2
  clear gg2 C2
  go_wp2_with fail
  refine (C3.out _ (G1.out.trans G2.out)).mono ?_
  rintro en w3 ⟨u, rfl, r3, gg3⟩
  have G3 : Hid (Grew w1 w3) := G2.out.trans gg3
  have R3 : Hid (RowLo w1.heap.size w3 u LL) := row_low r3 G2.out.2
  obtain ⟨ua, uc, hu⟩ := row_one r3
  subst hu
  clear gg3 C3 G2 r3
  go_wp2_with fail
  have hC : Hid (CHK (fun v => v = .slice (some ⟨g1, 0, none⟩) L.length L.length) w1.heap.size (w3.alloc (.cells #[.bool true, .slice (some ⟨g1, 0, none⟩) L.length L.length, .slice (some ⟨g2, 0, none⟩) R.length R.length, .slice ua LL.length uc, NILS, NILS, NILS] 63)) w3.heap.size (.slice ua LL.length uc) NILS NILS NILS LL [] [] []) :=
    ⟨⟨_, _, ⟨⟨_, _, _, rfl⟩, rfl⟩, ⟨_, _, _, rfl⟩, heap_alloc_last _ _⟩, G3.out.2, R3.out.grew ((Grew.refl _).alloc _), RowU.nil _ _, RowV.nil _ _, RowFr.nil _ _, by simp⟩
  have c2 : (w3.alloc (.cells #[.bool true, .slice (some ⟨g1, 0, none⟩) L.length L.length, .slice (some ⟨g2, 0, none⟩) R.length R.length, .slice ua LL.length uc, NILS, NILS, NILS] 63)).cell? ⟨w3.heap.size, 2, none⟩ = some (.slice (some ⟨g2, 0, none⟩) R.length R.length) := by rw [cell_of (heap_alloc_last _ _)]; rfl
  have G4 : Hid (Grew w1 (w3.alloc (.cells #[.bool true, .slice (some ⟨g1, 0, none⟩) L.length L.length, .slice (some ⟨g2, 0, none⟩) R.length R.length, .slice ua LL.length uc, NILS, NILS, NILS] 63))) := G3.out.alloc _
  have hl4 : w3.heap.size < (w3.alloc (.cells #[.bool true, .slice (some ⟨g1, 0, none⟩) L.length L.length, .slice (some ⟨g2, 0, none⟩) R.length R.length, .slice ua LL.length uc, NILS, NILS, NILS] 63)).heap.size := by simp
  generalize (w3.alloc (.cells #[.bool true, .slice (some ⟨g1, 0, none⟩) L.length L.length, .slice (some ⟨g2, 0, none⟩) R.length R.length, .slice ua LL.length uc, NILS, NILS, NILS] 63)) = w4 at *
  generalize w3.heap.size = C at *
  clear G3 R3
  go_region_law (refine step_pushF (.tmp 21) (.tmp 27) (fs := []) (l := [⟨2, NILS, .slice (some ⟨g2, 0, none⟩) R.length R.length, 0, 0, false⟩]) (hC.out.grew (by repeat (first | exact .refl _ | refine .alloc ?_ _ | refine .drewN ?_ _ | refine .drew ?_))) (raw_frame ⟨2, NILS, .slice (some ⟨g2, 0, none⟩) R.length R.length, 0, 0, false⟩ ⟨⟨_, _, _, rfl⟩, ⟨_, _, _, rfl⟩⟩) (by simp) (by simp [isSl]) rfl rfl rfl rfl ?_
                 intro v5 w5 K5 B5 _
                 have H5 := Hid.mk' K5
                 have HB5 := Hid.mk' B5
                 clear K5 B5)
  all_goals
    go_wp2_with fail
    go_ret
    refine ⟨C, _, _, _, _, w1, rfl, rfl, rfl, rfl, ⟨rfl, _, rfl⟩, G1.out, HL.out, H5.out, KB.grew (w := w4) G4.out (KB.trans (Grew.kb (by repeat (first | exact .refl _ | refine .alloc ?_ _ | refine .drewN ?_ _ | refine .drew ?_)) G4.out.2) HB5.out)⟩
theorem lst_nilA (a : Option Addr) (w : World) : LV w (.slice a 0 0) [] := ⟨a, 0, rfl, Nat.le_refl _, by decide, fun _ => rfl, Or.inl rfl⟩
theorem flabel_any (iv ov : Value) (h f : Int) (d : Bool) (hi : isSl iv) (ho : isSl ov) (X : World) : Calls Tryz.prog 132 #[.agg #[.int .i64 2, iv, ov, .int .i64 h, .int .i64 f, .bool d]] X fun en w' => en = .returned ov ∧ Grew X w' := by
  obtain ⟨ia, il, ic, rfl⟩ := hi
  obtain ⟨oa, ol, oc, rfl⟩ := ho
  go_enter Tryz.func132, Tryz.ntmps132
  go_wp2_with fail
  go_ret
  exact ⟨rfl, by repeat (first | with_reducible exact .refl _ | refine .alloc ?_ _ | refine .set ?_ (by simp) _ | refine .drewN ?_ _ | refine .drew ?_)⟩
theorem Label_one {G : Value → Prop} {B : Nat} {w : World} {C g c : Nat} {lv fv ov : Value} {lo : List LO} {fr : List Int} {ops : List VT} {x : FV} (h : CHK G B w C lv fv ov (.slice (some ⟨g, 0, none⟩) 1 c) lo fr ops [x]) (hop : x.op = 2) (hout : ∃ a, x.out = .slice a 0 0) {n : Nat} (h32 : n < 4294967296) :
    Calls Tryz.prog 116 #[.pointer (some ⟨C, 0, none⟩), .int .u32 (n : Int)] w fun en w' => ∃ a c e, en = .returned (.tuple #[.slice a 0 c, .int .i64 e]) ∧ (e = 0 ∨ e = 133) ∧ Grew w w' := by
  have CZ : Hid (∀ W, Grew w W → Calls Tryz.prog 49 #[.pointer (some ⟨C, 0, none⟩)] W fun en w' => en = .returned (.bool false) ∧ w' = W) := fun W g => zeroMk (h.grew g)
  have CH : Hid (∀ W, Grew w W → Calls Tryz.prog 122 #[.pointer (some ⟨C, 6, none⟩)] W fun en w' => en = .returned (.int .i64 1) ∧ w' = W) := fun W g => (heightF_any (h.grew g)).mono (fun en w' k => by simpa using k)
  have CN : Hid (∀ W, Grew w W → Calls Tryz.prog 123 #[.pointer (some ⟨C, 6, none⟩), .int .i64 0] W fun en w' => en = .returned (.pointer (some ⟨g, 0, none⟩)) ∧ Grew W w') := fun W gg => (nthF_any (fs := []) (h.grew gg)).mono (fun en w' k => by simpa using k)
  have CC : Hid (∀ W a, Calls Tryz.prog 19 #[.slice a 0 0] W (NewRow 46 0 [] W)) := fun W a => copiedV_any (lst_nilA a W).raw (by decide)
  have GP : Hid (Grew w w) := Grew.refl w
  obtain ⟨g', c', hv, hle, hmx, _, _, hcells⟩ := RowFr.last (l := []) h.rfs
  injection hv with e1 e3 e2
  clear e3
  injection e1 with e1
  injection e1 with e1 _ _
  subst e1 e2
  obtain ⟨gv, rv, _, _, co⟩ := h.obj
  have c6 := h.c6
  have hin := (h.sl x (by simp)).1
  obtain ⟨a, ho⟩ := hout
  obtain ⟨xo, xi, xu, xh, xf, xd⟩ := x
  simp only at hop ho hin
  obtain ⟨ia, il, ic, hin⟩ := hin
  subst hin
  subst hop ho
  have k0 := hcells 0 (by decide)
  have k1 := hcells 1 (by decide)
  have k2 := hcells 2 (by decide)
  have k3 := hcells 3 (by decide)
  have k4 := hcells 4 (by decide)
  have k5 := hcells 5 (by decide)
  simp [FV.c] at k0 k1 k2 k3 k4 k5
  have CF : Hid (∀ W h f d, Calls Tryz.prog 132 #[.agg #[.int .i64 2, .slice ia il ic, .slice a 0 0, .int .i64 h, .int .i64 f, .bool d]] W fun en w' => en = .returned (.slice a 0 0) ∧ Grew W w') := fun W h f d => flabel_any _ _ h f d ⟨_, _, _, rfl⟩ ⟨_, _, _, rfl⟩ W
  have hl := lt_of_cell k0
  have e1 : IntKind.u64.wrap (n : Int) = (n : Int) := by rw [IntKind.wrap_u64]; omega
  clear h co hcells hle hmx h32
  by_cases hn : n = 0
  · subst hn
    go_enter Tryz.func116, Tryz.ntmps116
    go_wp2_with fail
    refine (CZ.out _ (by repeat (first | with_reducible exact .refl _ | refine .alloc ?_ _))).mono ?_
    rintro en w1 ⟨rfl, hw1⟩
    obtain rfl := hw1.symm
    clear hw1 CZ
    go_wp2_with fail
    refine (CH.out _ (by repeat (first | with_reducible exact .refl _ | refine .alloc ?_ _))).mono ?_
    rintro en w1 ⟨rfl, hw1⟩
    obtain rfl := hw1.symm
    clear hw1 CH
    go_wp2_with fail
    refine (CN.out _ (Grew.refl _)).mono ?_
    rintro en w1 ⟨rfl, g1⟩
    have k0 := cell_grew k0 g1
    have k1 := cell_grew k1 g1
    have k2 := cell_grew k2 g1
    have k3 := cell_grew k3 g1
    have k4 := cell_grew k4 g1
    have k5 := cell_grew k5 g1
    have G1 := Hid.mk' g1
    have hl1 := lt_of_cell k0
    clear g1 CN
    go_wp2_with fail
    refine (CF.out _ _ _ _).mono ?_
    rintro en w2 ⟨rfl, g2⟩
    have G2 := Hid.mk' (G1.out.trans g2)
    clear g2 G1 CF
    go_wp2_with fail
    refine (CC.out _ _).mono ?_
    rintro en w3 ⟨g3, rfl, _, _, gg3⟩
    have G3 := Hid.mk' (G2.out.trans gg3)
    clear gg3 G2 CC
    go_wp2_with fail
    refine bodyPost_ret (v := .tuple #[.slice (some ⟨g3, 0, none⟩) 0 0, .int .i64 0]) (by simp [results, Tryz.results116, go_sem]) rfl ?_
    exact ⟨_, _, _, rfl, Or.inl rfl, G3.out⟩
  · have d1 : decide ((1 : Int) ≤ (n : Int)) = true := by simp; omega
    have d2 : decide (1 ≤ n) = true := by simp; omega
    go_enter Tryz.func116, Tryz.ntmps116
    go_wp2_with fail
    refine (CZ.out _ (by repeat (first | with_reducible exact .refl _ | refine .alloc ?_ _))).mono ?_
    rintro en w1 ⟨rfl, hw1⟩
    obtain rfl := hw1.symm
    clear hw1 CZ
    go_wp2_with fail
    refine (CH.out _ (by repeat (first | with_reducible exact .refl _ | refine .alloc ?_ _))).mono ?_
    rintro en w1 ⟨rfl, hw1⟩
    obtain rfl := hw1.symm
    clear hw1 CH
    go_wp2_with fail
    refine bodyPost_ret (v := .tuple #[.slice none 0 0, .int .i64 133]) (by simp [results, Tryz.results116, go_sem]) rfl ?_
    exact ⟨_, _, _, rfl, Or.inr rfl, Grew.refl _⟩
/- A fresh checker's label: none, or an empty list. -/
def FRL (C : Nat) (w : World) : Prop := ∀ X (n : Nat), Grew w X → n < 4294967296 → Calls Tryz.prog 116 #[.pointer (some ⟨C, 0, none⟩), .int .u32 (n : Int)] X fun en w' => ∃ a c e, en = .returned (.tuple #[.slice a 0 c, .int .i64 e]) ∧ (e = 0 ∨ e = 133) ∧ Grew X w'
theorem FRL.grew {C : Nat} {w w' : World} (h : FRL C w) (g : Grew w w') : FRL C w' := fun X n k => h X n (g.trans k)
end Go.Proofs.YtnmbniojejckpaaGreatDoor
