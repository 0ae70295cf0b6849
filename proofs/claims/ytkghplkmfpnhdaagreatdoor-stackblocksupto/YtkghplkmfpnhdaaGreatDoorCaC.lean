/-
  A frame copied; Pop, PopType and Pops where the rest is not reached; no statement is proved here.
-/
import Derived.Test.YtkghplkmfpnhdaaGreatDoorCal
import Derived.Test.YtkghplkmfpnhdaaGreatDoorGrO
namespace Go.Proofs.YtkghplkmfpnhdaaGreatDoor
open Go.RowKit
set_option linter.unusedVariables false
set_option linter.unusedSimpArgs false

/- A list of types in a row that nobody else has, in a block from N on. -/
def NewV (N : Nat) (w : World) (v : Value) (l : List VT) : Prop := ∃ g, N ≤ g ∧ v = .slice (some ⟨g, 0, none⟩) l.length l.length ∧ w.heap[g]? = some (.cells (l.flatMap VT.c).toArray 44 (0, 0))
theorem NewV.grew {N : Nat} {w w' : World} {v : Value} {l : List VT} (h : NewV N w v l) (g : Grew w w') : NewV N w' v l := by
  obtain ⟨b, hN, hv, hb⟩ := h
  exact ⟨b, hN, hv, (g.turn []).other hb (by simp)⟩
theorem flatV_len (l : List VT) : (l.flatMap VT.c).length = l.length * 3 := by
  induction l with
  | nil => rfl
  | cons y l ih => rw [List.flatMap_cons, List.length_append, ih, List.length_cons]; simp [VT.c]; omega
theorem NewV.lst {N : Nat} {w : World} {v : Value} {l : List VT} (h : NewV N w v l) (hl : l.length ≤ 8388608) : LV w v l := by
  obtain ⟨b, hN, hv, hb⟩ := h
  refine ⟨_, _, hv, Nat.le_refl _, by unfold maxLen; omega, (fun h => by cases h), Or.inr ⟨b, 0, rfl, fun i x hx => ?_⟩⟩
  have hc : ∀ j, j < 3 → w.cell? ⟨b, 0 + i * 3 + j, none⟩ = (VT.c x)[j]? := fun j hj => by
    rw [cell_of hb, List.getElem?_toArray, Nat.zero_add]
    exact flat_at VT.c 3 (fun _ => rfl) l i x j hx hj
  exact ⟨hc 0 (by decide), hc 1 (by decide), hc 2 (by decide)⟩
theorem NewV.two {N : Nat} {w w' : World} {v : Value} {l : List VT} {C : Nat} {q : Value} (h : NewV N w v l) (t : Two C q w w') (hC : NoT w C 44) (hq : ∀ g, q.ownBlock = some g → NoT w g 44 ∨ g < N) : NewV N w' v l := by
  obtain ⟨b, hN, hv, hb⟩ := h
  refine ⟨b, hN, hv, (t b (lt_of_obj hb) (fun hx => hC _ _ (by rw [← hx]; exact hb)) (fun hx => ?_)).trans hb⟩
  rcases hq b hx.symm with h | h
  · exact h _ _ hb
  · omega
theorem CK.noV {B : Nat} {w : World} {C : Nat} {lv fv ov qv : Value} {lo : List LO} {fr : List Int} {ops : List VT} {fs : List FV} (h : CK B w C lv fv ov qv lo fr ops fs) : NoT w C 44 ∧ ∀ g, qv.ownBlock = some g → NoT w g 44 := by
  obtain ⟨⟨gv, rv, a, b, co⟩, h1, h2, h3, h4, h5, h6⟩ := h
  exact ⟨NoT.of co (by decide), row_no h5 (by decide)⟩
set_option maxRecDepth 100000 in
set_option maxHeartbeats 2000000 in
theorem fcopied_any {w : World} {x : FV} {li lu : List VT} (hi : LV w x.inn li) (hu : LV w x.out lu) (h1 : li.length ≤ 1048576) (h2 : lu.length ≤ 1048576) :
    Calls Tryz.prog 39 #[x.v] w fun en w' => ∃ a b, en = .returned (FV.v ⟨x.op, a, b, x.height, x.fresh, x.dead⟩) ∧ NewV w.heap.size w' a li ∧ NewV w.heap.size w' b lu ∧ Grew w w' := by
  obtain ⟨op, inn, out, hh, ff, dd⟩ := x
  simp only at hi hu
  obtain ⟨ia, ic, hv, _⟩ := hi.one
  subst hv
  obtain ⟨ua, uc, hv, _⟩ := hu.one
  subst hv
  have LI' := Hid.mk' hi
  have LU' := Hid.mk' hu
  rw [FV.isAgg]
  simp only
  clear hi hu
  go_enter Tryz.func39, Tryz.ntmps39
  go_wp2_with fail
  obtain ⟨w1, hw1⟩ : ∃ w1, w1 = (w.alloc (.cells #[.int .i64 op, .slice ia li.length ic, .slice ua lu.length uc, .int .i64 (hh : Int), .int .i64 (ff : Int), .bool dd] 73)).alloc (.cells #[.int .i64 0, NILS, NILS, .int .i64 0, .int .i64 0, .bool false] 73) := ⟨_, rfl⟩
  have G1 : Hid (Grew w w1) := by rw [hw1]; exact ((Grew.refl w).alloc _).alloc _
  have N1 : Hid (w1.heap[w.heap.size]? = some (.cells #[.int .i64 op, .slice ia li.length ic, .slice ua lu.length uc, .int .i64 (hh : Int), .int .i64 (ff : Int), .bool dd] 73 (0, 0))) := by rw [hw1]; exact heap_alloc (heap_alloc_last _ _) _
  have N2 : Hid (w1.heap[w.heap.size + 1]? = some (.cells #[.int .i64 0, NILS, NILS, .int .i64 0, .int .i64 0, .bool false] 73 (0, 0))) := by
    rw [hw1]
    have := heap_alloc_last (w.alloc (.cells #[.int .i64 op, .slice ia li.length ic, .slice ua lu.length uc, .int .i64 (hh : Int), .int .i64 (ff : Int), .bool dd] 73)) (.cells #[.int .i64 0, NILS, NILS, .int .i64 0, .int .i64 0, .bool false] 73)
    rwa [alloc_size] at this
  rw [← hw1]
  clear hw1
  obtain ⟨⟨a0, a1, a2, a3, a4, a5⟩, y0, y1, y2, y3, y4, y5⟩ := six N1.out
  have hl1 := lt_of_obj N1.out
  have hl2 := lt_of_obj N2.out
  go_region_law (first
    | (refine step_copV (.tmp 4) (LI'.out.raw.grew (G1.out.trans (by repeat (first | with_reducible exact Grew.refl _ | refine Grew.alloc ?_ _ | refine Grew.drewN ?_ _ | refine Grew.drew ?_)))) (by omega) rfl rfl rfl ?_
       intro Y2 w8 hY2 b8 g8
       have gg8 : Grew w1 w8 := (by first | exact g8 | exact ((Grew.refl _).drew).trans g8 | exact ((Grew.refl _).drewN _).trans g8)
       have M1 := Hid.mk' ((gg8.turn []).other N1.out (by simp))
       have M2 := Hid.mk' ((gg8.turn []).other N2.out (by simp))
       have G8 := Hid.mk' (G1.out.trans gg8)
       have B8 := Hid.mk' b8
       obtain ⟨⟨_, p1, p2, _, _, _⟩, _, _, _, _, _, _⟩ := six M1.out
       have hl8 := lt_of_obj M1.out
       clear g8 gg8 b8)
    | (refine step_copV (.tmp 7) (LU'.out.raw.grew (G8.out.trans (by repeat (first | with_reducible exact Grew.refl _ | refine Grew.alloc ?_ _ | refine Grew.drewN ?_ _ | refine Grew.drew ?_)))) (by omega) rfl rfl rfl ?_
       intro Y3 w9 hY3 b9 g9
       have gg9 : Grew w8 w9 := (by first | exact g9 | exact ((Grew.refl _).drew).trans g9 | exact ((Grew.refl _).drewN _).trans g9)
       have P1 := Hid.mk' ((gg9.turn []).other M1.out (by simp))
       have P2 := Hid.mk' ((gg9.turn []).other M2.out (by simp))
       have G9 := Hid.mk' (G8.out.trans gg9)
       have B9 := Hid.mk' b9
       have B89 := Hid.mk' ((gg9.turn []).other B8.out (by simp))
       obtain ⟨⟨q0, q1, q2, q3, q4, q5⟩, v0, v1, v2, v3, v4, v5⟩ := six P1.out
       have hl9 := lt_of_obj P1.out
       clear g9 gg9 b9))
  all_goals
    obtain ⟨w10, hw10⟩ : ∃ w10, w10 = (w9.setCell ⟨w.heap.size, 1, none⟩ (.slice (some ⟨Y2, 0, none⟩) li.length li.length)).setCell ⟨w.heap.size, 2, none⟩ (.slice (some ⟨Y3, 0, none⟩) lu.length lu.length) := ⟨_, rfl⟩
    rw [← hw10]
    have G10 : Hid (Grew w w10) := by rw [hw10]; exact (G9.out.set (p := ⟨w.heap.size, 1, none⟩) (Nat.le_refl _) _).set (p := ⟨w.heap.size, 2, none⟩) (Nat.le_refl _) _
    have Q1 : Hid (w10.heap[w.heap.size]? = some (.cells #[.int .i64 op, .slice (some ⟨Y2, 0, none⟩) li.length li.length, .slice (some ⟨Y3, 0, none⟩) lu.length lu.length, .int .i64 (hh : Int), .int .i64 (ff : Int), .bool dd] 73 (0, 0))) := by rw [hw10]; exact heap_set (heap_set P1.out 1 _) 2 _
    have Q2 : Hid (w10.heap[w.heap.size + 1]? = some (.cells #[.int .i64 0, NILS, NILS, .int .i64 0, .int .i64 0, .bool false] 73 (0, 0))) := by rw [hw10]; exact heap_other (heap_other P2.out (by simp) _) (by simp) _
    have hne : ∀ {Y : Nat}, w1.heap.size ≤ Y → Y ≠ w.heap.size := fun h => by omega
    have hw1' := G1.out.2
    have hY3' : w1.heap.size ≤ Y3 := by have := lt_of_obj B8.out; simp at hY2 hY3; omega
    have hY2' : w1.heap.size ≤ Y2 := by simpa using hY2
    have R2 : Hid (w10.heap[Y2]? = some (.cells (li.flatMap VT.c).toArray 44 (0, 0))) := by rw [hw10]; exact heap_other (heap_other B89.out (hne hY2') _) (hne hY2') _
    have R3 : Hid (w10.heap[Y3]? = some (.cells (lu.flatMap VT.c).toArray 44 (0, 0))) := by rw [hw10]; exact heap_other (heap_other B9.out (hne hY3') _) (hne hY3') _
    clear hw10 G9 P1 P2 B9 B89 q0 q1 q2 q3 q4 q5 v0 v1 v2 v3 v4 v5 a0 a1 a2 a3 a4 a5 y0 y1 y2 y3 y4 y5 N1 N2 M1 M2 B8 G8 G1
    obtain ⟨⟨q0, q1, q2, q3, q4, q5⟩, v0, v1, v2, v3, v4, v5⟩ := six Q1.out
    obtain ⟨⟨n0, n1, n2, n3, n4, n5⟩, m0, m1, m2, m3, m4, m5⟩ := six Q2.out
    have hl10 := lt_of_obj Q1.out
    have hl11 := lt_of_obj Q2.out
    go_wp2_with fail
    refine bodyPost_ret (v := .agg #[.int .i64 op, .slice (some ⟨Y2, 0, none⟩) li.length li.length, .slice (some ⟨Y3, 0, none⟩) lu.length lu.length, .int .i64 (hh : Int), .int .i64 (ff : Int), .bool dd]) (by simp [results, Tryz.results39, go_sem, n0, n1, n2, n3, n4, n5]) rfl ?_
    have hN2 : ∀ {Y : Nat}, w1.heap.size ≤ Y → Y ≠ w.heap.size + 1 := fun h => by omega
    have st : ∀ {Y : Nat} {o : Obj}, w1.heap.size ≤ Y → w10.heap[Y]? = some o → ((((((w10.setCell ⟨w.heap.size + 1, 0, none⟩ (.int .i64 op)).setCell ⟨w.heap.size + 1, 1, none⟩ (.slice (some ⟨Y2, 0, none⟩) li.length li.length)).setCell ⟨w.heap.size + 1, 2, none⟩ (.slice (some ⟨Y3, 0, none⟩) lu.length lu.length)).setCell ⟨w.heap.size + 1, 3, none⟩ (.int .i64 (hh : Int))).setCell ⟨w.heap.size + 1, 4, none⟩ (.int .i64 (ff : Int))).setCell ⟨w.heap.size + 1, 5, none⟩ (.bool dd)).heap[Y]? = some o := fun hY ho =>
      heap_other (heap_other (heap_other (heap_other (heap_other (heap_other ho (hN2 hY) _) (hN2 hY) _) (hN2 hY) _) (hN2 hY) _) (hN2 hY) _) (hN2 hY) _
    refine ⟨_, _, rfl, ⟨Y2, by omega, rfl, st hY2' R2.out⟩, ⟨Y3, by omega, rfl, st hY3' R3.out⟩, ?_⟩
    exact (((((G10.out.set (p := ⟨w.heap.size + 1, 0, none⟩) (Nat.le_succ _) _).set (p := ⟨w.heap.size + 1, 1, none⟩) (Nat.le_succ _) _).set (p := ⟨w.heap.size + 1, 2, none⟩) (Nat.le_succ _) _).set (p := ⟨w.heap.size + 1, 3, none⟩) (Nat.le_succ _) _).set (p := ⟨w.heap.size + 1, 4, none⟩) (Nat.le_succ _) _).set (p := ⟨w.heap.size + 1, 5, none⟩) (Nat.le_succ _) _
end Go.Proofs.YtkghplkmfpnhdaaGreatDoor
