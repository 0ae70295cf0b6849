/-
  The walks of the program's Sig and Width; no statement is proved here.
-/
import Derived.Test.YtjfiggkjdbnjeaaDoorSgT
namespace Go.Proofs.YtjfiggkjdbnjeaaDoor
open Go.RowKit
set_option linter.unusedVariables false
set_option linter.unusedSimpArgs false

set_option maxRecDepth 100000 in
theorem sig_no (op : Int) (h : isOpB op = false) (w : World) :
    Calls Tryd.prog 11 #[.int .i64 op] w fun e w' => e = .returned (.tuple #[.slice none 0 0, .slice none 0 0, .int .i64 6]) ∧ w' = w := by
  have C := isOp_any op w
  rw [h] at C
  clear h
  go_enter Tryd.func11, Tryd.ntmps11
  go_wp2_with fail
  refine C.mono ?_
  rintro e w1 ⟨rfl, rfl⟩
  clear C
  go_wp2_with fail
  exact bodyPost_ret (v := .tuple #[.slice none 0 0, .slice none 0 0, .int .i64 6]) (by simp [results, Tryd.results11, go_sem]) rfl ⟨rfl, rfl⟩
set_option maxRecDepth 100000 in
theorem sig_yes (op : Int) (h : isOpB op = true) (w : World) (hT : TabS w) :
    Calls Tryd.prog 11 #[.int .i64 op] w fun e w' => ∃ u v, e = .returned (.tuple #[u, v, .int .i64 0]) ∧ RowV w.heap.size w' u (List.replicate (sigRow op).2.2.1.toNat ⟨(sigRow op).2.1, false, 0⟩) ∧ RowV w.heap.size w' v [⟨(sigRow op).2.2.2, false, 0⟩] ∧ Grew w w' := by
  have C := isOp_any op w
  rw [h] at C
  have C2 : Hid (Calls Tryd.prog 40 #[.int .i64 op] w fun e w' => ∃ u v, e = .returned (.tuple #[u, v]) ∧ RowV w.heap.size w' u (List.replicate (sigRow op).2.2.1.toNat ⟨(sigRow op).2.1, false, 0⟩) ∧ RowV w.heap.size w' v [⟨(sigRow op).2.2.2, false, 0⟩] ∧ Grew w w') := sigOf_any op w hT
  clear h hT
  generalize sigRow op = r at *
  go_enter Tryd.func11, Tryd.ntmps11
  go_wp2_with fail
  refine C.mono ?_
  rintro e w1 ⟨rfl, hw⟩
  obtain rfl := hw.symm
  clear C
  go_wp2_with fail
  refine C2.out.mono ?_
  rintro e w2 ⟨u, v, rfl, h1, h2, g2⟩
  obtain ⟨ua, uc, rfl⟩ := row_one h1
  obtain ⟨va, vc, rfl⟩ := row_one h2
  have H1 : Hid (RowV w.heap.size w2 (.slice ua (List.replicate r.2.2.1.toNat (⟨r.2.1, false, 0⟩ : VT)).length uc) (List.replicate r.2.2.1.toNat ⟨r.2.1, false, 0⟩)) := h1
  have H2 : Hid (RowV w.heap.size w2 (.slice va [(⟨r.2.2.2, false, 0⟩ : VT)].length vc) [⟨r.2.2.2, false, 0⟩]) := h2
  have G2 : Hid (Grew w w2) := g2
  clear h1 h2 g2 C2
  go_wp2_with fail
  exact bodyPost_ret (v := .tuple #[.slice ua (List.replicate r.2.2.1.toNat (⟨r.2.1, false, 0⟩ : VT)).length uc, .slice va [(⟨r.2.2.2, false, 0⟩ : VT)].length vc, .int .i64 0]) (by simp [results, Tryd.results11, go_sem]) rfl ⟨_, _, rfl, H1.out, H2.out, G2.out⟩
def wv (n b : Int) (st sg : Bool) (e : Value) : Value := .tuple #[.agg #[.int .i64 n, .bool false, .int .i64 0], .int .i64 b, .bool st, .bool sg, e]
set_option maxRecDepth 100000 in
theorem width_no (op : Int) (h : op < 40 ∨ 62 < op) (w : World) :
    Calls Tryd.prog 14 #[.int .i64 op] w fun e w' => e = .returned (wv 0 0 false false (.int .i64 6)) ∧ Grew w w' := by
  rcases h with h | h
  · have d1 : decide (op < 40) = true := by simpa using h
    go_enter Tryd.func14, Tryd.ntmps14
    go_wp2
    exact bodyPost_ret (v := wv 0 0 false false (.int .i64 6)) (by simp [results, Tryd.results14, go_sem, wv]) rfl ⟨rfl, (Grew.refl w).alloc _⟩
  · have d1 : decide (op < 40) = false := by simp; omega
    have d2 : decide (62 < op) = true := by simpa using h
    go_enter Tryd.func14, Tryd.ntmps14
    go_wp2
    exact bodyPost_ret (v := wv 0 0 false false (.int .i64 6)) (by simp [results, Tryd.results14, go_sem, wv]) rfl ⟨rfl, (Grew.refl w).alloc _⟩
set_option maxRecDepth 100000 in
set_option maxHeartbeats 1000000 in
theorem width_yes (op : Int) (h0 : 40 ≤ op) (h1 : op ≤ 62) (n b : Int) (sg : Bool) (hr : accL[(op - 40).toNat]? = some (n, b, sg)) (w : World) (hT : TabA w) :
    Calls Tryd.prog 14 #[.int .i64 op] w fun e w' => e = .returned (wv n b (decide (54 ≤ op)) sg (.int .i64 0)) ∧ Grew w w' := by
  obtain ⟨k, hk⟩ : ∃ k : Nat, op - 40 = (k : Int) := ⟨(op - 40).toNat, by omega⟩
  rw [hk, Int.toNat_natCast] at hr
  have hposA := hT.pos
  obtain ⟨q0, q1, q2⟩ := (hT.grew ((Grew.refl w).alloc (.cells #[.int .i64 0, .bool false, .int .i64 0] 27))).row hr
  simp only at q0 q1 q2
  have e0 : (w.alloc (.cells #[.int .i64 0, .bool false, .int .i64 0] 27)).heap[w.heap.size]? = some (.cells #[.int .i64 0, .bool false, .int .i64 0] 27 (0, 0)) := heap_alloc_last w _
  have hwr : IntKind.i64.wrap (op - 40) = (k : Int) := by rw [hk]; exact wrap_id (by omega) (by omega)
  have d1 : decide (op < 40) = false := by simp; omega
  have d2 : decide (62 < op) = false := by simp; omega
  have hk23 : (k : Int) < 23 := by omega
  have G0 : Hid (Grew w (w.alloc (.cells #[.int .i64 0, .bool false, .int .i64 0] 27))) := (Grew.refl w).alloc _
  clear hr hT
  go_enter Tryd.func14, Tryd.ntmps14
  generalize hW : w.alloc (.cells #[.int .i64 0, .bool false, .int .i64 0] 27) = W at *
  have x0 := cell_of e0 0
  have x1 := cell_of e0 1
  have x2 := cell_of e0 2
  have z0 := free_of e0 0
  have z1 := free_of e0 1
  have z2 := free_of e0 2
  simp at x0 x1 x2
  have hl : w.heap.size < W.heap.size := lt_of_obj e0
  have hn : ¬ w.heap.size = W.heap.size := by omega
  have hpW : 0 < W.heap.size := by omega
  have E0 : Hid (W.heap[w.heap.size]? = some (.cells #[.int .i64 0, .bool false, .int .i64 0] 27 (0, 0))) := e0
  clear e0
  go_wp2_with fail
  go_region
  all_goals go_wp2_with fail
  have hobj := heap_alloc (set3_obj E0.out (.int .i64 n) (.bool false) (.int .i64 0)) (.cells #[.int .i64 n, .int .i64 b, .bool sg] 89 (0, 0))
  have hgr : Grew w ((((W.setCell ⟨w.heap.size, 0, none⟩ (.int .i64 n)).setCell ⟨w.heap.size, 1, none⟩ (.bool false)).setCell ⟨w.heap.size, 2, none⟩ (.int .i64 0)).alloc (.cells #[.int .i64 n, .int .i64 b, .bool sg] 89 (0, 0))).drew :=
    ((((G0.out.set (p := ⟨w.heap.size, 0, none⟩) (by simp) _).set (p := ⟨w.heap.size, 1, none⟩) (by simp) _).set (p := ⟨w.heap.size, 2, none⟩) (by simp) _).alloc _).drew
  have hobj' : (((((W.setCell ⟨w.heap.size, 0, none⟩ (.int .i64 n)).setCell ⟨w.heap.size, 1, none⟩ (.bool false)).setCell ⟨w.heap.size, 2, none⟩ (.int .i64 0)).alloc (.cells #[.int .i64 n, .int .i64 b, .bool sg] 89 (0, 0))).drew).heap[w.heap.size]? = some (.cells #[.int .i64 n, .bool false, .int .i64 0] 27 (0, 0)) := hobj
  clear hobj
  generalize ((((W.setCell ⟨w.heap.size, 0, none⟩ (.int .i64 n)).setCell ⟨w.heap.size, 1, none⟩ (.bool false)).setCell ⟨w.heap.size, 2, none⟩ (.int .i64 0)).alloc (.cells #[.int .i64 n, .int .i64 b, .bool sg] 89 (0, 0))).drew = W5 at *
  have g0 := cell_of hobj' 0
  have g1 := cell_of hobj' 1
  have g2 := cell_of hobj' 2
  simp at g0 g1 g2
  exact bodyPost_ret (v := wv n b (decide (54 ≤ op)) sg (.int .i64 0)) (by simp [results, Tryd.results14, go_sem, g0, g1, g2, wv]) rfl ⟨rfl, hgr⟩
end Go.Proofs.YtjfiggkjdbnjeaaDoor
