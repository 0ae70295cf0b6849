/-
  PopType of a checker in memory; no statement is proved here.
-/
import Derived.Test.YtnmbniojejckpaaGreatDoorCgM
import Derived.ScopeJumps
set_option maxRecDepth 100000
set_option maxHeartbeats 8000000
namespace Go.Proofs.YtnmbniojejckpaaGreatDoor
open Go.RowKit
set_option linter.unusedVariables false
set_option linter.unusedSimpArgs false
theorem popT_ok {gv : Value} {L : List RT} {W0 w : World} {C : Nat} {lv fv ov : Value} {lo : List LO} {fr : List Int} {ops : List VT} {fs : List FV} {x : FV} {g c : Nat} (hG : GRP L W0 gv) (h : CHG gv W0.heap.size w C lv fv ov (.slice (some ⟨g, 0, none⟩) (fs.length + 1) c) lo fr ops (fs ++ [x])) (g0 : Grew W0 w) (hh : x.height ≤ ops.length) (tn th : Int) (tz : Bool) {r : Int × VT × List VT} (hp : popP x.height x.dead ops = r) (hr : r.1 = 0 ∧ matB L r.2.1 ⟨tn, tz, th⟩ = true) :
    Calls Tryz.prog 50 #[.pointer (some ⟨C, 0, none⟩), .agg #[.int .i64 tn, .bool tz, .int .i64 th]] w fun en w' => ∃ ov', en = .returned (.tuple #[r.2.1.v, .int .i64 0]) ∧ CHG gv W0.heap.size w' C lv fv ov' (.slice (some ⟨g, 0, none⟩) (fs.length + 1) c) lo fr r.2.2 (fs ++ [x]) ∧ KB W0.heap.size w w' ∧ Two C NILS w w' ∧ ov'.ownBlock = ov.ownBlock := by
  obtain ⟨rE, rV, rO⟩ := r
  obtain ⟨an, az, ah⟩ := rV
  simp only at hr
  have C1 : Hid (∀ W, Grew w W → Calls Tryz.prog 49 #[.pointer (some ⟨C, 0, none⟩)] W fun en w' => en = .returned (.bool false) ∧ w' = W) := fun W gg => zeroMk (h.grew gg)
  have C2 : Hid (∀ W, Grew w W → Calls Tryz.prog 62 #[.pointer (some ⟨C, 0, none⟩)] W fun en w' => ∃ ov', en = .returned (.tuple #[.agg #[.int .i64 an, .bool az, .int .i64 ah], .int .i64 rE]) ∧ CHG gv W0.heap.size w' C lv fv ov' (.slice (some ⟨g, 0, none⟩) (fs.length + 1) c) lo fr rO (fs ++ [x]) ∧ KB W0.heap.size W w' ∧ Two C NILS W w' ∧ ov'.ownBlock = ov.ownBlock) := fun W gg => by
    have := popA (h.grew gg) hh
    rwa [hp] at this
  have C3 : Hid (∀ W, Grew W0 W → W.cell? ⟨C, 1, none⟩ = some gv → Calls Tryz.prog 95 #[.pointer (some ⟨C, 0, none⟩), .agg #[.int .i64 an, .bool az, .int .i64 ah], .agg #[.int .i64 tn, .bool tz, .int .i64 th]] W fun en w' => en = .returned (.bool (matB L ⟨an, az, ah⟩ ⟨tn, tz, th⟩)) ∧ Grew W w') := fun W gg hc => matchesG hG gg hc ⟨an, az, ah⟩ ⟨tn, tz, th⟩
  have c5 := h.c5
  obtain ⟨oa, oc, hov⟩ := row_one h.rops
  subst hov
  have hCl := h.lt
  have hBC := h.base
  have HR : Hid (RowV W0.heap.size w (.slice oa ops.length oc) ops) := h.rops
  have hNo : Hid (NoT w C 46) := h.noV.1
  have hlow : Hid (∀ g', (Value.slice oa ops.length oc).ownBlock = some g' → g' < w.heap.size) := fun g' hg => (World.ownsRow.lt h.rops g' hg).2
  clear h hp hh
  obtain ⟨rfl, hm⟩ := hr
  rw [hm] at C3
  have g0' := g0
  clear hm hG g0
  go_enter Tryz.func50, Tryz.ntmps50
  go_wp2_with fail
  go_step3
  go_wp2_with fail
  refine (C1.out _ (((Grew.refl w).alloc _).alloc _)).mono ?_
  rintro en w1 ⟨rfl, hw⟩
  obtain rfl := hw.symm
  clear hw
  go_wp2_with fail
  obtain ⟨w1, hw1⟩ : ∃ w1, w1 = ((w.alloc (.cells #[.int .i64 tn, .bool tz, .int .i64 th] 46)).alloc (.cells #[.int .i64 0, .bool false, .int .i64 0] 46)).alloc (.cells #[.slice oa ops.length oc] 58) := ⟨_, rfl⟩
  have G1 : Hid (Grew w w1) := by rw [hw1]; exact (((Grew.refl w).alloc _).alloc _).alloc _
  have N1 : Hid (w1.heap[w.heap.size]? = some (.cells #[.int .i64 tn, .bool tz, .int .i64 th] 46 (0, 0))) := by rw [hw1]; exact heap_alloc (heap_alloc (heap_alloc_last _ _) _) _
  have N2 : Hid (w1.heap[w.heap.size + 1]? = some (.cells #[.int .i64 0, .bool false, .int .i64 0] 46 (0, 0))) := by
    rw [hw1]
    have := heap_alloc_last (w.alloc (.cells #[.int .i64 tn, .bool tz, .int .i64 th] 46)) (.cells #[.int .i64 0, .bool false, .int .i64 0] 46)
    rw [alloc_size] at this
    exact heap_alloc this _
  have N3 : Hid (w1.heap[w.heap.size + 2]? = some (.cells #[.slice oa ops.length oc] 58 (0, 0))) := by
    rw [hw1]
    have := heap_alloc_last ((w.alloc (.cells #[.int .i64 tn, .bool tz, .int .i64 th] 46)).alloc (.cells #[.int .i64 0, .bool false, .int .i64 0] 46)) (.cells #[.slice oa ops.length oc] 58)
    rw [alloc_size, alloc_size] at this
    exact this
  rw [← hw1]
  clear hw1
  refine (C2.out _ G1.out).mono ?_
  rintro en w2 ⟨ov2, rfl, K2, B2, T2, e2⟩
  have H2 := Hid.mk' K2
  have KB2 : Hid (KB W0.heap.size w w2) := KB.trans (G1.out.kb (Nat.le_of_lt (Nat.lt_of_le_of_lt hBC hCl))) B2
  have T2' : Hid (Two C NILS w w2) := Two.after G1.out T2
  have R2 : Hid (RowV W0.heap.size w2 (.slice oa ops.length oc) ops) := row_two HR.out T2'.out hNo.out (fun g' hg => by cases hg)
  have M1 := Hid.mk' (T2.obj N1.out (by omega))
  have M2 := Hid.mk' (T2.obj N2.out (by omega))
  have M3 := Hid.mk' (T2.obj N3.out (by omega))
  have he2 := Hid.mk' e2
  have GW2 : Hid (Grew W0 w2) := KB.grew g0' KB2.out
  have v0 := cell_of M1.out 0
  have v1 := cell_of M1.out 1
  have v2 := cell_of M1.out 2
  simp at v0 v1 v2
  have hl1 := lt_of_obj M1.out
  clear K2 B2 T2 e2 C1 C2 N1 N2 N3 G1 c5 HR
  have cg := H2.out.c1
  go_wp2_with fail
  refine (C3.out _ (GW2.out.alloc _) (cell_grew cg ((Grew.refl _).alloc _))).mono ?_
  rintro en w3 ⟨rfl, g3⟩
  obtain ⟨gg, hl3, p0, p1, p2, _, _, _⟩ := fresh3 g3
  have H3 := Hid.mk' (H2.out.grew gg)
  have P2 := Hid.mk' ((gg.turn []).other M2.out (by simp))
  have KB3 : Hid (KB W0.heap.size w w3) := KB.trans KB2.out (gg.kb GW2.out.2)
  have T3 : Hid (Two C NILS w w3) := Two.comp T2'.out KB2.out.2 (fun y hy _ _ => gg.1.block y hy)
  have n0 := cell_of P2.out 0
  have n1 := cell_of P2.out 1
  have n2 := cell_of P2.out 2
  have z0 := free_of P2.out 0
  have z1 := free_of P2.out 1
  have z2 := free_of P2.out 2
  simp at n0 n1 n2
  have hl4 := lt_of_obj P2.out
  clear g3 gg C3 M1 M2 v0 v1 v2 cg
  go_wp2_with fail
  rw [Exit.noGoto_ret]
  refine bodyPost_ret (v := .tuple #[.agg #[.int .i64 an, .bool az, .int .i64 ah], .int .i64 0]) (by simp [results, Tryz.results50, go_sem, n0, n1, n2]) rfl ?_
  have ho : ∀ g', ov2.ownBlock = some g' → g' ≠ w.heap.size + 1 := fun g' hg => by
    have := hlow.out g' (he2.out.symm.trans hg)
    omega
  have s1 := (H3.out.setV P2.out ho 0 (.int .i64 an)).setV (heap_set P2.out 0 (.int .i64 an)) ho 1 (.bool az)
  have s2 := s1.setV (heap_set (heap_set P2.out 0 (.int .i64 an)) 1 (.bool az)) ho 2 (.int .i64 ah)
  have hBq : W0.heap.size ≤ w.heap.size + 1 := by omega
  exact ⟨_, rfl, s2, ((KB3.out.set (p := ⟨w.heap.size + 1, 0, none⟩) hBq _).set (p := ⟨w.heap.size + 1, 1, none⟩) hBq _).set (p := ⟨w.heap.size + 1, 2, none⟩) hBq _, ((T3.out.setN (Nat.le_succ _) 0 _).setN (Nat.le_succ _) 1 _).setN (Nat.le_succ _) 2 _, he2.out⟩
theorem popT_no {gv : Value} {L : List RT} {W0 w : World} {C : Nat} {lv fv ov : Value} {lo : List LO} {fr : List Int} {ops : List VT} {fs : List FV} {x : FV} {g c : Nat} (hG : GRP L W0 gv) (h : CHG gv W0.heap.size w C lv fv ov (.slice (some ⟨g, 0, none⟩) (fs.length + 1) c) lo fr ops (fs ++ [x])) (g0 : Grew W0 w) (hh : x.height ≤ ops.length) (tn th : Int) (tz : Bool) {r : Int × VT × List VT} (hp : popP x.height x.dead ops = r) (hr : r.1 = 0 ∧ matB L r.2.1 ⟨tn, tz, th⟩ = false) :
    Calls Tryz.prog 50 #[.pointer (some ⟨C, 0, none⟩), .agg #[.int .i64 tn, .bool tz, .int .i64 th]] w fun en w' => ∃ ov', en = .returned (.tuple #[VT0, .int .i64 131]) ∧ CHG gv W0.heap.size w' C lv fv ov' (.slice (some ⟨g, 0, none⟩) (fs.length + 1) c) lo fr ops (fs ++ [x]) ∧ KB W0.heap.size w w' ∧ Two C NILS w w' ∧ ov'.ownBlock = ov.ownBlock := by
  obtain ⟨E, hE⟩ : ∃ E : Int, E = 131 := ⟨_, rfl⟩
  rw [← hE]
  have HE : Hid (E = 131) := hE
  clear hE
  obtain ⟨rE, rV, rO⟩ := r
  obtain ⟨an, az, ah⟩ := rV
  simp only at hr
  have C1 : Hid (∀ W, Grew w W → Calls Tryz.prog 49 #[.pointer (some ⟨C, 0, none⟩)] W fun en w' => en = .returned (.bool false) ∧ w' = W) := fun W gg => zeroMk (h.grew gg)
  have C2 : Hid (∀ W, Grew w W → Calls Tryz.prog 62 #[.pointer (some ⟨C, 0, none⟩)] W fun en w' => ∃ ov', en = .returned (.tuple #[.agg #[.int .i64 an, .bool az, .int .i64 ah], .int .i64 rE]) ∧ CHG gv W0.heap.size w' C lv fv ov' (.slice (some ⟨g, 0, none⟩) (fs.length + 1) c) lo fr rO (fs ++ [x]) ∧ KB W0.heap.size W w' ∧ Two C NILS W w' ∧ ov'.ownBlock = ov.ownBlock) := fun W gg => by
    have := popA (h.grew gg) hh
    rwa [hp] at this
  have C3 : Hid (∀ W, Grew W0 W → W.cell? ⟨C, 1, none⟩ = some gv → Calls Tryz.prog 95 #[.pointer (some ⟨C, 0, none⟩), .agg #[.int .i64 an, .bool az, .int .i64 ah], .agg #[.int .i64 tn, .bool tz, .int .i64 th]] W fun en w' => en = .returned (.bool (matB L ⟨an, az, ah⟩ ⟨tn, tz, th⟩)) ∧ Grew W w') := fun W gg hc => matchesG hG gg hc ⟨an, az, ah⟩ ⟨tn, tz, th⟩
  have c5 := h.c5
  obtain ⟨oa, oc, hov⟩ := row_one h.rops
  subst hov
  have hCl := h.lt
  have hBC := h.base
  have HR : Hid (RowV W0.heap.size w (.slice oa ops.length oc) ops) := h.rops
  have hNo : Hid (NoT w C 46) := h.noV.1
  have hlow : Hid (∀ g', (Value.slice oa ops.length oc).ownBlock = some g' → g' < w.heap.size) := fun g' hg => (World.ownsRow.lt h.rops g' hg).2
  clear h hp hh
  obtain ⟨rfl, hm⟩ := hr
  rw [hm] at C3
  have g0' := g0
  clear hm hG g0
  go_enter Tryz.func50, Tryz.ntmps50
  obtain ⟨q, hq⟩ : ∃ q, q = w.heap.size := ⟨_, rfl⟩
  have HQ : Hid (q = w.heap.size) := hq
  go_wp2_with fail
  refine wp_scope_jumps 0 (fun a' w' => (∃ ov6 ops6, Hid (CHG gv W0.heap.size w' C lv fv ov6 (.slice (some ⟨g, 0, none⟩) (fs.length + 1) c) lo fr ops6 (fs ++ [x])) ∧ Hid (KB W0.heap.size w w') ∧ Hid (Two C NILS w w') ∧ Hid (RowV W0.heap.size w' (.slice oa ops.length oc) ops) ∧ Hid (w'.heap[q + 1]? = some (.cells #[.int .i64 0, .bool false, .int .i64 0] 46 (0, 0))) ∧ Hid (w'.heap[q + 2]? = some (.cells #[.slice oa ops.length oc] 58 (0, 0)))) ∧ ∃ v1 v2 v3 v5 v7 v9 v10 v11 v12 v13 v14 v15 v16 v17 v18 v19 v20 v21 v22 v23 v24 v25 v26 v27 v28 v29 v30 v31 v32 v33 v34 : Value, a' = { tmps := #[.pointer (some ⟨C, 0, none⟩), v1, v2, v3, .pointer (some ⟨q + 1, 0, none⟩), v5, .pointer (some ⟨q + 2, 0, none⟩), v7, .int .i64 E, v9, v10, v11, v12, v13, v14, v15, v16, v17, v18, v19, v20, v21, v22, v23, v24, v25, v26, v27, v28, v29, v30, v31, v32, v33, v34], defers := [] }) (fun _ _ => 0) rfl ?_ ?_
  rotate_left
  · rintro a' w' ⟨⟨ov6, ops6, H6, HB6, HT6, R6, M26, M36⟩, v1, v2, v3, v5, v7, v9, v10, v11, v12, v13, v14, v15, v16, v17, v18, v19, v20, v21, v22, v23, v24, v25, v26, v27, v28, v29, v30, v31, v32, v33, v34, rfl⟩
    have z5 := H6.out.z 5
    have c56 := H6.out.c5
    have hC6 := H6.out.lt
    have p0 := cell_of M36.out 0
    have n0 := cell_of M26.out 0
    have n1 := cell_of M26.out 1
    have n2 := cell_of M26.out 2
    have z0 := free_of M26.out 0
    have z1 := free_of M26.out 1
    have z2 := free_of M26.out 2
    simp at p0 n0 n1 n2
    have hl6 := lt_of_obj M26.out
    have hl7 := lt_of_obj M36.out
    have hqC : C < q := by rw [HQ.out]; exact hCl
    have hne : C ≠ q + 1 := by omega
    have hne2 : q + 1 ≠ C := by omega
    clear C3 hq
    go_wp2_with fail
    simp only [Exit.jump]
    refine bodyPost_ret (v := .tuple #[.agg #[.int .i64 0, .bool false, .int .i64 0], .int .i64 E]) (by simp [results, Tryz.results50, go_sem, n0, n1, n2, hne, hne2]) rfl ?_
    have ho : ∀ g', (Value.slice oa ops.length oc).ownBlock = some g' → g' ≠ q + 1 := fun g' hg => by
      have := hlow.out g' hg
      rw [HQ.out]; omega
    have s0 := H6.out.set5 R6.out
    have M0 : (w'.setCell ⟨C, 5, none⟩ (.slice oa ops.length oc)).heap[q + 1]? = some (.cells #[.int .i64 0, .bool false, .int .i64 0] 46 (0, 0)) := heap_other M26.out hne2 _
    have s1 := (s0.setV M0 ho 0 (.int .i64 0)).setV (heap_set M0 0 (.int .i64 0)) ho 1 (.bool false)
    have s2 := s1.setV (heap_set (heap_set M0 0 (.int .i64 0)) 1 (.bool false)) ho 2 (.int .i64 0)
    have hBq : W0.heap.size ≤ q + 1 := by omega
    refine ⟨_, rfl, s2, (((HB6.out.set (p := ⟨C, 5, none⟩) hBC _).set (p := ⟨q + 1, 0, none⟩) hBq _).set (p := ⟨q + 1, 1, none⟩) hBq _).set (p := ⟨q + 1, 2, none⟩) hBq _, ?_, rfl⟩
    have t0 : Two C NILS w (w'.setCell ⟨C, 5, none⟩ (.slice oa ops.length oc)) := fun y hy hC hv => by rw [Below.heap_setCell _ _ _ _ (by simpa using hC)]; exact HT6.out y hy hC hv
    have hwq : w.heap.size ≤ q + 1 := by rw [HQ.out]; omega
    exact ((t0.setN hwq 0 _).setN hwq 1 _).setN hwq 2 _
  clear hq
  go_wp2_with fail
  refine (C1.out _ (((Grew.refl w).alloc _).alloc _)).mono ?_
  rintro en w1 ⟨rfl, hw⟩
  obtain rfl := hw.symm
  clear hw
  go_wp2_with fail
  obtain ⟨w1, hw1⟩ : ∃ w1, w1 = ((w.alloc (.cells #[.int .i64 tn, .bool tz, .int .i64 th] 46)).alloc (.cells #[.int .i64 0, .bool false, .int .i64 0] 46)).alloc (.cells #[.slice oa ops.length oc] 58) := ⟨_, rfl⟩
  have G1 : Hid (Grew w w1) := by rw [hw1]; exact (((Grew.refl w).alloc _).alloc _).alloc _
  have N1 : Hid (w1.heap[w.heap.size]? = some (.cells #[.int .i64 tn, .bool tz, .int .i64 th] 46 (0, 0))) := by rw [hw1]; exact heap_alloc (heap_alloc (heap_alloc_last _ _) _) _
  have N2 : Hid (w1.heap[w.heap.size + 1]? = some (.cells #[.int .i64 0, .bool false, .int .i64 0] 46 (0, 0))) := by
    rw [hw1]
    have := heap_alloc_last (w.alloc (.cells #[.int .i64 tn, .bool tz, .int .i64 th] 46)) (.cells #[.int .i64 0, .bool false, .int .i64 0] 46)
    rw [alloc_size] at this
    exact heap_alloc this _
  have N3 : Hid (w1.heap[w.heap.size + 2]? = some (.cells #[.slice oa ops.length oc] 58 (0, 0))) := by
    rw [hw1]
    have := heap_alloc_last ((w.alloc (.cells #[.int .i64 tn, .bool tz, .int .i64 th] 46)).alloc (.cells #[.int .i64 0, .bool false, .int .i64 0] 46)) (.cells #[.slice oa ops.length oc] 58)
    rw [alloc_size, alloc_size] at this
    exact this
  rw [← hw1]
  clear hw1
  refine (C2.out _ G1.out).mono ?_
  rintro en w2 ⟨ov2, rfl, K2, B2, T2, e2⟩
  have H2 := Hid.mk' K2
  have KB2 : Hid (KB W0.heap.size w w2) := KB.trans (G1.out.kb (Nat.le_of_lt (Nat.lt_of_le_of_lt hBC hCl))) B2
  have T2' : Hid (Two C NILS w w2) := Two.after G1.out T2
  have R2 : Hid (RowV W0.heap.size w2 (.slice oa ops.length oc) ops) := row_two HR.out T2'.out hNo.out (fun g' hg => by cases hg)
  have M1 := Hid.mk' (T2.obj N1.out (by omega))
  have M2 := Hid.mk' (T2.obj N2.out (by omega))
  have M3 := Hid.mk' (T2.obj N3.out (by omega))
  have he2 := Hid.mk' e2
  have GW2 : Hid (Grew W0 w2) := KB.grew g0' KB2.out
  have v0 := cell_of M1.out 0
  have v1 := cell_of M1.out 1
  have v2 := cell_of M1.out 2
  simp at v0 v1 v2
  have hl1 := lt_of_obj M1.out
  clear K2 B2 T2 e2 C1 C2 N1 N2 N3 G1 c5 HR
  have cg := H2.out.c1
  go_wp2_with fail
  refine (C3.out _ (GW2.out.alloc _) (cell_grew cg ((Grew.refl _).alloc _))).mono ?_
  rintro en w3 ⟨rfl, g3⟩
  obtain ⟨gg, hl3, p0, p1, p2, _, _, _⟩ := fresh3 g3
  have H3 := Hid.mk' (H2.out.grew gg)
  have P2 := Hid.mk' ((gg.turn []).other M2.out (by simp))
  have P3 := Hid.mk' ((gg.turn []).other M3.out (by simp))
  have R3 : Hid (RowV W0.heap.size w3 (.slice oa ops.length oc) ops) := row_grew R2.out gg
  have KB3 : Hid (KB W0.heap.size w w3) := KB.trans KB2.out (gg.kb GW2.out.2)
  have T3 : Hid (Two C NILS w w3) := Two.comp T2'.out KB2.out.2 (fun y hy _ _ => gg.1.block y hy)
  clear g3 gg C3 M1 M2 v0 v1 v2 cg
  go_wp2_with fail
  go_step3
  obtain rfl := HE.out
  obtain rfl := HQ.out
  exact ⟨rfl, ⟨ov2, _, H3, KB3, T3, R3, P2, P3⟩, _, _, _, _, _, _, _, _, _, _, _, _, _, _, _, _, _, _, _, _, _, _, _, _, _, _, _, _, _, _, _, rfl⟩
theorem popT_un {gv : Value} {L : List RT} {W0 w : World} {C : Nat} {lv fv ov : Value} {lo : List LO} {fr : List Int} {ops : List VT} {fs : List FV} {x : FV} {g c : Nat} (hG : GRP L W0 gv) (h : CHG gv W0.heap.size w C lv fv ov (.slice (some ⟨g, 0, none⟩) (fs.length + 1) c) lo fr ops (fs ++ [x])) (g0 : Grew W0 w) (hh : x.height ≤ ops.length) (tn th : Int) (tz : Bool) {r : Int × VT × List VT} (hp : popP x.height x.dead ops = r) (hr : r.1 = 130) :
    Calls Tryz.prog 50 #[.pointer (some ⟨C, 0, none⟩), .agg #[.int .i64 tn, .bool tz, .int .i64 th]] w fun en w' => ∃ ov', en = .returned (.tuple #[VT0, .int .i64 130]) ∧ CHG gv W0.heap.size w' C lv fv ov' (.slice (some ⟨g, 0, none⟩) (fs.length + 1) c) lo fr ops (fs ++ [x]) ∧ KB W0.heap.size w w' ∧ Two C NILS w w' ∧ ov'.ownBlock = ov.ownBlock := by
  obtain ⟨E, hE⟩ : ∃ E : Int, E = 130 := ⟨_, rfl⟩
  rw [← hE]
  have HE : Hid (E = 130) := hE
  clear hE
  obtain ⟨rE, rV, rO⟩ := r
  obtain ⟨an, az, ah⟩ := rV
  simp only at hr
  have C1 : Hid (∀ W, Grew w W → Calls Tryz.prog 49 #[.pointer (some ⟨C, 0, none⟩)] W fun en w' => en = .returned (.bool false) ∧ w' = W) := fun W gg => zeroMk (h.grew gg)
  have C2 : Hid (∀ W, Grew w W → Calls Tryz.prog 62 #[.pointer (some ⟨C, 0, none⟩)] W fun en w' => ∃ ov', en = .returned (.tuple #[.agg #[.int .i64 an, .bool az, .int .i64 ah], .int .i64 rE]) ∧ CHG gv W0.heap.size w' C lv fv ov' (.slice (some ⟨g, 0, none⟩) (fs.length + 1) c) lo fr rO (fs ++ [x]) ∧ KB W0.heap.size W w' ∧ Two C NILS W w' ∧ ov'.ownBlock = ov.ownBlock) := fun W gg => by
    have := popA (h.grew gg) hh
    rwa [hp] at this
  have C3 : Hid (∀ W, Grew W0 W → W.cell? ⟨C, 1, none⟩ = some gv → Calls Tryz.prog 95 #[.pointer (some ⟨C, 0, none⟩), .agg #[.int .i64 an, .bool az, .int .i64 ah], .agg #[.int .i64 tn, .bool tz, .int .i64 th]] W fun en w' => en = .returned (.bool (matB L ⟨an, az, ah⟩ ⟨tn, tz, th⟩)) ∧ Grew W w') := fun W gg hc => matchesG hG gg hc ⟨an, az, ah⟩ ⟨tn, tz, th⟩
  have c5 := h.c5
  obtain ⟨oa, oc, hov⟩ := row_one h.rops
  subst hov
  have hCl := h.lt
  have hBC := h.base
  have HR : Hid (RowV W0.heap.size w (.slice oa ops.length oc) ops) := h.rops
  have hNo : Hid (NoT w C 46) := h.noV.1
  have hlow : Hid (∀ g', (Value.slice oa ops.length oc).ownBlock = some g' → g' < w.heap.size) := fun g' hg => (World.ownsRow.lt h.rops g' hg).2
  clear h hp hh
  subst hr
  have g0' := g0
  clear hG g0
  go_enter Tryz.func50, Tryz.ntmps50
  obtain ⟨q, hq⟩ : ∃ q, q = w.heap.size := ⟨_, rfl⟩
  have HQ : Hid (q = w.heap.size) := hq
  go_wp2_with fail
  refine wp_scope_jumps 0 (fun a' w' => (∃ ov6 ops6, Hid (CHG gv W0.heap.size w' C lv fv ov6 (.slice (some ⟨g, 0, none⟩) (fs.length + 1) c) lo fr ops6 (fs ++ [x])) ∧ Hid (KB W0.heap.size w w') ∧ Hid (Two C NILS w w') ∧ Hid (RowV W0.heap.size w' (.slice oa ops.length oc) ops) ∧ Hid (w'.heap[q + 1]? = some (.cells #[.int .i64 0, .bool false, .int .i64 0] 46 (0, 0))) ∧ Hid (w'.heap[q + 2]? = some (.cells #[.slice oa ops.length oc] 58 (0, 0)))) ∧ ∃ v1 v2 v3 v5 v7 v9 v10 v11 v12 v13 v14 v15 v16 v17 v18 v19 v20 v21 v22 v23 v24 v25 v26 v27 v28 v29 v30 v31 v32 v33 v34 : Value, a' = { tmps := #[.pointer (some ⟨C, 0, none⟩), v1, v2, v3, .pointer (some ⟨q + 1, 0, none⟩), v5, .pointer (some ⟨q + 2, 0, none⟩), v7, .int .i64 E, v9, v10, v11, v12, v13, v14, v15, v16, v17, v18, v19, v20, v21, v22, v23, v24, v25, v26, v27, v28, v29, v30, v31, v32, v33, v34], defers := [] }) (fun _ _ => 0) rfl ?_ ?_
  rotate_left
  · rintro a' w' ⟨⟨ov6, ops6, H6, HB6, HT6, R6, M26, M36⟩, v1, v2, v3, v5, v7, v9, v10, v11, v12, v13, v14, v15, v16, v17, v18, v19, v20, v21, v22, v23, v24, v25, v26, v27, v28, v29, v30, v31, v32, v33, v34, rfl⟩
    have z5 := H6.out.z 5
    have c56 := H6.out.c5
    have hC6 := H6.out.lt
    have p0 := cell_of M36.out 0
    have n0 := cell_of M26.out 0
    have n1 := cell_of M26.out 1
    have n2 := cell_of M26.out 2
    have z0 := free_of M26.out 0
    have z1 := free_of M26.out 1
    have z2 := free_of M26.out 2
    simp at p0 n0 n1 n2
    have hl6 := lt_of_obj M26.out
    have hl7 := lt_of_obj M36.out
    have hqC : C < q := by rw [HQ.out]; exact hCl
    have hne : C ≠ q + 1 := by omega
    have hne2 : q + 1 ≠ C := by omega
    clear C3 hq
    go_wp2_with fail
    simp only [Exit.jump]
    refine bodyPost_ret (v := .tuple #[.agg #[.int .i64 0, .bool false, .int .i64 0], .int .i64 E]) (by simp [results, Tryz.results50, go_sem, n0, n1, n2, hne, hne2]) rfl ?_
    have ho : ∀ g', (Value.slice oa ops.length oc).ownBlock = some g' → g' ≠ q + 1 := fun g' hg => by
      have := hlow.out g' hg
      rw [HQ.out]; omega
    have s0 := H6.out.set5 R6.out
    have M0 : (w'.setCell ⟨C, 5, none⟩ (.slice oa ops.length oc)).heap[q + 1]? = some (.cells #[.int .i64 0, .bool false, .int .i64 0] 46 (0, 0)) := heap_other M26.out hne2 _
    have s1 := (s0.setV M0 ho 0 (.int .i64 0)).setV (heap_set M0 0 (.int .i64 0)) ho 1 (.bool false)
    have s2 := s1.setV (heap_set (heap_set M0 0 (.int .i64 0)) 1 (.bool false)) ho 2 (.int .i64 0)
    have hBq : W0.heap.size ≤ q + 1 := by omega
    refine ⟨_, rfl, s2, (((HB6.out.set (p := ⟨C, 5, none⟩) hBC _).set (p := ⟨q + 1, 0, none⟩) hBq _).set (p := ⟨q + 1, 1, none⟩) hBq _).set (p := ⟨q + 1, 2, none⟩) hBq _, ?_, rfl⟩
    have t0 : Two C NILS w (w'.setCell ⟨C, 5, none⟩ (.slice oa ops.length oc)) := fun y hy hC hv => by rw [Below.heap_setCell _ _ _ _ (by simpa using hC)]; exact HT6.out y hy hC hv
    have hwq : w.heap.size ≤ q + 1 := by rw [HQ.out]; omega
    exact ((t0.setN hwq 0 _).setN hwq 1 _).setN hwq 2 _
  clear hq
  go_wp2_with fail
  refine (C1.out _ (((Grew.refl w).alloc _).alloc _)).mono ?_
  rintro en w1 ⟨rfl, hw⟩
  obtain rfl := hw.symm
  clear hw
  go_wp2_with fail
  obtain ⟨w1, hw1⟩ : ∃ w1, w1 = ((w.alloc (.cells #[.int .i64 tn, .bool tz, .int .i64 th] 46)).alloc (.cells #[.int .i64 0, .bool false, .int .i64 0] 46)).alloc (.cells #[.slice oa ops.length oc] 58) := ⟨_, rfl⟩
  have G1 : Hid (Grew w w1) := by rw [hw1]; exact (((Grew.refl w).alloc _).alloc _).alloc _
  have N1 : Hid (w1.heap[w.heap.size]? = some (.cells #[.int .i64 tn, .bool tz, .int .i64 th] 46 (0, 0))) := by rw [hw1]; exact heap_alloc (heap_alloc (heap_alloc_last _ _) _) _
  have N2 : Hid (w1.heap[w.heap.size + 1]? = some (.cells #[.int .i64 0, .bool false, .int .i64 0] 46 (0, 0))) := by
    rw [hw1]
    have := heap_alloc_last (w.alloc (.cells #[.int .i64 tn, .bool tz, .int .i64 th] 46)) (.cells #[.int .i64 0, .bool false, .int .i64 0] 46)
    rw [alloc_size] at this
    exact heap_alloc this _
  have N3 : Hid (w1.heap[w.heap.size + 2]? = some (.cells #[.slice oa ops.length oc] 58 (0, 0))) := by
    rw [hw1]
    have := heap_alloc_last ((w.alloc (.cells #[.int .i64 tn, .bool tz, .int .i64 th] 46)).alloc (.cells #[.int .i64 0, .bool false, .int .i64 0] 46)) (.cells #[.slice oa ops.length oc] 58)
    rw [alloc_size, alloc_size] at this
    exact this
  rw [← hw1]
  clear hw1
  refine (C2.out _ G1.out).mono ?_
  rintro en w2 ⟨ov2, rfl, K2, B2, T2, e2⟩
  have H2 := Hid.mk' K2
  have KB2 : Hid (KB W0.heap.size w w2) := KB.trans (G1.out.kb (Nat.le_of_lt (Nat.lt_of_le_of_lt hBC hCl))) B2
  have T2' : Hid (Two C NILS w w2) := Two.after G1.out T2
  have R2 : Hid (RowV W0.heap.size w2 (.slice oa ops.length oc) ops) := row_two HR.out T2'.out hNo.out (fun g' hg => by cases hg)
  have M1 := Hid.mk' (T2.obj N1.out (by omega))
  have M2 := Hid.mk' (T2.obj N2.out (by omega))
  have M3 := Hid.mk' (T2.obj N3.out (by omega))
  have he2 := Hid.mk' e2
  have GW2 : Hid (Grew W0 w2) := KB.grew g0' KB2.out
  have v0 := cell_of M1.out 0
  have v1 := cell_of M1.out 1
  have v2 := cell_of M1.out 2
  simp at v0 v1 v2
  have hl1 := lt_of_obj M1.out
  clear K2 B2 T2 e2 C1 C2 N1 N2 N3 G1 c5 HR
  go_wp2_with fail
  have gg : Grew w2 (w2.alloc (.cells #[.int .i64 an, .bool az, .int .i64 ah] 46)) := (Grew.refl _).alloc _
  have H3 := Hid.mk' (H2.out.grew gg)
  have P2 := Hid.mk' ((gg.turn []).other M2.out (by simp))
  have P3 := Hid.mk' ((gg.turn []).other M3.out (by simp))
  have R3 : Hid (RowV W0.heap.size _ (.slice oa ops.length oc) ops) := row_grew R2.out gg
  have KB3 : Hid (KB W0.heap.size w _) := KB.trans KB2.out (gg.kb GW2.out.2)
  have T3 : Hid (Two C NILS w _) := Two.comp T2'.out KB2.out.2 (fun y hy _ _ => gg.1.block y hy)
  go_step3
  obtain rfl := HE.out
  obtain rfl := HQ.out
  exact ⟨rfl, ⟨ov2, _, H3, KB3, T3, R3, P2, P3⟩, _, _, _, _, _, _, _, _, _, _, _, _, _, _, _, _, _, _, _, _, _, _, _, _, _, _, _, _, _, _, _, rfl⟩
def popTP (m : VT → VT → Bool) (h : Nat) (dead : Bool) (ops : List VT) (t : VT) : Int × VT × List VT :=
  if (popP h dead ops).1 = 0 then (if m (popP h dead ops).2.1 t then popP h dead ops else (131, vt0k, ops)) else (130, vt0k, ops)
theorem popP_err (h : Nat) (dead : Bool) (ops : List VT) : (popP h dead ops).1 = 0 ∨ (popP h dead ops).1 = 130 := by
  unfold popP
  split
  · exact Or.inl rfl
  · split
    · exact Or.inl rfl
    · exact Or.inr rfl
theorem popP_le {h : Nat} {dead : Bool} {ops : List VT} (hh : h ≤ ops.length) : h ≤ (popP h dead ops).2.2.length := by
  unfold popP
  split
  · simp; omega
  · split <;> exact hh
theorem popTypeA {gv : Value} {L : List RT} {W0 w : World} {C : Nat} {lv fv ov : Value} {lo : List LO} {fr : List Int} {ops : List VT} {fs : List FV} {x : FV} {g c : Nat} (hG : GRP L W0 gv) (h : CHG gv W0.heap.size w C lv fv ov (.slice (some ⟨g, 0, none⟩) (fs.length + 1) c) lo fr ops (fs ++ [x])) (g0 : Grew W0 w) (hh : x.height ≤ ops.length) (t : VT) :
    Calls Tryz.prog 50 #[.pointer (some ⟨C, 0, none⟩), t.v] w fun en w' => ∃ ov', en = .returned (.tuple #[(popTP (matB L) x.height x.dead ops t).2.1.v, .int .i64 (popTP (matB L) x.height x.dead ops t).1]) ∧ CHG gv W0.heap.size w' C lv fv ov' (.slice (some ⟨g, 0, none⟩) (fs.length + 1) c) lo fr (popTP (matB L) x.height x.dead ops t).2.2 (fs ++ [x]) ∧ KB W0.heap.size w w' ∧ Two C NILS w w' ∧ ov'.ownBlock = ov.ownBlock := by
  obtain ⟨tn, tz, th⟩ := t
  unfold popTP
  rcases popP_err x.height x.dead ops with h0 | h0
  · rw [if_pos h0]
    cases hm : matB L (popP x.height x.dead ops).2.1 ⟨tn, tz, th⟩ with
    | true =>
      rw [if_pos rfl, h0]
      exact popT_ok hG h g0 hh tn th tz rfl ⟨h0, hm⟩
    | false =>
      rw [if_neg (by simp)]
      exact popT_no hG h g0 hh tn th tz rfl ⟨h0, hm⟩
  · rw [if_neg (by rw [h0]; decide)]
    exact popT_un hG h g0 hh tn th tz rfl h0
end Go.Proofs.YtnmbniojejckpaaGreatDoor
