/-
  Pop and PopType of a checker in memory, whatever lies on its operands; no statement is proved here.
-/
import Derived.Test.YtnmbniojejckpaaGreatDoorRgL
import Derived.Test.YtnmbniojejckpaaGreatDoorSvT
set_option maxRecDepth 100000
set_option maxHeartbeats 8000000
namespace Go.Proofs.YtnmbniojejckpaaGreatDoor
open Go.RowKit
set_option linter.unusedVariables false
set_option linter.unusedSimpArgs false
variable {G : Value → Prop}
theorem Two.setN {C : Nat} {v : Value} {w w' : World} (h : Two C v w w') {N : Nat} (hN : w.heap.size ≤ N) (j : Nat) (u : Value) : Two C v w (w'.setCell ⟨N, j, none⟩ u) := fun x hx hC hv => by
  rw [Below.heap_setCell _ _ _ _ (by show x ≠ N; omega)]; exact h x hx hC hv
theorem Two.after {C : Nat} {v : Value} {w w1 w' : World} (g : Grew w w1) (h : Two C v w1 w') : Two C v w w' := fun x hx hC hv => (h x (Nat.lt_of_lt_of_le hx g.2) hC hv).trans (g.1.block x hx)
theorem Two.comp {C : Nat} {v : Value} {w w1 w' : World} (h : Two C v w w1) (hs : w.heap.size ≤ w1.heap.size) (k : Two C v w1 w') : Two C v w w' := fun x hx hC hv => (k x (Nat.lt_of_lt_of_le hx hs) hC hv).trans (h x hx hC hv)
theorem Two.obj {C : Nat} {w w' : World} (h : Two C NILS w w') {b : Nat} {o : Obj} (hb : w.heap[b]? = some o) (hne : b ≠ C) : w'.heap[b]? = some o := (h b (lt_of_obj hb) hne (by simp [Value.ownBlock])).trans hb
theorem RowV.last {B : Nat} {w : World} {v : Value} {l : List VT} {x : VT} (h : RowV B w v (l ++ [x])) : ∃ g c, v = .slice (some ⟨g, 0, none⟩) (l.length + 1) c ∧ l.length + 1 ≤ c ∧ c ≤ maxLen ∧ ∀ j, j < 3 → w.cell? ⟨g, l.length * 3 + j, none⟩ = (VT.c x)[j]? := by
  have h0 := h
  obtain ⟨hl, ⟨_, h3⟩ | ⟨g, cap, cur, hv', hB, hg, h3, h4, h5, h6⟩⟩ := h
  · simp at h3
  · have hl2 : (l ++ [x]).length = l.length + 1 := by simp
    rw [hl2] at hv' h3
    refine ⟨g, cap, hv', h3, h4, fun j hj => ?_⟩
    rw [hv'] at h0
    unfold RowV at h0
    rw [hl2] at h0
    have := h0.cellAt (l.length * 3 + j) (by omega)
    rw [this]
    exact flat_at VT.c 3 (fun _ => rfl) (l ++ [x]) l.length x j (by simp) hj
theorem nthV_any {B : Nat} {w : World} {C : Nat} {lv fv qv : Value} {lo : List LO} {fr : List Int} {ops : List VT} {a : VT} {fs : List FV} {g c : Nat} (h : CHK G B w C lv fv (.slice (some ⟨g, 0, none⟩) (ops.length + 1) c) qv lo fr (ops ++ [a]) fs) :
    Calls Tryz.prog 101 #[.pointer (some ⟨C, 5, none⟩), .int .i64 0] w fun en w' => en = .returned (.pointer (some ⟨g, ops.length * 3, none⟩)) ∧ Grew w w' := by
  have c6 := h.c5
  obtain ⟨g', c', hv, hle, hmx, _⟩ := RowV.last h.rops
  have hml : ops.length + 1 ≤ 9223372036854775807 := by have := hmx; simp [maxLen] at this; omega
  obtain ⟨N, hN⟩ : ∃ N, ops.length + 1 = N := ⟨_, rfl⟩
  rw [hN] at c6
  have e1 : IntKind.i64.wrap ((N : Int) - 1) = (ops.length : Int) := by rw [IntKind.wrap_i64]; omega
  have e2 : (N : Int) - 1 = (ops.length : Int) := by omega
  have e3 : IntKind.i64.wrap ((ops.length : Int)) = (ops.length : Int) := by rw [IntKind.wrap_i64]; omega
  have d1 : decide (ops.length < N) = true := by simp; omega
  have d2 : decide ((ops.length : Int) < (N : Int)) = true := by simp; omega
  have d3 : (ops.length : Int) < (N : Int) := by omega
  have d4 : ops.length < N := by omega
  clear hN hml
  clear h hv hle hmx
  go_enter Tryz.func101, Tryz.ntmps101
  go_wp2_with fail
  go_quiet (fail)
  go_wp2_with fail
  go_ret
  exact ⟨rfl, (Grew.refl w).drewN _⟩
theorem popG {B : Nat} {w : World} {C : Nat} {lv fv ov : Value} {lo : List LO} {fr : List Int} {ops : List VT} {a : VT} {fs : List FV} {x : FV} {g c : Nat} (h : CHK G B w C lv fv ov (.slice (some ⟨g, 0, none⟩) (fs.length + 1) c) lo fr (ops ++ [a]) (fs ++ [x])) (hh : x.height ≤ ops.length) :
    Calls Tryz.prog 62 #[.pointer (some ⟨C, 0, none⟩)] w fun en w' => ∃ ov', en = .returned (.tuple #[.agg #[.int .i64 a.num, .bool a.null, .int .i64 a.heap], .int .i64 0]) ∧ CHK G B w' C lv fv ov' (.slice (some ⟨g, 0, none⟩) (fs.length + 1) c) lo fr ops (fs ++ [x]) ∧ KB B w w' ∧ Two C NILS w w' ∧ ov'.ownBlock = ov.ownBlock := by
  obtain ⟨og, oc, hov, hole, homx, hocell⟩ := RowV.last h.rops
  subst hov
  have hml : ops.length + 1 ≤ 9223372036854775807 := by have := homx; simp [maxLen] at this; omega
  have C1 : Hid (∀ W, Grew w W → Calls Tryz.prog 49 #[.pointer (some ⟨C, 0, none⟩)] W fun en w' => en = .returned (.bool false) ∧ w' = W) := fun W gg => zeroMk (h.grew gg)
  have C2 : Hid (∀ W, Grew w W → Calls Tryz.prog 99 #[.pointer (some ⟨C, 0, none⟩)] W fun en w' => en = .returned x.v ∧ Grew W w') := fun W gg => topM (h.grew gg)
  have C3 : Hid (∀ W, Grew w W → Calls Tryz.prog 100 #[.pointer (some ⟨C, 5, none⟩)] W fun en w' => en = .returned (.int .i64 (((ops.length + 1 : Nat)) : Int)) ∧ w' = W) := fun W gg => by
    have := heightV_any (h.grew gg)
    rwa [List.length_append] at this
  have C4 : Hid (∀ W, Grew w W → Calls Tryz.prog 101 #[.pointer (some ⟨C, 5, none⟩), .int .i64 0] W fun en w' => en = .returned (.pointer (some ⟨og, ops.length * 3, none⟩)) ∧ Grew W w') := fun W gg => nthV_any (h.grew gg)
  have C5 : Hid (∀ W, Grew w W → Calls Tryz.prog 102 #[.pointer (some ⟨C, 5, none⟩), .int .i64 (ops.length : Int)] W fun en w' => ∃ v', en = .returned (.tuple #[]) ∧ CHK G B w' C lv fv v' (.slice (some ⟨g, 0, none⟩) (fs.length + 1) c) lo fr ops (fs ++ [x]) ∧ KB B W w' ∧ Two C NILS W w' ∧ v'.ownBlock = (Value.slice (some ⟨og, 0, none⟩) (ops.length + 1) oc).ownBlock) := fun W gg => by
    have := cutV_any (m := ops.length) (h.grew gg) (by simp)
    rwa [List.take_left] at this
  have hCl := h.lt
  have hBw : B ≤ w.heap.size := by have := h.base; omega
  have k0 := hocell 0 (by omega)
  have k1 := hocell 1 (by omega)
  have k2 := hocell 2 (by omega)
  obtain ⟨⟨ia, il, ic, hi⟩, ⟨oa, ol, oc', ho⟩⟩ := h.sl x (by simp)
  obtain ⟨op, inn, out, hx, ff, dd⟩ := x
  simp only at hi ho hh
  subst hi ho
  rw [FV.isAgg] at C2
  simp only at C2
  obtain ⟨an, az, ah⟩ := a
  simp only [VT.c, List.getElem?_cons_zero, List.getElem?_cons_succ, Nat.add_zero] at k0 k1 k2
  have kl := block_lt_of_cell k0
  obtain ⟨N, hN⟩ : ∃ N, ops.length + 1 = N := ⟨_, rfl⟩
  rw [hN] at C3 C5 hml
  have e1 : IntKind.i64.wrap ((N : Int) - 1) = (ops.length : Int) := by rw [IntKind.wrap_i64]; omega
  have d1 : decide ((hx : Int) < (N : Int)) = true := by simp; omega
  have d2 : decide (hx < N) = true := by simp; omega
  have HF : Hid (isSl (.slice ia il ic)) := ⟨_, _, _, rfl⟩
  clear h hole homx hocell hml
  simp only
  go_enter Tryz.func62, Tryz.ntmps62
  go_wp2_with fail
  refine (C1.out _ ((Grew.refl w).alloc _)).mono ?_
  rintro en w1 ⟨rfl, hw⟩
  obtain rfl := hw.symm
  clear hw
  go_wp2_with fail
  obtain ⟨w1, hw1⟩ : ∃ w1, w1 = w.alloc (.cells #[.int .i64 0, .bool false, .int .i64 0] 46) := ⟨_, rfl⟩
  have G1 : Hid (Grew w w1) := by rw [hw1]; exact (Grew.refl w).alloc _
  have N1 : Hid (w1.heap[w.heap.size]? = some (.cells #[.int .i64 0, .bool false, .int .i64 0] 46 (0, 0))) := by rw [hw1]; exact heap_alloc_last _ _
  rw [← hw1]
  clear hw1
  have hl1 := lt_of_obj N1.out
  go_region_law (first
    | (refine step_top (.tmp 10) (C2.out _ (G1.out.trans (by repeat (first | with_reducible exact Grew.refl _ | refine Grew.alloc ?_ _ | refine Grew.drewN ?_ _ | refine Grew.drew ?_)))) rfl rfl rfl ?_
       intro w2 g2
       have g2' : Grew w1 w2 := Grew.trans (by repeat (first | with_reducible exact Grew.refl _ | refine Grew.alloc ?_ _ | refine Grew.drewN ?_ _ | refine Grew.drew ?_)) g2
       have G2 := Hid.mk' (G1.out.trans g2')
       have N2 := Hid.mk' ((g2'.turn []).other N1.out (by simp))
       first
       | (have gz : Grew (w1.alloc (.cells #[.int .i64 0, NILS, NILS, .int .i64 0, .int .i64 0, .bool false] 80)) w2 := (by first | exact g2 | exact ((Grew.refl _).drew).trans g2 | exact ((Grew.refl _).drewN _).trans g2)
          obtain ⟨_, hlz, Bz⟩ := fresh6 gz
          obtain ⟨⟨s0, s1, s2, s3, s4, s5⟩, r0, r1, r2, r3, r4, r5⟩ := six Bz
          clear gz Bz)
       | skip
       clear g2 g2')
    | (refine step_heightV (.tmp 14) (C3.out _ (Grew.trans G2.out (by repeat (first | with_reducible exact Grew.refl _ | refine Grew.alloc ?_ _ | refine Grew.drewN ?_ _ | refine Grew.drew ?_)))) rfl rfl rfl ?_))
  all_goals
    have n0 := cell_of N2.out 0
    have n1 := cell_of N2.out 1
    have n2 := cell_of N2.out 2
    have z0 := free_of N2.out 0
    have z1 := free_of N2.out 1
    have z2 := free_of N2.out 2
    simp at n0 n1 n2
    have hl2 := lt_of_obj N2.out
    clear C1 C2 C3 n0 n1 n2 z0 z1 z2
    go_wp2_with fail
    refine (C4.out _ ?gr).mono ?_
    case gr => repeat (first | with_reducible exact G2.out | refine Grew.set ?_ (by first | exact Nat.le_refl _ | (have := G1.out.2; simp; omega)) _ | refine Grew.alloc ?_ _ | refine Grew.drewN ?_ _ | refine Grew.drew ?_)
    rintro en w4 ⟨rfl, g4⟩
    have G4 : Hid (Grew w w4) := Grew.trans (by repeat (first | with_reducible exact G2.out | refine Grew.set ?_ (by first | exact Nat.le_refl _ | (have := G1.out.2; simp; omega)) _ | refine Grew.alloc ?_ _ | refine Grew.drewN ?_ _ | refine Grew.drew ?_)) g4
    have N4 : Hid (w4.heap[w.heap.size]? = some (.cells #[.int .i64 0, .bool false, .int .i64 0] 46 (0, 0))) := (g4.turn []).other (by repeat (first | with_reducible exact N2.out | with_reducible refine heap_alloc ?_ _ | with_reducible refine heap_other ?_ (by show w.heap.size ≠ w1.heap.size; omega) _)) (by simp)
    have m0 := cell_grew k0 G4.out
    have m1 := cell_grew k1 G4.out
    have m2 := cell_grew k2 G4.out
    have hl4 := lt_of_obj N4.out
    clear g4 C4 G2 N2 G1 N1 hl1
    go_wp2_with fail
    obtain ⟨w5, hw5⟩ : ∃ w5, w5 = w4.alloc (.cells #[.int .i64 an, .bool az, .int .i64 ah] 46) := ⟨_, rfl⟩
    have g5 : Grew w4 w5 := by rw [hw5]; exact (Grew.refl _).alloc _
    have N5 : Hid (w5.heap[w4.heap.size]? = some (.cells #[.int .i64 an, .bool az, .int .i64 ah] 46 (0, 0))) := by rw [hw5]; exact heap_alloc_last _ _
    have G5 : Hid (Grew w w5) := G4.out.trans g5
    have N45 : Hid (w5.heap[w.heap.size]? = some (.cells #[.int .i64 0, .bool false, .int .i64 0] 46 (0, 0))) := (g5.turn []).other N4.out (by simp)
    rw [← hw5]
    clear hw5 g5 m0 m1 m2 G4 N4
    refine (C5.out _ G5.out).mono ?_
    rintro en w6 ⟨v', rfl, K6, B6, T6, e6⟩
    have H6 := Hid.mk' K6
    have HB6 := Hid.mk' (KB.trans (G5.out.kb hBw) B6)
    have HT6 := Hid.mk' (Two.after G5.out T6)
    have N6 := Hid.mk' (T6.obj N5.out (by omega))
    have N46 := Hid.mk' (T6.obj N45.out (by omega))
    have he6 := Hid.mk' e6
    have n0 := cell_of N46.out 0
    have n1 := cell_of N46.out 1
    have n2 := cell_of N46.out 2
    have z0 := free_of N46.out 0
    have z1 := free_of N46.out 1
    have z2 := free_of N46.out 2
    have v0 := cell_of N6.out 0
    have v1 := cell_of N6.out 1
    have v2 := cell_of N6.out 2
    simp at n0 n1 n2 v0 v1 v2
    have hl6 := lt_of_obj N46.out
    have hl7 := lt_of_obj N6.out
    clear K6 B6 T6 e6 C5 N5 N45 G5
    go_wp2_with fail
    refine bodyPost_ret (v := .tuple #[.agg #[.int .i64 an, .bool az, .int .i64 ah], .int .i64 0]) (by simp [results, Tryz.results62, go_sem, n0, n1, n2]) rfl ?_
    have ho : ∀ g', v'.ownBlock = some g' → g' ≠ w.heap.size := fun g' hg => by
      rw [he6.out] at hg
      have hg2 : some og = some g' := hg
      injection hg2 with hg2
      omega
    have s1 := (H6.out.setV N46.out ho 0 (.int .i64 an)).setV (heap_set N46.out 0 (.int .i64 an)) ho 1 (.bool az)
    have s2 := s1.setV (heap_set (heap_set N46.out 0 (.int .i64 an)) 1 (.bool az)) ho 2 (.int .i64 ah)
    exact ⟨v', rfl, s2, ((HB6.out.set (p := ⟨w.heap.size, 0, none⟩) hBw _).set (p := ⟨w.heap.size, 1, none⟩) hBw _).set (p := ⟨w.heap.size, 2, none⟩) hBw _, ((HT6.out.setN (Nat.le_refl _) 0 _).setN (Nat.le_refl _) 1 _).setN (Nat.le_refl _) 2 _, he6.out⟩
end Go.Proofs.YtnmbniojejckpaaGreatDoor
