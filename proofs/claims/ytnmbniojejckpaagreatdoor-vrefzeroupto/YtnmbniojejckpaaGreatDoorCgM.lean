/-
  Pop where nothing lies above the frame's height; whether an operand matches; no statement is proved here.
-/
import Derived.Test.YtnmbniojejckpaaGreatDoorCgP
import Derived.BigQuiet
set_option maxRecDepth 100000
set_option maxHeartbeats 8000000
namespace Go.Proofs.YtnmbniojejckpaaGreatDoor
open Go.RowKit
set_option linter.unusedVariables false
set_option linter.unusedSimpArgs false
variable {G : Value → Prop}
theorem popU {B : Nat} {w : World} {C : Nat} {lv fv ov : Value} {lo : List LO} {fr : List Int} {ops : List VT} {fs : List FV} {x : FV} {g c : Nat} (h : CHK G B w C lv fv ov (.slice (some ⟨g, 0, none⟩) (fs.length + 1) c) lo fr ops (fs ++ [x])) (hd : x.dead = false) (hh : ops.length = x.height) :
    Calls Tryz.prog 62 #[.pointer (some ⟨C, 0, none⟩)] w fun en w' => en = .returned (.tuple #[VT0, .int .i64 130]) ∧ Grew w w' := by
  have C1 : Hid (∀ W, Grew w W → Calls Tryz.prog 49 #[.pointer (some ⟨C, 0, none⟩)] W fun en w' => en = .returned (.bool false) ∧ w' = W) := fun W gg => zeroMk (h.grew gg)
  have C2 : Hid (∀ W, Grew w W → Calls Tryz.prog 99 #[.pointer (some ⟨C, 0, none⟩)] W fun en w' => en = .returned x.v ∧ Grew W w') := fun W gg => topM (h.grew gg)
  have C3 : Hid (∀ W, Grew w W → Calls Tryz.prog 100 #[.pointer (some ⟨C, 5, none⟩)] W fun en w' => en = .returned (.int .i64 (ops.length : Int)) ∧ w' = W) := fun W gg => heightV_any (h.grew gg)
  obtain ⟨⟨ia, il, ic, hi⟩, ⟨oa, ol, oc, ho⟩⟩ := h.sl x (by simp)
  obtain ⟨op, inn, out, hx, ff, dd⟩ := x
  simp only at hi ho hd hh
  subst hi ho hd hh
  rw [FV.isAgg] at C2
  simp only at C2
  clear h
  generalize ops.length = N at *
  go_enter Tryz.func62, Tryz.ntmps62
  go_wp2_with fail
  refine (C1.out _ ((Grew.refl w).alloc _)).mono ?_
  rintro en w1 ⟨rfl, hw⟩
  obtain rfl := hw.symm
  go_wp2_with fail
  obtain ⟨w1, hw1⟩ : ∃ w1, w1 = w.alloc (.cells #[.int .i64 0, .bool false, .int .i64 0] 46) := ⟨_, rfl⟩
  have G1 : Hid (Grew w w1) := by rw [hw1]; exact (Grew.refl w).alloc _
  have N1 : Hid (w1.heap[w.heap.size]? = some (.cells #[.int .i64 0, .bool false, .int .i64 0] 46 (0, 0))) := by rw [hw1]; exact heap_alloc_last _ _
  rw [← hw1]
  clear hw1
  have hl1 := lt_of_obj N1.out
  go_region_law (first
    | (refine step_top (.tmp 10) (C2.out _ (G1.out.trans (by repeat (first | with_reducible exact Grew.refl _ | refine Grew.alloc ?_ _ | refine Grew.drewN ?_ _ | refine Grew.drew ?_)))) rfl rfl rfl ?_
       intro w2 g2
       have g2' : Grew w1 w2 := Grew.trans (by repeat (first | with_reducible exact Grew.refl _ | refine Grew.alloc ?_ _ | refine Grew.drewN ?_ _ | refine Grew.drew ?_)) g2
       have G2 := Hid.mk' (G1.out.trans g2')
       have N2 := Hid.mk' ((g2'.turn []).other N1.out (by simp))
       first
       | (have gz : Grew (w1.alloc (.cells #[.int .i64 0, NILS, NILS, .int .i64 0, .int .i64 0, .bool false] 80)) w2 := (by first | exact g2 | exact ((Grew.refl _).drew).trans g2 | exact ((Grew.refl _).drewN _).trans g2)
          obtain ⟨_, hlz, Bz⟩ := fresh6 gz
          obtain ⟨⟨s0, s1, s2, s3, s4, s5⟩, r0, r1, r2, r3, r4, r5⟩ := six Bz
          clear gz Bz)
       | skip
       clear g2 g2')
    | (refine step_heightV (.tmp 14) (C3.out _ (Grew.trans G2.out (by repeat (first | with_reducible exact Grew.refl _ | refine Grew.alloc ?_ _ | refine Grew.drewN ?_ _ | refine Grew.drew ?_)))) rfl rfl rfl ?_))
  all_goals
    have n0 := cell_of N2.out 0
    have n1 := cell_of N2.out 1
    have n2 := cell_of N2.out 2
    have z0 := free_of N2.out 0
    have z1 := free_of N2.out 1
    have z2 := free_of N2.out 2
    simp at n0 n1 n2
    have hl2 := lt_of_obj N2.out
    clear C1 C2 C3
    go_wp2_with fail
    refine bodyPost_ret (v := .tuple #[VT0, .int .i64 130]) (by simp [results, Tryz.results62, go_sem, n0, n1, n2, hl2, Nat.ne_of_lt hl2, Nat.ne_of_gt hl2]) rfl ?_
    refine ⟨rfl, ?_⟩
    repeat (first | with_reducible exact G2.out | refine Grew.set ?_ (by first | exact Nat.le_refl _ | (have := G1.out.2; simp; omega)) _ | refine Grew.alloc ?_ _ | refine Grew.drewN ?_ _ | refine Grew.drew ?_)
def vt0k : VT := ⟨0, false, 0⟩
/- What Pop does: the error, the type, the operands behind it. -/
def popP (h : Nat) (dead : Bool) (ops : List VT) : Int × VT × List VT :=
  if h < ops.length then (0, ops.getLast?.getD vt0k, ops.dropLast) else if dead then (0, vt0k, ops) else (130, vt0k, ops)
theorem popA {B : Nat} {w : World} {C : Nat} {lv fv ov : Value} {lo : List LO} {fr : List Int} {ops : List VT} {fs : List FV} {x : FV} {g c : Nat} (h : CHK G B w C lv fv ov (.slice (some ⟨g, 0, none⟩) (fs.length + 1) c) lo fr ops (fs ++ [x])) (hh : x.height ≤ ops.length) :
    Calls Tryz.prog 62 #[.pointer (some ⟨C, 0, none⟩)] w fun en w' => ∃ ov', en = .returned (.tuple #[(popP x.height x.dead ops).2.1.v, .int .i64 (popP x.height x.dead ops).1]) ∧ CHK G B w' C lv fv ov' (.slice (some ⟨g, 0, none⟩) (fs.length + 1) c) lo fr (popP x.height x.dead ops).2.2 (fs ++ [x]) ∧ KB B w w' ∧ Two C NILS w w' ∧ ov'.ownBlock = ov.ownBlock := by
  have hBw : B ≤ w.heap.size := by have := h.base; have := h.lt; omega
  by_cases hl : x.height < ops.length
  · obtain ⟨l, a, rfl⟩ : ∃ l a, ops = l ++ [a] := ⟨ops.dropLast, ops.getLast (by intro e; rw [e] at hl; simp at hl), (List.dropLast_concat_getLast _).symm⟩
    have e : popP x.height x.dead (l ++ [a]) = (0, a, l) := by
      unfold popP
      rw [if_pos hl]
      simp
    have hl2 : x.height ≤ l.length := by rw [List.length_append] at hl; simp at hl; omega
    rw [e]
    exact popG h hl2
  · have hq : ops.length = x.height := by omega
    cases hd : x.dead with
    | true =>
      have e : popP x.height true ops = (0, vt0k, ops) := by unfold popP; rw [if_neg hl, if_pos rfl]
      rw [e]
      refine (popD h hd hq).mono ?_
      rintro en w' ⟨rfl, g'⟩
      exact ⟨ov, rfl, h.grew g', g'.kb hBw, fun y hy _ _ => g'.1.block y hy, rfl⟩
    | false =>
      have e : popP x.height false ops = (130, vt0k, ops) := by unfold popP; rw [if_neg hl, if_neg (by simp)]
      rw [e]
      refine (popU h hd hq).mono ?_
      rintro en w' ⟨rfl, g'⟩
      exact ⟨ov, rfl, h.grew g', g'.kb hBw, fun y hy _ _ => g'.1.block y hy, rfl⟩
/- The groups that the checker's cell names, in a world ahead of it. -/
structure GRP (L : List RT) (W0 : World) (gv : Value) : Prop where
  lr : LR W0 gv L
  fit : Fit L
  tab : Tab W0
def matB (L : List RT) (a b : VT) : Bool := (a.num == 0) || ((b.num == 0) || valS L a b)
abbrev CHG (gv : Value) : Nat → World → Nat → Value → Value → Value → Value → List LO → List Int → List VT → List FV → Prop := CHK (fun v => v = gv)
theorem CHG.c1 {gv : Value} {B : Nat} {w : World} {C : Nat} {lv fv ov qv : Value} {lo : List LO} {fr : List Int} {ops : List VT} {fs : List FV} (h : CHG gv B w C lv fv ov qv lo fr ops fs) : w.cell? ⟨C, 1, none⟩ = some gv := by
  obtain ⟨g', rv, ⟨_, hg⟩, b, c⟩ := h.obj
  rw [cell_of c, ← hg]; rfl
theorem matchesG {gv : Value} {L : List RT} {W0 w : World} {C : Nat} (hG : GRP L W0 gv) (g : Grew W0 w) (c1 : w.cell? ⟨C, 1, none⟩ = some gv) (a b : VT) :
    Calls Tryz.prog 95 #[.pointer (some ⟨C, 0, none⟩), a.v, b.v] w fun en w' => en = .returned (.bool (matB L a b)) ∧ Grew w w' := by
  have CS : Hid (∀ X, Grew w X → Calls Tryz.prog 87 #[gv, a.v, b.v] X fun en w' => en = .returned (.bool (valS L a b)) ∧ Grew X w') := fun X gx => subVal_any (hG.lr.grew (g.trans gx)) hG.fit (hG.tab.grew (g.trans gx)) a b
  obtain ⟨ga, gc, hgv, _⟩ := hG.lr.one
  subst hgv
  have hCl := block_lt_of_cell c1
  clear hG g
  obtain ⟨an, az, ah⟩ := a
  obtain ⟨bn, bz, bh⟩ := b
  unfold matB
  unfold VT.v at *
  simp only at *
  generalize valS L ⟨an, az, ah⟩ ⟨bn, bz, bh⟩ = R at *
  generalize L.length = n at *
  obtain ⟨V, hV⟩ : ∃ V, V = ((an == 0) || ((bn == 0) || R)) := ⟨_, rfl⟩
  rw [← hV]
  have HV : Hid (V = ((an == 0) || ((bn == 0) || R))) := hV
  clear hV
  go_enter Tryz.func95, Tryz.ntmps95
  go_wp2_with fail
  obtain ⟨w0, hw0⟩ : ∃ w0, w0 = (w.alloc (.cells #[.int .i64 an, .bool az, .int .i64 ah] 46)).alloc (.cells #[.int .i64 bn, .bool bz, .int .i64 bh] 46) := ⟨_, rfl⟩
  have G0 : Hid (Grew w w0) := by rw [hw0]; exact ((Grew.refl w).alloc _).alloc _
  have N0 : w0.heap[w.heap.size]? = some (.cells #[.int .i64 an, .bool az, .int .i64 ah] 46 (0, 0)) := by rw [hw0]; exact heap_alloc (heap_alloc_last _ _) _
  have N1 : w0.heap[w.heap.size + 1]? = some (.cells #[.int .i64 bn, .bool bz, .int .i64 bh] 46 (0, 0)) := by
    rw [hw0]
    have := heap_alloc_last (w.alloc (.cells #[.int .i64 an, .bool az, .int .i64 ah] 46)) (.cells #[.int .i64 bn, .bool bz, .int .i64 bh] 46)
    rw [alloc_size] at this
    exact this
  rw [← hw0]
  clear hw0
  have a0 := cell_of N0 0
  have a1 := cell_of N0 1
  have a2 := cell_of N0 2
  have b0 := cell_of N1 0
  have b1 := cell_of N1 1
  have b2 := cell_of N1 2
  simp at a0 a1 a2 b0 b1 b2
  have h0 := lt_of_obj N0
  have h1 := lt_of_obj N1
  have k1 := cell_grew c1 G0.out
  have hC0 : C < w0.heap.size := Nat.lt_of_lt_of_le hCl G0.out.2
  clear N0 N1 c1 hCl
  generalize w.heap.size = q at *
  by_cases hn : an = 0
  · have d1 : (an == 0) = true := by simp [hn]
    subst hn
    refine wp_region_ck [(q, 0, .int .i64 0)] (by kernel_rfl) (by kernel_rfl) ⟨⟨h0, a0⟩, trivial⟩ ?_
    repeat (first
      | go_big_quiet_skip
      | (go_big_quiet_want
         go_big_quiet_op
         first
         | go_big_quiet_on
         | (refine ⟨_, fun _ _ => rfl, ?_⟩; go_big_quiet_on)
         | (refine ⟨.int .i64 0, fun w' hw' => ?_, ?_⟩
            · (obtain ⟨_, ⟨_, hc0⟩, _⟩ := hw'; go_simp; done)
            go_big_quiet_on)))
    refine wpQuiet_nil ?_
    rintro w6 ⟨g6, _⟩
    have G6 : Hid (Grew w w6) := G0.out.trans g6
    clear g6
    go_wp2_with fail
    go_ret
    exact ⟨by rw [HV.out]; rfl, G6.out⟩
  · have d1 : (an == 0) = false := by simp [hn]
    by_cases hm : bn = 0
    · have d2 : (bn == 0) = true := by simp [hm]
      subst hm
      clear hn
      refine wp_region_ck [(q, 0, .int .i64 an), (q + 1, 0, .int .i64 0)] (by kernel_rfl) (by kernel_rfl) ⟨⟨h0, a0⟩, ⟨h1, b0⟩, trivial⟩ ?_
      repeat (first
        | go_big_quiet_skip
        | (go_big_quiet_want
           go_big_quiet_op
           first
           | (refine ⟨.bool false, fun w' hw' => ?_, ?_⟩
              · (go_simp; done)
              go_big_quiet_on)
           | go_big_quiet_on
           | (refine ⟨_, fun _ _ => rfl, ?_⟩; go_big_quiet_on)
           | (refine ⟨.int .i64 an, fun w' hw' => ?_, ?_⟩
              · (obtain ⟨_, ⟨_, hc0⟩, ⟨_, hc1⟩, _⟩ := hw'; go_simp; done)
              go_big_quiet_on)
           | (refine ⟨.int .i64 0, fun w' hw' => ?_, ?_⟩
              · (obtain ⟨_, ⟨_, hc0⟩, ⟨_, hc1⟩, _⟩ := hw'; go_simp; done)
              go_big_quiet_on)))
      refine wpQuiet_nil ?_
      rintro w6 ⟨g6, _⟩
      have G6 : Hid (Grew w w6) := G0.out.trans g6
      clear g6
      go_wp2_with fail
      go_ret
      exact ⟨by rw [HV.out, d1]; rfl, G6.out⟩
    · have d2 : (bn == 0) = false := by simp [hm]
      clear hn hm
      refine wp_region_ck [(q, 0, .int .i64 an), (q, 1, .bool az), (q, 2, .int .i64 ah), (q + 1, 0, .int .i64 bn), (q + 1, 1, .bool bz), (q + 1, 2, .int .i64 bh), (C, 1, .slice ga n gc)] (by kernel_rfl) (by kernel_rfl) ⟨⟨h0, a0⟩, ⟨h0, a1⟩, ⟨h0, a2⟩, ⟨h1, b0⟩, ⟨h1, b1⟩, ⟨h1, b2⟩, ⟨hC0, k1⟩, trivial⟩ ?_
      repeat (first
        | go_big_quiet_skip
        | (go_big_quiet_want
           go_big_quiet_op
           first
           | (apply Exists.intro
              refine ⟨fun w' hw' => ?_, ?_⟩
              · exact hw'.call (CS.out _ (G0.out.trans hw'.1))
              go_big_quiet_on)
           | (refine ⟨.bool false, fun w' hw' => ?_, ?_⟩
              · (go_simp; done)
              go_big_quiet_on)
           | go_big_quiet_on
           | (refine ⟨_, fun _ _ => rfl, ?_⟩; go_big_quiet_on)
           | (refine ⟨.int .i64 an, fun w' hw' => ?_, ?_⟩
              · (obtain ⟨_, ⟨_, e0⟩, ⟨_, e1⟩, ⟨_, e2⟩, ⟨_, e3⟩, ⟨_, e4⟩, ⟨_, e5⟩, ⟨_, e6⟩, _⟩ := hw'; go_simp; done)
              go_big_quiet_on)
           | (refine ⟨.int .i64 bn, fun w' hw' => ?_, ?_⟩
              · (obtain ⟨_, ⟨_, e0⟩, ⟨_, e1⟩, ⟨_, e2⟩, ⟨_, e3⟩, ⟨_, e4⟩, ⟨_, e5⟩, ⟨_, e6⟩, _⟩ := hw'; go_simp; done)
              go_big_quiet_on)
           | (refine ⟨.slice ga n gc, fun w' hw' => ?_, ?_⟩
              · (obtain ⟨_, ⟨_, e0⟩, ⟨_, e1⟩, ⟨_, e2⟩, ⟨_, e3⟩, ⟨_, e4⟩, ⟨_, e5⟩, ⟨_, e6⟩, _⟩ := hw'; go_simp; done)
              go_big_quiet_on)
           | (refine ⟨.agg #[.int .i64 an, .bool az, .int .i64 ah], fun w' hw' => ?_, ?_⟩
              · (obtain ⟨_, ⟨_, e0⟩, ⟨_, e1⟩, ⟨_, e2⟩, ⟨_, e3⟩, ⟨_, e4⟩, ⟨_, e5⟩, ⟨_, e6⟩, _⟩ := hw'; go_simp; done)
              go_big_quiet_on)
           | (refine ⟨.agg #[.int .i64 bn, .bool bz, .int .i64 bh], fun w' hw' => ?_, ?_⟩
              · (obtain ⟨_, ⟨_, e0⟩, ⟨_, e1⟩, ⟨_, e2⟩, ⟨_, e3⟩, ⟨_, e4⟩, ⟨_, e5⟩, ⟨_, e6⟩, _⟩ := hw'; go_simp; done)
              go_big_quiet_on)))
      refine wpQuiet_nil ?_
      rintro w6 ⟨g6, _⟩
      have G6 : Hid (Grew w w6) := G0.out.trans g6
      clear g6
      go_wp2_with fail
      all_goals
        go_ret
        exact ⟨by rw [HV.out, d1, d2]; rfl, G6.out⟩
end Go.Proofs.YtnmbniojejckpaaGreatDoor
