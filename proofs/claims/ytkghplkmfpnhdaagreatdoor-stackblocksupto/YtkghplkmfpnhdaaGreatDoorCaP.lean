/-
  Pop, PopType and Pops where the rest is not reached; no statement is proved here.
-/
import Derived.Test.YtkghplkmfpnhdaaGreatDoorCaC
import Derived.Test.YtkghplkmfpnhdaaGreatDoorCkW
namespace Go.Proofs.YtkghplkmfpnhdaaGreatDoor
open Go.RowKit
set_option linter.unusedVariables false
set_option linter.unusedSimpArgs false

abbrev VT0 : Value := .agg #[.int .i64 0, .bool false, .int .i64 0]
theorem fresh3 {w w1 : World} {t : TypeId} {a b c : Value} (g : Grew (w.alloc (.cells #[a, b, c] t)) w1) :
    Grew w w1 ∧ w.heap.size < w1.heap.size ∧ w1.cell? ⟨w.heap.size, 0, none⟩ = some a ∧ w1.cell? ⟨w.heap.size, 1, none⟩ = some b ∧ w1.cell? ⟨w.heap.size, 2, none⟩ = some c ∧
    w1.frozen? ⟨w.heap.size, 0, none⟩ = false ∧ w1.frozen? ⟨w.heap.size, 1, none⟩ = false ∧ w1.frozen? ⟨w.heap.size, 2, none⟩ = false := by
  have B1 := (g.turn []).other (heap_alloc_last w (.cells #[a, b, c] t)) (by simp)
  refine ⟨((Grew.refl w).alloc _).trans g, lt_of_obj B1, ?_, ?_, ?_, free_of B1 0, free_of B1 1, free_of B1 2⟩
  · rw [cell_of B1]; rfl
  · rw [cell_of B1]; rfl
  · rw [cell_of B1]; rfl
set_option maxRecDepth 100000 in
theorem matchesD {C : Nat} {tn th : Int} {tz : Bool} {w : World} : Calls Tryz.prog 48 #[.pointer (some ⟨C, 0, none⟩), VT0, .agg #[.int .i64 tn, .bool tz, .int .i64 th]] w fun en w' => en = .returned (.bool true) ∧ Grew w w' := by
  go_enter Tryz.func48, Tryz.ntmps48
  go_wp2_with fail
  obtain ⟨w1, hw1⟩ : ∃ w1, w1 = (w.alloc (.cells #[.int .i64 0, .bool false, .int .i64 0] 44)).alloc (.cells #[.int .i64 tn, .bool tz, .int .i64 th] 44) := ⟨_, rfl⟩
  have G1 : Hid (Grew w w1) := by rw [hw1]; exact ((Grew.refl w).alloc _).alloc _
  have N1 : w1.heap[w.heap.size]? = some (.cells #[.int .i64 0, .bool false, .int .i64 0] 44 (0, 0)) := by rw [hw1]; exact heap_alloc (heap_alloc_last _ _) _
  rw [← hw1]
  clear hw1
  have hb := lt_of_obj N1
  have c0 := cell_of N1 0
  simp at c0
  clear N1
  refine wp_region_ck [(w.heap.size, 0, .int .i64 0)] (by kernel_rfl) (by kernel_rfl) ⟨⟨hb, c0⟩, trivial⟩ ?_
  repeat (first
    | go_big_quiet_skip
    | (go_big_quiet_want
       go_big_quiet_op
       first
       | go_big_quiet_on
       | (refine ⟨_, fun _ _ => rfl, ?_⟩; go_big_quiet_on)
       | (refine ⟨.int .i64 0, fun w' hw' => ?_, ?_⟩
          · (obtain ⟨_, ⟨_, hc0⟩, _⟩ := hw'; go_simp; done)
          go_big_quiet_on)))
  refine wpQuiet_nil ?_
  rintro w6 ⟨g6, _⟩
  have G6 : Hid (Grew w w6) := G1.out.trans g6
  clear g6
  go_wp2_with fail
  go_ret
  exact ⟨rfl, G6.out⟩
theorem call_top (p : Value) (w : World) : (callFunc 36 #[p]).run Tryz.prog w = .ok (.enter 36 #[p]) w := by kernel_rfl
theorem call_heightV (p : Value) (w : World) : (callFunc 35 #[p]).run Tryz.prog w = .ok (.enter 35 #[p]) w := by kernel_rfl
theorem step_top {ops' : Array Oper} {o : Oper} {a : Act} {w : World} {K : Act → World → Prop} {Q : Exit → Act → World → Prop} {E : Prop} (x : Operand) {p v : Value} (h : Calls Tryz.prog 36 #[p] w fun en w' => en = .returned v ∧ Grew w w') {t1 : TypeId}
    (hop : o.op = .call { callee := .value (.func 36), args := #[x], argTypes := #[t1] }) (hg : o.guard = none) (hx : a.eval x = p)
    (hk : ∀ w', Grew w w' → K (a.put o.dst v) w') :
    if Region.wanted o (yielded ops' a.tmps) = true then Oper.wp Tryz.prog o a w K Q else E :=
  step_callF hop (by simp [Region.wanted, hg]) (args := #[p]) (by simp [hx]) (call_top _ w) h (by rintro e w' ⟨rfl, h1⟩; exact Or.inl ⟨_, rfl, hk w' h1⟩)
theorem step_heightV {ops' : Array Oper} {o : Oper} {a : Act} {w : World} {K : Act → World → Prop} {Q : Exit → Act → World → Prop} {E : Prop} (x : Operand) {p v : Value} (h : Calls Tryz.prog 35 #[p] w fun en w' => en = .returned v ∧ w' = w) {t1 : TypeId}
    (hop : o.op = .call { callee := .value (.func 35), args := #[x], argTypes := #[t1] }) (hg : o.guard = none) (hx : a.eval x = p)
    (hk : K (a.put o.dst v) w) :
    if Region.wanted o (yielded ops' a.tmps) = true then Oper.wp Tryz.prog o a w K Q else E :=
  step_callF hop (by simp [Region.wanted, hg]) (args := #[p]) (by simp [hx]) (call_heightV _ w) h (by rintro e w' ⟨rfl, rfl⟩; exact Or.inl ⟨_, rfl, hk⟩)
set_option maxRecDepth 100000 in
set_option maxHeartbeats 1000000 in
theorem popD {B : Nat} {w : World} {C : Nat} {lv fv ov : Value} {lo : List LO} {fr : List Int} {ops : List VT} {fs : List FV} {x : FV} {g c : Nat} (h : CK B w C lv fv ov (.slice (some ⟨g, 0, none⟩) (fs.length + 1) c) lo fr ops (fs ++ [x])) (hd : x.dead = true) (hh : ops.length = x.height) :
    Calls Tryz.prog 21 #[.pointer (some ⟨C, 0, none⟩)] w fun en w' => en = .returned (.tuple #[VT0, .int .i64 0]) ∧ Grew w w' := by
  have C1 : Hid (∀ W, Grew w W → Calls Tryz.prog 34 #[.pointer (some ⟨C, 0, none⟩)] W fun en w' => en = .returned (.bool false) ∧ w' = W) := fun W gg => zeroM (h.grew gg)
  have C2 : Hid (∀ W, Grew w W → Calls Tryz.prog 36 #[.pointer (some ⟨C, 0, none⟩)] W fun en w' => en = .returned x.v ∧ Grew W w') := fun W gg => topM (h.grew gg)
  have C3 : Hid (∀ W, Grew w W → Calls Tryz.prog 35 #[.pointer (some ⟨C, 5, none⟩)] W fun en w' => en = .returned (.int .i64 (ops.length : Int)) ∧ w' = W) := fun W gg => heightV_any (h.grew gg)
  obtain ⟨⟨ia, il, ic, hi⟩, ⟨oa, ol, oc, ho⟩⟩ := h.sl x (by simp)
  obtain ⟨op, inn, out, hx, ff, dd⟩ := x
  simp only at hi ho hd hh
  subst hi ho hd hh
  rw [FV.isAgg] at C2
  simp only at C2
  clear h
  generalize ops.length = N at *
  go_enter Tryz.func21, Tryz.ntmps21
  go_wp2_with fail
  refine (C1.out _ ((Grew.refl w).alloc _)).mono ?_
  rintro en w1 ⟨rfl, hw⟩
  obtain rfl := hw.symm
  go_wp2_with fail
  obtain ⟨w1, hw1⟩ : ∃ w1, w1 = w.alloc (.cells #[.int .i64 0, .bool false, .int .i64 0] 44) := ⟨_, rfl⟩
  have G1 : Hid (Grew w w1) := by rw [hw1]; exact (Grew.refl w).alloc _
  have N1 : Hid (w1.heap[w.heap.size]? = some (.cells #[.int .i64 0, .bool false, .int .i64 0] 44 (0, 0))) := by rw [hw1]; exact heap_alloc_last _ _
  rw [← hw1]
  clear hw1
  have hl1 := lt_of_obj N1.out
  go_region_law (first
    | (refine step_top (.tmp 10) (C2.out _ (G1.out.trans (by repeat (first | with_reducible exact Grew.refl _ | refine Grew.alloc ?_ _ | refine Grew.drewN ?_ _ | refine Grew.drew ?_)))) rfl rfl rfl ?_
       intro w2 g2
       have g2' : Grew w1 w2 := Grew.trans (by repeat (first | with_reducible exact Grew.refl _ | refine Grew.alloc ?_ _ | refine Grew.drewN ?_ _ | refine Grew.drew ?_)) g2
       have G2 := Hid.mk' (G1.out.trans g2')
       have N2 := Hid.mk' ((g2'.turn []).other N1.out (by simp))
       first
       | (have gz : Grew (w1.alloc (.cells #[.int .i64 0, NILS, NILS, .int .i64 0, .int .i64 0, .bool false] 73)) w2 := (by first | exact g2 | exact ((Grew.refl _).drew).trans g2 | exact ((Grew.refl _).drewN _).trans g2)
          obtain ⟨_, hlz, Bz⟩ := fresh6 gz
          obtain ⟨⟨s0, s1, s2, s3, s4, s5⟩, r0, r1, r2, r3, r4, r5⟩ := six Bz
          clear gz Bz)
       | skip
       clear g2 g2')
    | (refine step_heightV (.tmp 14) (C3.out _ (Grew.trans G2.out (by repeat (first | with_reducible exact Grew.refl _ | refine Grew.alloc ?_ _ | refine Grew.drewN ?_ _ | refine Grew.drew ?_)))) rfl rfl rfl ?_))
  all_goals
    have n0 := cell_of N2.out 0
    have n1 := cell_of N2.out 1
    have n2 := cell_of N2.out 2
    have z0 := free_of N2.out 0
    have z1 := free_of N2.out 1
    have z2 := free_of N2.out 2
    simp at n0 n1 n2
    have hl2 := lt_of_obj N2.out
    clear C1 C2 C3
    go_wp2_with fail
    refine bodyPost_ret (v := .tuple #[VT0, .int .i64 0]) (by simp [results, Tryz.results21, go_sem, n0, n1, n2, hl2, Nat.ne_of_lt hl2, Nat.ne_of_gt hl2]) rfl ?_
    refine ⟨rfl, ?_⟩
    repeat (first | with_reducible exact G2.out | refine Grew.set ?_ (by first | exact Nat.le_refl _ | (have := G1.out.2; simp; omega)) _ | refine Grew.alloc ?_ _ | refine Grew.drewN ?_ _ | refine Grew.drew ?_)
end Go.Proofs.YtkghplkmfpnhdaaGreatDoor
