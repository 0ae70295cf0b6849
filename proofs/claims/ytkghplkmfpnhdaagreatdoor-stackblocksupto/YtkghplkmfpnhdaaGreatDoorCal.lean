/-
  The checker's calls on one that New made; no statement is proved here.
-/
import Derived.Test.YtkghplkmfpnhdaaGreatDoorPiL
import Derived.WalkMore
namespace Go.Proofs.YtkghplkmfpnhdaaGreatDoor
open Go.RowKit
set_option linter.unusedVariables false
set_option linter.unusedSimpArgs false

/- Rows of error numbers are as they were. -/
def KT (w w' : World) : Prop := ∀ (k : Nat) (cs : Array Value) (f : Nat × Nat), w.heap[k]? = some (.cells cs 30 f) → w'.heap[k]? = some (.cells cs 30 f)
theorem KT.refl (w : World) : KT w w := fun _ _ _ h => h
theorem KT.trans {a b c : World} (h : KT a b) (k : KT b c) : KT a c := fun x cs f hx => k x cs f (h x cs f hx)
theorem Grew.kt {w w' : World} (g : Grew w w') : KT w w' := fun x cs f hx => (g.turn []).other hx (by simp)
theorem Two.kt {C : Nat} {q : Value} {w w' : World} (t : Two C q w w') (hC : NoT w C 30) (hq : ∀ g, q.ownBlock = some g → NoT w g 30) : KT w w' := fun x cs f hx =>
  (t x (lt_of_obj hx) (fun h => hC _ _ (by rw [← h]; exact hx)) (fun h => hq x h.symm _ _ hx)).trans hx
theorem set_kt {w : World} {N j : Nat} {u : Value} (hN : NoT w N 30) : KT w (w.setCell ⟨N, j, none⟩ u) := fun x cs f hx => heap_other hx (fun h => hN _ _ (by have e : x = N := h; rw [← e]; exact hx)) u
theorem CK.noE {B : Nat} {w : World} {C : Nat} {lv fv ov qv : Value} {lo : List LO} {fr : List Int} {ops : List VT} {fs : List FV} (h : CK B w C lv fv ov qv lo fr ops fs) : NoT w C 30 ∧ (∀ g, lv.ownBlock = some g → NoT w g 30) ∧ (∀ g, fv.ownBlock = some g → NoT w g 30) ∧ (∀ g, ov.ownBlock = some g → NoT w g 30) ∧ ∀ g, qv.ownBlock = some g → NoT w g 30 := by
  obtain ⟨⟨gv, rv, a, b, co⟩, h1, h2, h3, h4, h5, h6⟩ := h
  exact ⟨NoT.of co (by decide), row_no h2 (by decide), row_no h3 (by decide), row_no h4 (by decide), row_no h5 (by decide)⟩
theorem RowKT {w w' : World} {B : Nat} {v : Value} {n : Nat} {cs : List Value} (h : w.ownsRow B 30 1 v n cs) (k : KT w w') : w'.ownsRow B 30 1 v n cs := by
  obtain ⟨h1, h2 | ⟨g, cap, cur, hv, hB, hg, h3⟩⟩ := h
  · exact ⟨h1, Or.inl h2⟩
  · exact ⟨h1, Or.inr ⟨g, cap, cur, hv, hB, k g _ _ hg, h3⟩⟩
set_option maxRecDepth 100000 in
theorem zeroM {B : Nat} {w : World} {C : Nat} {lv fv ov qv : Value} {lo : List LO} {fr : List Int} {ops : List VT} {fs : List FV} (h : CK B w C lv fv ov qv lo fr ops fs) :
    Calls Tryz.prog 34 #[.pointer (some ⟨C, 0, none⟩)] w fun en w' => en = .returned (.bool false) ∧ w' = w := by
  have c0 := h.c0
  clear h
  go_enter Tryz.func34, Tryz.ntmps34
  go_wp2_with fail
  go_ret
  exact ⟨rfl, rfl⟩
set_option maxRecDepth 100000 in
theorem openM {B : Nat} {w : World} {C : Nat} {lv fv ov qv : Value} {lo : List LO} {fr : List Int} {ops : List VT} {fs : List FV} (h : CK B w C lv fv ov qv lo fr ops fs) (hf : 0 < fs.length) :
    Calls Tryz.prog 31 #[.pointer (some ⟨C, 0, none⟩)] w fun en w' => en = .returned (.int .i64 0) ∧ w' = w := by
  have C1 := zeroM h
  have C2 := heightF_any h
  have d1 : ((fs.length : Int) == 0) = false := by rw [beq_eq_false_iff_ne]; omega
  clear h
  go_enter Tryz.func31, Tryz.ntmps31
  go_wp2_with fail
  refine C1.mono ?_
  rintro en w1 ⟨rfl, hw⟩
  obtain rfl := hw.symm
  go_wp2_with fail
  refine C2.mono ?_
  rintro en w1 ⟨rfl, hw⟩
  obtain rfl := hw.symm
  go_wp2_with fail
  go_ret
  exact ⟨rfl, rfl⟩
/- A block of six cells behind a call. -/
theorem fresh6 {w w1 : World} {t : TypeId} {a b c d e f : Value} (g : Grew (w.alloc (.cells #[a, b, c, d, e, f] t)) w1) :
    Grew w w1 ∧ w.heap.size < w1.heap.size ∧ w1.heap[w.heap.size]? = some (.cells #[a, b, c, d, e, f] t (0, 0)) := by
  have B1 := (g.turn []).other (heap_alloc_last w (.cells #[a, b, c, d, e, f] t)) (by simp)
  exact ⟨((Grew.refl w).alloc _).trans g, lt_of_obj B1, B1⟩
theorem six {w : World} {b : Nat} {x0 x1 x2 x3 x4 x5 : Value} {t : TypeId} (h : w.heap[b]? = some (.cells #[x0, x1, x2, x3, x4, x5] t (0, 0))) :
    (w.cell? ⟨b, 0, none⟩ = some x0 ∧ w.cell? ⟨b, 1, none⟩ = some x1 ∧ w.cell? ⟨b, 2, none⟩ = some x2 ∧ w.cell? ⟨b, 3, none⟩ = some x3 ∧ w.cell? ⟨b, 4, none⟩ = some x4 ∧ w.cell? ⟨b, 5, none⟩ = some x5) ∧
    (w.frozen? ⟨b, 0, none⟩ = false ∧ w.frozen? ⟨b, 1, none⟩ = false ∧ w.frozen? ⟨b, 2, none⟩ = false ∧ w.frozen? ⟨b, 3, none⟩ = false ∧ w.frozen? ⟨b, 4, none⟩ = false ∧ w.frozen? ⟨b, 5, none⟩ = false) := by
  refine ⟨⟨?_, ?_, ?_, ?_, ?_, ?_⟩, free_of h 0, free_of h 1, free_of h 2, free_of h 3, free_of h 4, free_of h 5⟩
  all_goals rw [cell_of h]; rfl
theorem FV.isAgg (x : FV) : x.v = .agg #[.int .i64 x.op, x.inn, x.out, .int .i64 x.height, .int .i64 x.fresh, .bool x.dead] := rfl
set_option maxRecDepth 100000 in
set_option maxHeartbeats 1000000 in
theorem topM {B : Nat} {w : World} {C : Nat} {lv fv ov : Value} {lo : List LO} {fr : List Int} {ops : List VT} {fs : List FV} {x : FV} {g c : Nat} (h : CK B w C lv fv ov (.slice (some ⟨g, 0, none⟩) (fs.length + 1) c) lo fr ops (fs ++ [x])) :
    Calls Tryz.prog 36 #[.pointer (some ⟨C, 0, none⟩)] w fun en w' => en = .returned x.v ∧ Grew w w' := by
  have C2 : Hid (∀ W, Grew w W → Calls Tryz.prog 43 #[.pointer (some ⟨C, 6, none⟩)] W fun en w' => en = .returned (.int .i64 (((fs ++ [x]).length : Nat) : Int)) ∧ w' = W) := fun W gg => heightF_any (h.grew gg)
  have C3 : Hid (∀ W, Grew w W → Calls Tryz.prog 32 #[.pointer (some ⟨C, 6, none⟩), .int .i64 0] W fun en w' => en = .returned (.pointer (some ⟨g, fs.length * 6, none⟩)) ∧ Grew W w') := fun W gg => nthF_any (h.grew gg)
  obtain ⟨g', c', hv, hle, hmx, _, ⟨cur, hcur⟩, hcells⟩ := h.rfs.last
  injection hv with e1 _ _
  injection e1 with e1
  injection e1 with e1 _ _
  subst e1
  have k0 := hcells 0 (by decide)
  have k1 := hcells 1 (by decide)
  have k2 := hcells 2 (by decide)
  have k3 := hcells 3 (by decide)
  have k4 := hcells 4 (by decide)
  have k5 := hcells 5 (by decide)
  obtain ⟨⟨ia, il, ic, hi⟩, ⟨oa, ol, oc, ho⟩⟩ := h.sl x (by simp)
  obtain ⟨op, inn, out, hh, ff, dd⟩ := x
  simp only at hi ho
  subst hi ho
  simp [FV.c] at k0 k1 k2 k3 k4 k5
  have hlen : ((fs ++ [(⟨op, .slice ia il ic, .slice oa ol oc, hh, ff, dd⟩ : FV)]).length : Int) = (fs.length : Int) + 1 := by simp
  simp only [List.length_append, List.length_cons, List.length_nil, Nat.zero_add, Int.natCast_add, Int.natCast_one] at C2
  have d1 : (((fs.length : Int) + 1) == 0) = false := by rw [beq_eq_false_iff_ne]; omega
  have hgl := lt_of_obj hcur
  have d2 : ¬ ((fs.length : Int) + 1 = 0) := by omega
  rw [FV.isAgg]
  simp only
  clear h hcells hcur hlen
  go_enter Tryz.func36, Tryz.ntmps36
  go_wp2_with fail
  refine (C2.out _ ((Grew.refl w).alloc _)).mono ?_
  rintro en w1 ⟨rfl, hw⟩
  obtain rfl := hw.symm
  go_wp2_with fail
  refine (C3.out _ ((Grew.refl w).alloc _)).mono ?_
  rintro en w2 ⟨rfl, g2⟩
  obtain ⟨gg, hl2, B2⟩ := fresh6 g2
  obtain ⟨⟨n0, n1, n2, n3, n4, n5⟩, z0, z1, z2, z3, z4, z5⟩ := six B2
  have G2 : Hid (Grew w w2) := gg
  replace k0 := cell_grew k0 gg
  replace k1 := cell_grew k1 gg
  replace k2 := cell_grew k2 gg
  replace k3 := cell_grew k3 gg
  replace k4 := cell_grew k4 gg
  replace k5 := cell_grew k5 gg
  clear g2 gg C2 C3 B2
  go_wp2_with fail
  refine bodyPost_ret (v := .agg #[.int .i64 op, .slice ia il ic, .slice oa ol oc, .int .i64 (hh : Int), .int .i64 (ff : Int), .bool dd]) (by simp [results, Tryz.results36, go_sem, n0, n1, n2, n3, n4, n5]) rfl ?_
  exact ⟨rfl, ((((((G2.out.set (p := ⟨w.heap.size, 0, none⟩) (Nat.le_refl _) _).set (p := ⟨w.heap.size, 1, none⟩) (Nat.le_refl _) _).set (p := ⟨w.heap.size, 2, none⟩) (Nat.le_refl _) _).set (p := ⟨w.heap.size, 3, none⟩) (Nat.le_refl _) _).set (p := ⟨w.heap.size, 4, none⟩) (Nat.le_refl _) _).set (p := ⟨w.heap.size, 5, none⟩) (Nat.le_refl _) _)⟩
set_option maxRecDepth 100000 in
theorem heightM {B : Nat} {w : World} {C : Nat} {lv fv ov qv : Value} {lo : List LO} {fr : List Int} {ops : List VT} {fs : List FV} (h : CK B w C lv fv ov qv lo fr ops fs) :
    Calls Tryz.prog 8 #[.pointer (some ⟨C, 0, none⟩)] w fun en w' => en = .returned (.int .i64 (ops.length : Int)) ∧ w' = w := by
  have C1 := zeroM h
  have C2 := heightV_any h
  clear h
  go_enter Tryz.func8, Tryz.ntmps8
  go_wp2_with fail
  refine C1.mono ?_
  rintro en w1 ⟨rfl, hw⟩
  obtain rfl := hw.symm
  go_wp2_with fail
  refine C2.mono ?_
  rintro en w1 ⟨rfl, hw⟩
  obtain rfl := hw.symm
  go_wp2_with fail
  go_ret
  exact ⟨rfl, rfl⟩
set_option maxRecDepth 100000 in
theorem depthM {B : Nat} {w : World} {C : Nat} {lv fv ov qv : Value} {lo : List LO} {fr : List Int} {ops : List VT} {fs : List FV} (h : CK B w C lv fv ov qv lo fr ops fs) :
    Calls Tryz.prog 15 #[.pointer (some ⟨C, 0, none⟩)] w fun en w' => en = .returned (.int .i64 (fs.length : Int)) ∧ w' = w := by
  have C1 := zeroM h
  have C2 := heightF_any h
  clear h
  go_enter Tryz.func15, Tryz.ntmps15
  go_wp2_with fail
  refine C1.mono ?_
  rintro en w1 ⟨rfl, hw⟩
  obtain rfl := hw.symm
  go_wp2_with fail
  refine C2.mono ?_
  rintro en w1 ⟨rfl, hw⟩
  obtain rfl := hw.symm
  go_wp2_with fail
  go_ret
  exact ⟨rfl, rfl⟩
theorem fld5 (op hh ff : Int) (a b : Value) (dd : Bool) (w : World) : (Instr.field 73 (.agg #[.int .i64 op, a, b, .int .i64 hh, .int .i64 ff, .bool dd]) 5).run Tryz.prog w = .ok (.bool dd) w := by kernel_rfl
set_option maxRecDepth 100000 in
theorem reachedM {B : Nat} {w : World} {C : Nat} {lv fv ov : Value} {lo : List LO} {fr : List Int} {ops : List VT} {fs : List FV} {x : FV} {g c : Nat} (h : CK B w C lv fv ov (.slice (some ⟨g, 0, none⟩) (fs.length + 1) c) lo fr ops (fs ++ [x])) :
    Calls Tryz.prog 9 #[.pointer (some ⟨C, 0, none⟩)] w fun en w' => en = .returned (.bool (!x.dead)) ∧ Grew w w' := by
  have C1 := zeroM h
  have C2 := topM h
  obtain ⟨⟨ia, il, ic, hi⟩, ⟨oa, ol, oc, ho⟩⟩ := h.sl x (by simp)
  obtain ⟨op, inn, out, hh, ff, dd⟩ := x
  simp only at hi ho
  subst hi ho
  rw [FV.isAgg] at C2
  simp only at C2 ⊢
  have hf := fld5 op hh ff (.slice ia il ic) (.slice oa ol oc) dd
  clear h
  go_enter Tryz.func9, Tryz.ntmps9
  go_wp2_with fail
  refine C1.mono ?_
  rintro en w1 ⟨rfl, hw⟩
  obtain rfl := hw.symm
  go_wp2_with fail
  refine C2.mono ?_
  rintro en w1 ⟨rfl, g1⟩
  have G1 := Hid.mk' g1
  clear g1
  go_wp2_with fail
  go_ret
  exact ⟨rfl, by repeat (first | with_reducible exact G1.out | refine Grew.alloc ?_ _ | refine Grew.drewN ?_ _)⟩
theorem flat_len (l : List FV) : (l.flatMap FV.c).length = l.length * 6 := by
  induction l with
  | nil => rfl
  | cons y l ih => rw [List.flatMap_cons, List.length_append, ih, List.length_cons]; simp [FV.c]; omega
/- The last frame's rest is not reached. -/
def FV.die (x : FV) : FV := ⟨x.op, x.inn, x.out, x.height, x.fresh, true⟩
theorem CK.die {B : Nat} {w : World} {C : Nat} {lv fv ov : Value} {lo : List LO} {fr : List Int} {ops : List VT} {fs : List FV} {x : FV} {g c : Nat} (h : CK B w C lv fv ov (.slice (some ⟨g, 0, none⟩) (fs.length + 1) c) lo fr ops (fs ++ [x])) : w.cell? ⟨g, fs.length * 6 + 5, none⟩ = some (.bool x.dead) ∧ w.frozen? ⟨g, fs.length * 6 + 5, none⟩ = false ∧ w.cell? ⟨g, fs.length * 6 + 3, none⟩ = some (.int .i64 x.height) ∧ B ≤ g ∧
    CK B (w.setCell ⟨g, fs.length * 6 + 5, none⟩ (.bool true)) C lv fv ov (.slice (some ⟨g, 0, none⟩) (fs.length + 1) c) lo fr ops (fs ++ [x.die]) := by
  obtain ⟨g', c', hv, hle, hmx, hBg, ⟨cur, hcur⟩, hcells⟩ := h.rfs.last
  injection hv with e1 _ e3
  injection e1 with e1
  injection e1 with e1 _ _
  subst e1 e3
  have nt : ∀ e : TypeId, e ≠ 73 → NoT w g e := fun e he => NoT.of hcur (fun hh => he hh.symm)
  have hsl := h.sl
  obtain ⟨⟨gv, rv, a, b, co⟩, h1, h2, h3, h4, h5, h6⟩ := h
  refine ⟨by rw [hcells 5 (by decide)]; rfl, free_of hcur _, by rw [hcells 3 (by decide)]; rfl, hBg, ⟨gv, rv, a, b, heap_other co (by rintro rfl; rw [hcur] at co; simp [ckObj] at co) _⟩, h1, row_set h2 (nt _ (by decide)) _, row_set h3 (nt _ (by decide)) _, row_set h4 (nt _ (by decide)) _, ?_, ?_⟩
  · unfold RowFr at h5 ⊢
    have hl : ∀ y : FV, (fs ++ [y]).length = fs.length + 1 := fun y => by simp
    rw [hl] at h5 ⊢
    have := h5.stored (fs.length * 6 + 5) (.bool true)
    have hlen := flat_len fs
    have e : ((fs ++ [x]).flatMap FV.c).set (fs.length * 6 + 5) (.bool true) = (fs ++ [x.die]).flatMap FV.c := by
      rw [List.flatMap_append, List.flatMap_append, List.set_append_right _ _ (by omega), hlen, Nat.add_sub_cancel_left]
      rfl
    rw [e] at this
    exact this.1
  · intro y hy
    rcases List.mem_append.1 hy with hy | hy
    · exact hsl y (by simp [hy])
    · simp only [List.mem_cons, List.not_mem_nil, or_false] at hy
      subst hy
      exact hsl x (by simp)
theorem call_cutV (p q : Value) (w : World) : (callFunc 33 #[p, q]).run Tryz.prog w = .ok (.enter 33 #[p, q]) w := by kernel_rfl
theorem step_cutV {ops' : Array Oper} {o : Oper} {a : Act} {w : World} {K : Act → World → Prop} {Q : Exit → Act → World → Prop} {E : Prop} (x y : Operand) {B : Nat} {C : Nat} {lv fv ov qv : Value} {lo : List LO} {fr : List Int} {ops : List VT} {fs : List FV} (h : CK B w C lv fv ov qv lo fr ops fs) {m : Nat} (hm : m ≤ ops.length) {t1 t2 : TypeId}
    (hop : o.op = .call { callee := .value (.func 33), args := #[x, y], argTypes := #[t1, t2] }) (hg : o.guard = none) (hx : a.eval x = .pointer (some ⟨C, 5, none⟩)) (hy : a.eval y = .int .i64 (m : Int))
    (hk : ∀ v' w', CK B w' C lv fv v' qv lo fr (ops.take m) fs → KB B w w' → Two C NILS w w' → v'.ownBlock = ov.ownBlock → K (a.put o.dst (.tuple #[])) w') :
    if Region.wanted o (yielded ops' a.tmps) = true then Oper.wp Tryz.prog o a w K Q else E :=
  step_callF hop (by simp [Region.wanted, hg]) (args := #[.pointer (some ⟨C, 5, none⟩), .int .i64 (m : Int)]) (by simp [hx, hy]) (call_cutV _ _ w) (cutV_any h hm) (by rintro e w' ⟨v', rfl, h1, h2, h3, h4⟩; exact Or.inl ⟨_, rfl, hk v' w' h1 h2 h3 h4⟩)
set_option maxRecDepth 100000 in
set_option maxHeartbeats 1000000 in
theorem unreachM {B : Nat} {w : World} {C : Nat} {lv fv ov : Value} {lo : List LO} {fr : List Int} {ops : List VT} {fs : List FV} {x : FV} {g c : Nat} (h : CK B w C lv fv ov (.slice (some ⟨g, 0, none⟩) (fs.length + 1) c) lo fr ops (fs ++ [x])) (hh : x.height ≤ ops.length) :
    Calls Tryz.prog 7 #[.pointer (some ⟨C, 0, none⟩)] w fun en w' => ∃ ov', en = .returned (.int .i64 0) ∧ CK B w' C lv fv ov' (.slice (some ⟨g, 0, none⟩) (fs.length + 1) c) lo fr (ops.take x.height) (fs ++ [x.die]) ∧ KB B w w' ∧ Two C (.slice (some ⟨g, 0, none⟩) (fs.length + 1) c) w w' ∧ ov'.ownBlock = ov.ownBlock := by
  have C1 := openM h (by simp)
  have C2 := nthF_any h
  have H := Hid.mk' h
  clear h
  go_enter Tryz.func7, Tryz.ntmps7
  go_wp2_with fail
  refine C1.mono ?_
  rintro en w1 ⟨rfl, hw⟩
  obtain rfl := hw.symm
  go_wp2_with fail
  refine C2.mono ?_
  rintro en w2 ⟨rfl, g2⟩
  have H2 := Hid.mk' (H.out.grew g2)
  have G2 := Hid.mk' g2
  obtain ⟨k5, z5, k3, hBg, _⟩ := H2.out.die
  have hCl := H2.out.lt
  have hgl0 := lt_of_cell k3
  clear C1 C2 g2
  go_wp2_with fail
  go_region_law (refine step_cutV (.tmp 16) (.tmp 20) (H2.out.grew (by repeat (first | with_reducible exact Grew.refl _ | refine Grew.alloc ?_ _ | refine Grew.drewN ?_ _ | refine Grew.drew ?_))) hh rfl rfl rfl rfl ?_
                 intro ov3 w3 K3 B3 T3 e3
                 have H3 := Hid.mk' K3
                 have HB3 := Hid.mk' B3
                 have HT3 := Hid.mk' T3
                 have HE3 := Hid.mk' e3
                 clear K3 B3 T3 e3)
  clear k5 z5 k3
  obtain ⟨k5, z5, _, _, K4⟩ := H3.out.die
  have H4 := Hid.mk' K4
  have hgl := lt_of_cell k5
  clear K4
  go_wp2_with fail
  go_ret
  refine ⟨ov3, rfl, H4.out, ((G2.out.drew.kb (by have := H.out.base; have := H.out.lt; omega)).trans HB3.out).set (p := ⟨g, fs.length * 6 + 5, none⟩) hBg _, fun y hy hC hq => ?_, HE3.out⟩
  have hyg : y ≠ g := fun hx => hq (by rw [hx]; rfl)
  rw [Below.heap_setCell _ _ _ _ (by simpa using hyg), HT3.out y (Nat.lt_of_lt_of_le hy G2.out.2) hC (by simp [Value.ownBlock])]
  exact G2.out.1.block y hy
end Go.Proofs.YtkghplkmfpnhdaaGreatDoor
