/-
  Sub's comp of an order; no statement is proved here.
-/
import Derived.Test.YtojkonoffdlbpaaDoorCmW
namespace Go.Proofs.YtojkonoffdlbpaaDoor
open Go.RowKit
set_option linter.unusedVariables false
set_option linter.unusedSimpArgs false

/- A composite type's value. -/
structure CV (w : World) (v : Value) (c : CT) : Prop where
  e : ∃ pv rv fv, v = .agg #[.int .i64 c.kind, pv, rv, fv] ∧ LV w pv c.params ∧ LV w rv c.results ∧ LF w fv c.fields
  lp : c.params.length ≤ 1048576
  lr : c.results.length ≤ 1048576
  lf : c.fields.length ≤ 1048576
/- The two boxes of comp. -/
structure CB2 (ob : Nat) (L : List RT) (w W : World) (a b : Array Value) (A : World) : Prop where
  o : OW ob L w A
  t : MV ob W A
  b1 : A.heap[W.heap.size]? = some (.cells a 30 (0, 0))
  b2 : A.heap[W.heap.size + 1]? = some (.cells b 30 (0, 0))
theorem CB2.start {ob : Nat} {L : List RT} {w W : World} {a b : Array Value} (h : OW ob L w W) : CB2 ob L w W a b ((W.alloc (.cells a 30)).alloc (.cells b 30)) := by
  have g : Grew W ((W.alloc (.cells a 30)).alloc (.cells b 30)) := ((Grew.refl W).alloc _).alloc _
  have x1 := heap_alloc_last (W.alloc (.cells a 30)) (.cells b 30)
  rw [World.size_alloc] at x1
  exact ⟨h.grew g, g.mv ob, heap_alloc (heap_alloc_last _ _) _, x1⟩
theorem CB2.mv {ob : Nat} {L : List RT} {w W A B : World} {a b : Array Value} (h : CB2 ob L w W a b A) (hW : ob < W.heap.size) (o : OW ob L w B) (k : MV ob A B) : CB2 ob L w W a b B :=
  ⟨o, h.t.trans k, k.ob (by omega) h.b1, k.ob (by omega) h.b2⟩
theorem OW.lt {ob : Nat} {L : List RT} {w W : World} (h : OW ob L w W) : ob < W.heap.size := by
  obtain ⟨_, _, _, h1, _⟩ := h.o
  exact lt_of_obj h1
set_option maxRecDepth 100000 in
set_option maxHeartbeats 2000000 in
theorem arr_no {ob : Nat} {L : List RT} {w W : World} {p1 s1 r1 t1 qe1 qf1 : Option Addr} {pn p2 sn s2 rn r2 tn t2 na qe2 nb qf2 : Nat} (hO : OW ob L w W) (hne : ((na : Int) == 1) = false ∨ (na = 1 ∧ ((nb : Int) == 1) = false)) :
    Calls Tryd.prog 15 #[.pointer (some ⟨ob, 0, none⟩), .agg #[.int .i64 3, .slice p1 pn p2, .slice r1 rn r2, .slice qe1 na qe2], .agg #[.int .i64 3, .slice s1 sn s2, .slice t1 tn t2, .slice qf1 nb qf2]] W fun en w' => en = .returned (.bool false) ∧ OW ob L w w' ∧ MV ob W w' := by
  have K0 : Hid (CB2 ob L w W #[.int .i64 3, .slice p1 pn p2, .slice r1 rn r2, .slice qe1 na qe2] #[.int .i64 3, .slice s1 sn s2, .slice t1 tn t2, .slice qf1 nb qf2] ((W.alloc (.cells #[.int .i64 3, .slice p1 pn p2, .slice r1 rn r2, .slice qe1 na qe2] 30)).alloc (.cells #[.int .i64 3, .slice s1 sn s2, .slice t1 tn t2, .slice qf1 nb qf2] 30))) := CB2.start hO
  have ha := K0.out.b1
  have hb := K0.out.b2
  clear hO
  rcases hne with d | ⟨rfl, d⟩
  all_goals
    go_enter Tryd.func15, Tryd.ntmps15
    go_wp2_with fail
    generalize ((W.alloc (.cells _ 30)).alloc (.cells _ 30)) = V at *
    have c3 := cell_of ha 3
    have e3 := cell_of hb 3
    simp at c3 e3
    clear ha hb
    go_quiet (fail)
    go_wp2_with fail
    go_ret
    exact ⟨rfl, K0.out.o.grew ((Grew.refl _).drewN _), K0.out.t.trans (((Grew.refl _).drewN _).mv ob)⟩
theorem wp_region_cl {P : Program} {C : World → Prop} {id : Nat} {Q : Exit → Act → World → Prop} {a : Act} {w : World} {l : List Oper} (hm : P.follows .mixedOrders = true) (hB : Region.lexB .any l.toArray = true)
    (hc : C { w with drawn := w.drawn + 1 }) (h : wpQuiet P l.toArray C (fun a' => ∀ w', C w' → Q .normal a' w') l a) : (Code.region id l.toArray true).wp P Q a w :=
  wp_region_quiet (C := C) hm hB hc (by simpa using h)
/- The worlds of the array's region. -/
def AC (ob : Nat) (L : List RT) (w W : World) (a b : Array Value) (w' : World) : Prop := CB2 ob L w W a b w'
set_option maxRecDepth 100000 in
set_option maxHeartbeats 2000000 in
theorem arr_yes {ob : Nat} {L : List RT} {w W : World} {x y : FT} {p1 s1 r1 t1 qe1 qf1 : Option Addr} {pn p2 sn s2 rn r2 tn t2 qe2 qf2 : Nat} (hO : OW ob L w W) (hx : LF w (.slice qe1 1 qe2) [x]) (hy : LF w (.slice qf1 1 qf2) [y])
    (C4 : ∀ X, OW ob L w X → Calls Tryd.prog 26 #[.pointer (some ⟨ob, 0, none⟩), FT.v x, FT.v y] X fun en w' => en = .returned (.bool (fieldP L x y)) ∧ OW ob L w w' ∧ MV ob X w') :
    Calls Tryd.prog 15 #[.pointer (some ⟨ob, 0, none⟩), .agg #[.int .i64 3, .slice p1 pn p2, .slice r1 rn r2, .slice qe1 1 qe2], .agg #[.int .i64 3, .slice s1 sn s2, .slice t1 tn t2, .slice qf1 1 qf2]] W fun en w' => en = .returned (.bool (fieldP L x y)) ∧ OW ob L w w' ∧ MV ob W w' := by
  have K0 : Hid (CB2 ob L w W #[.int .i64 3, .slice p1 pn p2, .slice r1 rn r2, .slice qe1 1 qe2] #[.int .i64 3, .slice s1 sn s2, .slice t1 tn t2, .slice qf1 1 qf2] ((W.alloc (.cells #[.int .i64 3, .slice p1 pn p2, .slice r1 rn r2, .slice qe1 1 qe2] 30)).alloc (.cells #[.int .i64 3, .slice s1 sn s2, .slice t1 tn t2, .slice qf1 1 qf2] 30))) := CB2.start hO
  have hW := hO.lt
  obtain ⟨b1, o1, e1, hc1, hE1⟩ := hx.get (by simp)
  obtain ⟨b2, o2, e2, hc2, hE2⟩ := hy.get (by simp)
  subst e1 e2
  obtain ⟨⟨x0, x1, x2⟩, x3⟩ := hE1 0 x rfl
  obtain ⟨⟨y0, y1, y2⟩, y3⟩ := hE2 0 y rfl
  rw [Nat.zero_mul, Nat.add_zero] at x0 x1 x2 x3 y0 y1 y2 y3
  have CC : Hid (∀ X, OW ob L w X → Calls Tryd.prog 26 #[.pointer (some ⟨ob, 0, none⟩), FT.v x, FT.v y] X fun en w' => en = .returned (.bool (fieldP L x y)) ∧ OW ob L w w' ∧ MV ob X w') := C4
  have HX : Hid ((w.cell? ⟨b1, o1, none⟩ = some (.int .i64 x.ty.num) ∧ w.cell? ⟨b1, o1 + 1, none⟩ = some (.bool x.ty.null) ∧ w.cell? ⟨b1, o1 + 2, none⟩ = some (.int .i64 x.ty.heap) ∧ w.cell? ⟨b1, o1 + 3, none⟩ = some (.bool x.mut_)) ∧ (w.cell? ⟨b2, o2, none⟩ = some (.int .i64 y.ty.num) ∧ w.cell? ⟨b2, o2 + 1, none⟩ = some (.bool y.ty.null) ∧ w.cell? ⟨b2, o2 + 2, none⟩ = some (.int .i64 y.ty.heap) ∧ w.cell? ⟨b2, o2 + 3, none⟩ = some (.bool y.mut_))) := ⟨⟨x0, x1, x2, x3⟩, y0, y1, y2, y3⟩
  clear hO hx hy hE1 hE2 x0 x1 x2 x3 y0 y1 y2 y3 C4
  generalize fieldP L x y = R at *
  obtain ⟨⟨xn, xu, xh⟩, xm⟩ := x
  obtain ⟨⟨yn, yu, yh⟩, ym⟩ := y
  unfold FT.v at CC
  simp only at HX CC
  go_enter Tryd.func15, Tryd.ntmps15
  go_wp2_with fail
  generalize hV : ((W.alloc (.cells _ 30)).alloc (.cells _ 30)) = V at *
  refine wp_region_cl (C := fun w' => CB2 ob L w W #[.int .i64 3, .slice p1 pn p2, .slice r1 rn r2, .slice (some ⟨b1, o1, none⟩) 1 qe2] #[.int .i64 3, .slice s1 sn s2, .slice t1 tn t2, .slice (some ⟨b2, o2, none⟩) 1 qf2] w') (by kernel_rfl) (by kernel_rfl) (K0.out.mv hW (K0.out.o.grew ((Grew.refl _).drewN 1)) (((Grew.refl _).drewN 1).mv ob)) ?_
  repeat (first
    | go_big_quiet_skip
    | (go_big_quiet_want
       go_big_quiet_op
       first
       | go_big_quiet_on
       | (refine ⟨_, fun _ _ => rfl, ?_⟩; go_big_quiet_on)
       | (refine ⟨.slice (some ⟨b1, o1, none⟩) 1 qe2, fun w' hw' => ?_, ?_⟩
          · (have hc0 := cell_of hw'.b1 3; simp at hc0; go_simp; done)
          go_big_quiet_on)
       | (refine ⟨.slice (some ⟨b2, o2, none⟩) 1 qf2, fun w' hw' => ?_, ?_⟩
          · (have hc0 := cell_of hw'.b2 3; simp at hc0; go_simp; done)
          go_big_quiet_on)
       | (refine ⟨.agg #[.int .i64 xn, .bool xu, .int .i64 xh, .bool xm], fun w' hw' => ?_, ?_⟩
          · (have gg := hw'.o.g; have c0 := cell_grew HX.out.1.1 gg; have c1 := cell_grew HX.out.1.2.1 gg; have c2 := cell_grew HX.out.1.2.2.1 gg; have c3 := cell_grew HX.out.1.2.2.2 gg; go_simp; done)
          go_big_quiet_on)
       | (refine ⟨.agg #[.int .i64 yn, .bool yu, .int .i64 yh, .bool ym], fun w' hw' => ?_, ?_⟩
          · (have gg := hw'.o.g; have c0 := cell_grew HX.out.2.1 gg; have c1 := cell_grew HX.out.2.2.1 gg; have c2 := cell_grew HX.out.2.2.2.1 gg; have c3 := cell_grew HX.out.2.2.2.2 gg; go_simp; done)
          go_big_quiet_on)
       | (apply Exists.intro
          refine ⟨fun w' hw' => ?_, ?_⟩
          · (go_at_call 26; exact (CC.out w' hw'.o).mono fun _ _ ⟨he, h1, h2⟩ => ⟨he, hw'.mv hW h1 h2⟩)
          go_big_quiet_on)))
  refine wpQuiet_nil ?_
  intro w6 h6
  have Y : Hid (OW ob L w w6 ∧ MV ob W w6) := ⟨h6.o, h6.t⟩
  clear h6
  go_wp2_with fail
  go_ret
  exact ⟨rfl, Y.out⟩
set_option maxRecDepth 100000 in
set_option maxHeartbeats 2000000 in
theorem comp_any {ob : Nat} {L : List RT} {w : World} {va vb : Value} {a b : CT} (ha : CV w va a) (hb : CV w vb b) : MC ob L w 15 #[.pointer (some ⟨ob, 0, none⟩), va, vb] (compP L a b) := by
  intro W hO
  obtain ⟨⟨pa, ra, fa, ea, hpa, hra, hfa⟩, la1, la2, la3⟩ := ha
  obtain ⟨⟨pb, rb, fb, eb, hpb, hrb, hfb⟩, lb1, lb2, lb3⟩ := hb
  subst ea eb
  have C1 : Hid (∀ X, OW ob L w X → Calls Tryd.prog 24 #[.pointer (some ⟨ob, 0, none⟩), pb, pa] X fun en w' => en = .returned (.bool (eqL (valP L) b.params a.params)) ∧ OW ob L w w' ∧ MV ob X w') := fun X h => vals_any hpb hpa lb1 X h
  have C2 : Hid (∀ X, OW ob L w X → Calls Tryd.prog 24 #[.pointer (some ⟨ob, 0, none⟩), ra, rb] X fun en w' => en = .returned (.bool (eqL (valP L) a.results b.results)) ∧ OW ob L w w' ∧ MV ob X w') := fun X h => vals_any hra hrb la2 X h
  have C3 : Hid (∀ X, OW ob L w X → Calls Tryd.prog 25 #[.pointer (some ⟨ob, 0, none⟩), fa, fb] X fun en w' => en = .returned (.bool (fieldsP L a.fields b.fields)) ∧ OW ob L w w' ∧ MV ob X w') := fun X h => fields_any hfa hfb la3 X h
  have C4 : Hid (∀ x y X, OW ob L w X → Calls Tryd.prog 26 #[.pointer (some ⟨ob, 0, none⟩), FT.v x, FT.v y] X fun en w' => en = .returned (.bool (fieldP L x y)) ∧ OW ob L w w' ∧ MV ob X w') := fun x y X h => field_any x y X h
  have HO : Hid (OW ob L w W) := hO
  have hW := hO.lt
  have HF : Hid (LF w fa a.fields ∧ LF w fb b.fields) := ⟨hfa, hfb⟩
  obtain ⟨qa1, qa2, e1, _⟩ := hpa.one
  obtain ⟨qb1, qb2, e2, _⟩ := hpb.one
  obtain ⟨qc1, qc2, e3, _⟩ := hra.one
  obtain ⟨qd1, qd2, e4, _⟩ := hrb.one
  obtain ⟨qe1, qe2, e5, hqe, _⟩ := hfa.one
  obtain ⟨qf1, qf2, e6, hqf, _⟩ := hfb.one
  subst e1 e2 e3 e4 e5 e6
  clear hO hpa hpb hra hrb hfa hfb
  by_cases hk : a.kind = b.kind
  · have dk : (a.kind == b.kind) = true := by simpa using hk
    have dn : (b.kind != b.kind) = false := by simp
    unfold compP
    rw [dk, Bool.true_and]
    rw [hk] at *
    have K0 : Hid (CB2 ob L w W #[.int .i64 b.kind, .slice qa1 a.params.length qa2, .slice qc1 a.results.length qc2, .slice qe1 a.fields.length qe2] #[.int .i64 b.kind, .slice qb1 b.params.length qb2, .slice qd1 b.results.length qd2, .slice qf1 b.fields.length qf2] ((W.alloc (.cells #[.int .i64 b.kind, .slice qa1 a.params.length qa2, .slice qc1 a.results.length qc2, .slice qe1 a.fields.length qe2] 30)).alloc (.cells #[.int .i64 b.kind, .slice qb1 b.params.length qb2, .slice qd1 b.results.length qd2, .slice qf1 b.fields.length qf2] 30))) := CB2.start HO.out
    by_cases h1 : b.kind = 1
    · rw [if_pos h1]
      generalize eqL (valP L) b.params a.params = r1 at *
      generalize eqL (valP L) a.results b.results = r2 at *
      generalize b.kind = kb at *
      subst h1
      clear C3 C4 HF hk dk dn
      go_enter Tryd.func15, Tryd.ntmps15
      go_wp2_with fail
      refine (C1.out _ K0.out.o).mono ?_
      rintro en w1 ⟨rfl, y1, y2⟩
      have K1 : Hid (CB2 ob L w W #[.int .i64 1, .slice qa1 a.params.length qa2, .slice qc1 a.results.length qc2, .slice qe1 a.fields.length qe2] #[.int .i64 1, .slice qb1 b.params.length qb2, .slice qd1 b.results.length qd2, .slice qf1 b.fields.length qf2] w1) := K0.out.mv hW y1 y2
      have p2 := cell_of K1.out.b1 2
      have q2 := cell_of K1.out.b2 2
      simp at p2 q2
      clear y1 y2 C1 K0
      cases r1 with
      | false =>
        clear C2
        go_wp2_with fail
        go_ret
        exact ⟨rfl, K1.out.o, K1.out.t⟩
      | true =>
        go_wp2_with fail
        refine (C2.out _ K1.out.o).mono ?_
        rintro en w2 ⟨rfl, y1, y2⟩
        have K2 : Hid (OW ob L w w2 ∧ MV ob W w2) := ⟨y1, K1.out.t.trans y2⟩
        clear y1 y2 C2 K1 p2 q2
        go_wp2_with fail
        go_ret
        exact ⟨rfl, K2.out⟩
    · rw [if_neg h1]
      have d1 : (b.kind == 1) = false := by simpa using h1
      by_cases h2 : b.kind = 2
      · rw [if_pos h2]
        generalize fieldsP L a.fields b.fields = r1 at *
        generalize b.kind = kb at *
        subst h2
        clear C1 C2 C4 HF hk dk dn
        go_enter Tryd.func15, Tryd.ntmps15
        go_wp2_with fail
        refine (C3.out _ K0.out.o).mono ?_
        rintro en w1 ⟨rfl, y1, y2⟩
        have K1 : Hid (OW ob L w w1 ∧ MV ob W w1) := ⟨y1, K0.out.t.trans y2⟩
        clear y1 y2 C3 K0
        go_wp2_with fail
        go_ret
        exact ⟨rfl, K1.out⟩
      · rw [if_neg h2]
        have d2 : (b.kind == 2) = false := by simpa using h2
        by_cases h3 : b.kind = 3
        · rw [if_pos h3]
          generalize b.kind = kb at *
          subst h3
          clear C1 C2 C3 dk dn
          clear K0
          generalize a.fields = fl at *
          generalize b.fields = gl at *
          match fl, gl, HF, hqe, hqf with
          | [], gl, _, _, _ => exact arr_no HO.out (Or.inl rfl)
          | x :: x' :: fl, gl, _, _, _ => exact arr_no HO.out (Or.inl (by simp; omega))
          | [x], [], _, _, _ => exact arr_no HO.out (Or.inr ⟨rfl, rfl⟩)
          | [x], y :: y' :: gl, _, _, _ => exact arr_no HO.out (Or.inr ⟨rfl, by simp; omega⟩)
          | [x], [y], HF, _, _ => exact arr_yes HO.out HF.out.1 HF.out.2 (C4.out x y)
        · rw [if_neg h3]
          have d3 : (b.kind == 3) = false := by simpa using h3
          generalize b.kind = kb at *
          clear C1 C2 C3 C4 HF hk dk h1 h2 h3
          go_enter Tryd.func15, Tryd.ntmps15
          go_wp2_with fail
          go_ret
          exact ⟨rfl, K0.out.o, K0.out.t⟩
  · have dk : (a.kind == b.kind) = false := by simpa using hk
    have dn : (a.kind != b.kind) = true := by simpa using hk
    unfold compP
    rw [dk, Bool.false_and]
    clear C1 C2 C3 C4 HF hk
    generalize a.kind = ka at *
    generalize b.kind = kb at *
    have K0 : Hid (CB2 ob L w W #[.int .i64 ka, .slice qa1 a.params.length qa2, .slice qc1 a.results.length qc2, .slice qe1 a.fields.length qe2] #[.int .i64 kb, .slice qb1 b.params.length qb2, .slice qd1 b.results.length qd2, .slice qf1 b.fields.length qf2] ((W.alloc (.cells #[.int .i64 ka, .slice qa1 a.params.length qa2, .slice qc1 a.results.length qc2, .slice qe1 a.fields.length qe2] 30)).alloc (.cells #[.int .i64 kb, .slice qb1 b.params.length qb2, .slice qd1 b.results.length qd2, .slice qf1 b.fields.length qf2] 30))) := CB2.start HO.out
    go_enter Tryd.func15, Tryd.ntmps15
    go_wp2_with fail
    go_ret
    exact ⟨rfl, K0.out.o, K0.out.t⟩
end Go.Proofs.YtojkonoffdlbpaaDoor
