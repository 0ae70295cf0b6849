/-
  The walks of Same, SameVals, sameFields, SameSub, SameRec at equal values; no statement is proved here.
-/
import Derived.Test.YtchehejjdinifaaGreatDoorTopV
import Derived.Test.YtchehejjdinifaaGreatDoorGrpS
import Derived.Test.YtchehejjdinifaaGreatDoorE8l
import Derived.Deep.RegionLaw
namespace Go.Proofs.YtchehejjdinifaaGreatDoor
open Go.RowKit
set_option linter.unusedVariables false
set_option linter.unusedSimpArgs false
set_option linter.constructorNameAsVariable false

theorem row_at {w : World} {B : Nat} {e : TypeId} {k : Nat} {v : Value} {n : Nat} {cs : List Value} (h : w.ownsRow B e k v n cs) (hn : 0 < n) : ∃ g c, v = .slice (some ⟨g, 0, none⟩) n c ∧ n ≤ c ∧ ∀ j, j < n * k → w.cell? ⟨g, j, none⟩ = cs[j]? := by
  have h0 := h
  obtain ⟨h1, ⟨_, h2⟩ | ⟨g, cap, cur, rfl, hB, hg, h3⟩⟩ := h
  · omega
  · exact ⟨g, cap, rfl, h3.1, fun j hj => h0.cellAt j hj⟩
theorem row_max {w : World} {B : Nat} {e : TypeId} {k : Nat} {v : Value} {n : Nat} {cs : List Value} (h : w.ownsRow B e k v n cs) : n ≤ 9223372036854775807 := by
  obtain ⟨h1, ⟨_, h2⟩ | ⟨g, cap, cur, rfl, hB, hg, h3⟩⟩ := h
  · omega
  · have := h3.1
    have := h3.2.1
    unfold maxLen at this
    omega
theorem step_callF {f : Nat} {args : Array Value} {argTs : Array TypeId} {argOs : Array Operand} {R : Ending → World → Prop} {ops : Array Oper} {o : Oper} {a : Act} {w : World} {K : Act → World → Prop} {Q : Exit → Act → World → Prop} {E : Prop}
    (hop : o.op = .call { callee := .value (.func f), args := argOs, argTypes := argTs }) (hw : Region.wanted o (yielded ops a.tmps) = true) (hargs : argOs.map a.eval = args) (hf : (callFunc f args).run Tryz.prog w = .ok (.enter f args) w)
    (hc : Calls Tryz.prog f args w R) (h : ∀ e w', R e w' → (∃ u, e = .returned u ∧ K (a.put o.dst u) w') ∨ ∃ ch, e = .panicked ch ∧ Q (.panic ch) a w') :
    if Region.wanted o (yielded ops a.tmps) = true then Oper.wp Tryz.prog o a w K Q else E := by
  rw [if_pos hw]
  unfold Oper.wp
  subst hargs
  simp [execOp, hop, resolve, invoke, go_sem, hf, Oper.upon_enter]
  refine hc.mono ?_
  intro e w' he
  rcases h e w' he with ⟨u, rfl, hk⟩ | ⟨ch, rfl, hk⟩
  · exact hk
  · exact hk
theorem rowV_cell {w : World} {B g c n : Nat} {l : List VT} (h : RowV B w (.slice (some ⟨g, 0, none⟩) n c) l) (hn : n = l.length) {i : Nat} {x : VT} (hx : l[i]? = some x) : w.cell? ⟨g, i * 3, none⟩ = some (.int .i64 x.num) ∧ w.cell? ⟨g, i * 3 + 1, none⟩ = some (.bool x.null) ∧ w.cell? ⟨g, i * 3 + 2, none⟩ = some (.int .i64 x.heap) := by
  subst hn
  have hi : i < l.length := (List.getElem?_eq_some_iff.1 hx).1
  have e := flat_at VT.c 3 (fun _ => rfl) l i x
  have ha := fun j hj => World.ownsRow.cellAt h j hj
  refine ⟨?_, ?_, ?_⟩
  · rw [ha _ (by omega)]; exact e 0 hx (by omega)
  · rw [ha _ (by omega)]; exact e 1 hx (by omega)
  · rw [ha _ (by omega)]; exact e 2 hx (by omega)
theorem RowF.grow {B : Nat} {w1 w2 : World} {v : Value} {l : List FT} (h : RowF B w1 v l) (g : Grew w1 w2) : RowF B w2 v l := h.turn (g.turn []) (by simp)
end Go.Proofs.YtchehejjdinifaaGreatDoor

namespace Go.Proofs.YtchehejjdinifaaGreatDoor
open Go.RowKit
set_option linter.unusedVariables false
set_option linter.unusedSimpArgs false
set_option linter.constructorNameAsVariable false

theorem RowV.grow {B : Nat} {w1 w2 : World} {v : Value} {l : List VT} (h : RowV B w1 v l) (g : Grew w1 w2) : RowV B w2 v l := h.turn (g.turn []) (by simp)
theorem RowI.grew {B : Nat} {w1 w2 : World} {v : Value} {l : List Int} (h : RowI B w1 v l) (g : Grew w1 w2) : RowI B w2 v l := h.turn (g.turn []) (by simp)
def sobj (f : Bool) (sv : Value) (k : Int) (pv rv fv : Value) : Obj := .cells #[.bool f, sv, .int .i64 k, pv, rv, fv] 65 (0, 0)
def robj (tv : Value) (e : Bool) : Obj := .cells #[tv, .bool e] 24 (0, 0)
def RecQ (B : Nat) (w : World) (u : Value) (r : RT) : Prop := ∃ tv, u = .agg #[tv, .bool r.explicit] ∧ SubsQ B w tv r.types
set_option maxRecDepth 100000 in
theorem same_any (x : VT) (w : World) :
    Calls Tryz.prog 47 #[x.v, x.v] w fun en w' => en = .returned (.bool true) ∧ Grew w w' := by
  obtain ⟨n, nul, h⟩ := x
  unfold VT.v vt
  have G : Hid (Grew w ((w.alloc (Obj.cells #[Value.int IntKind.i64 n, Value.bool nul, Value.int IntKind.i64 h] 26)).alloc (Obj.cells #[Value.int IntKind.i64 n, Value.bool nul, Value.int IntKind.i64 h] 26))) := ((Grew.refl w).alloc _).alloc _
  by_cases hn : n = 5
  · subst hn
    go_enter Tryz.func47, Tryz.ntmps47
    go_wp2_with fail
    go_ret
    exact ⟨rfl, G.out⟩
  · have hn' : (n != 5) = true := by simpa using hn
    go_enter Tryz.func47, Tryz.ntmps47
    go_wp2_with fail
    go_ret
    exact ⟨rfl, G.out⟩
theorem call_same (p q : Value) (w : World) : (callFunc 47 #[p, q]).run Tryz.prog w = .ok (.enter 47 #[p, q]) w := by kernel_rfl
theorem step_same {ops : Array Oper} {o : Oper} {a : Act} {w : World} {K : Act → World → Prop} {Q : Exit → Act → World → Prop} {E : Prop} (x y : Operand) (v : VT)
    (hop : o.op = .call { callee := .value (.func 47), args := #[x, y], argTypes := #[26, 26] }) (hw : Region.wanted o (yielded ops a.tmps) = true) (hx : a.eval x = v.v) (hy : a.eval y = v.v)
    (h : ∀ w', Grew w w' → K (a.put o.dst (.bool true)) w') :
    if Region.wanted o (yielded ops a.tmps) = true then Oper.wp Tryz.prog o a w K Q else E :=
  step_callF hop hw (args := #[v.v, v.v]) (by simp [hx, hy]) (call_same _ _ w) (same_any v w) (by rintro e w' ⟨rfl, g⟩; exact Or.inl ⟨_, rfl, h w' g⟩)
set_option maxRecDepth 100000 in
theorem sameVals_any {w : World} {B B' : Nat} {u v : Value} {l : List VT} (h1 : RowV B w u l) (h2 : RowV B' w v l) (hl : l.length ≤ 9223372036854775807) :
    Calls Tryz.prog 28 #[u, v] w fun en w' => en = .returned (.bool true) ∧ Grew w w' := by
  rcases Nat.eq_zero_or_pos l.length with h0 | h0
  · have hl0 := List.eq_nil_of_length_eq_zero h0
    subst hl0
    obtain ⟨ua, uc, hu⟩ := row_one h1
    obtain ⟨va, vc, hv⟩ := row_one h2
    subst hu
    subst hv
    clear h1 h2 hl h0
    simp only [List.length_nil]
    go_enter Tryz.func28, Tryz.ntmps28
    go_wp2_with fail
    go_loopw [5] (fun i_ w' => i_ = .int .i64 0 ∧ w' = w) (fun _ _ => 0)
    case atStart => exact ⟨rfl, rfl⟩
    case round =>
      obtain ⟨rfl, h⟩ := hrel
      obtain rfl := h.symm
      go_wp2_with fail
      go_ret
      exact ⟨rfl, Grew.refl _⟩
  · obtain ⟨ug, uc, hu, huc, _⟩ := row_at h1 h0
    obtain ⟨vg, vc, hv, hvc, _⟩ := row_at h2 h0
    subst hu
    subst hv
    have H1 : Hid (RowV B w (.slice (some ⟨ug, 0, none⟩) l.length uc) l) := h1
    have H2 : Hid (RowV B' w (.slice (some ⟨vg, 0, none⟩) l.length vc) l) := h2
    clear h1 h2
    go_enter Tryz.func28, Tryz.ntmps28
    go_wp2_with fail
    go_loopw [5] (fun i_ w' => ∃ i : Nat, i_ = .int .i64 i ∧ i ≤ l.length ∧ Hid (Grew w w')) (fun i_ _ => l.length - (intOf i_).toNat)
    case atStart => exact ⟨0, rfl, Nat.zero_le _, Grew.refl _⟩
    case round =>
      obtain ⟨i, rfl, hi, G⟩ := hrel
      obtain ⟨w0, hw0⟩ : ∃ w0, w0 = wr := ⟨_, rfl⟩
      rw [← hw0] at G ⊢
      clear hw0
      by_cases hlt : i < l.length
      · obtain ⟨x, hx⟩ : ∃ x, l[i]? = some x := ⟨_, List.getElem?_eq_getElem hlt⟩
        have d1 : decide ((i : Int) < (l.length : Int)) = true := by simp; omega
        have d2 : decide (i < l.length) = true := by simp; omega
        obtain ⟨p0, p1, p2⟩ := rowV_cell (H1.out.grow G.out) rfl hx
        obtain ⟨q0, q1, q2⟩ := rowV_cell (H2.out.grow G.out) rfl hx
        obtain ⟨n, nul, hp⟩ := x
        clear hx
        go_wp2_with fail
        go_region_law (first
          | (refine step_same (.tmp 20) (.tmp 24) ⟨n, nul, hp⟩ rfl (by simp [Region.wanted]) rfl rfl ?_
             intro w6 g6
             have G6 : Hid (Grew w w6) := G.out.trans (by first | exact g6 | exact ((Grew.refl _).drew).trans g6 | exact ((Grew.refl _).drewN _).trans g6)
             clear g6))
        all_goals
          go_wp2_with fail
          go_roundw
          case rel => exact ⟨i + 1, by go_num, by omega, G6.out⟩
          case measure => simp [intOf]; omega
      · have d1 : decide ((i : Int) < (l.length : Int)) = false := by simp; omega
        go_wp2_with fail
        go_ret
        exact ⟨rfl, G.out⟩
theorem rowF_cell {w : World} {B g c n : Nat} {l : List FT} (h : RowF B w (.slice (some ⟨g, 0, none⟩) n c) l) (hn : n = l.length) {i : Nat} {x : FT} (hx : l[i]? = some x) : w.cell? ⟨g, i * 4, none⟩ = some (.int .i64 x.ty.num) ∧ w.cell? ⟨g, i * 4 + 1, none⟩ = some (.bool x.ty.null) ∧ w.cell? ⟨g, i * 4 + 2, none⟩ = some (.int .i64 x.ty.heap) ∧ w.cell? ⟨g, i * 4 + 3, none⟩ = some (.bool x.mut_) := by
  subst hn
  have hi : i < l.length := (List.getElem?_eq_some_iff.1 hx).1
  have e := flat_at FT.c 4 (fun _ => rfl) l i x
  have ha := fun j hj => World.ownsRow.cellAt h j hj
  refine ⟨?_, ?_, ?_, ?_⟩
  · rw [ha _ (by omega)]; exact e 0 hx (by omega)
  · rw [ha _ (by omega)]; exact e 1 hx (by omega)
  · rw [ha _ (by omega)]; exact e 2 hx (by omega)
  · rw [ha _ (by omega)]; exact e 3 hx (by omega)
set_option maxRecDepth 100000 in
set_option maxHeartbeats 8000000 in
theorem sameFields_any {w : World} {B B' : Nat} {u v : Value} {l : List FT} (h1 : RowF B w u l) (h2 : RowF B' w v l) (hl : l.length ≤ 9223372036854775807) :
    Calls Tryz.prog 29 #[u, v] w fun en w' => en = .returned (.bool true) ∧ Grew w w' := by
  rcases Nat.eq_zero_or_pos l.length with h0 | h0
  · have hl0 := List.eq_nil_of_length_eq_zero h0
    subst hl0
    obtain ⟨ua, uc, hu⟩ := row_one h1
    obtain ⟨va, vc, hv⟩ := row_one h2
    subst hu
    subst hv
    clear h1 h2 hl h0
    simp only [List.length_nil]
    go_enter Tryz.func29, Tryz.ntmps29
    go_wp2_with fail
    go_loopw [5] (fun i_ w' => i_ = .int .i64 0 ∧ w' = w) (fun _ _ => 0)
    case atStart => exact ⟨rfl, rfl⟩
    case round =>
      obtain ⟨rfl, h⟩ := hrel
      obtain rfl := h.symm
      go_wp2_with fail
      go_ret
      exact ⟨rfl, Grew.refl _⟩
  · obtain ⟨ug, uc, hu, huc, _⟩ := row_at h1 h0
    obtain ⟨vg, vc, hv, hvc, _⟩ := row_at h2 h0
    subst hu
    subst hv
    have H1 : Hid (RowF B w (.slice (some ⟨ug, 0, none⟩) l.length uc) l) := h1
    have H2 : Hid (RowF B' w (.slice (some ⟨vg, 0, none⟩) l.length vc) l) := h2
    clear h1 h2
    go_enter Tryz.func29, Tryz.ntmps29
    go_wp2_with fail
    go_loopw [5] (fun i_ w' => ∃ i : Nat, i_ = .int .i64 i ∧ i ≤ l.length ∧ Hid (Grew w w')) (fun i_ _ => l.length - (intOf i_).toNat)
    case atStart => exact ⟨0, rfl, Nat.zero_le _, Grew.refl _⟩
    case round =>
      obtain ⟨i, rfl, hi, G⟩ := hrel
      obtain ⟨w0, hw0⟩ : ∃ w0, w0 = wr := ⟨_, rfl⟩
      rw [← hw0] at G ⊢
      clear hw0
      by_cases hlt : i < l.length
      · obtain ⟨x, hx⟩ : ∃ x, l[i]? = some x := ⟨_, List.getElem?_eq_getElem hlt⟩
        have d1 : decide ((i : Int) < (l.length : Int)) = true := by simp; omega
        have d2 : decide (i < l.length) = true := by simp; omega
        obtain ⟨p0, p1, p2, p3⟩ := rowF_cell (H1.out.grow G.out) rfl hx
        obtain ⟨q0, q1, q2, q3⟩ := rowF_cell (H2.out.grow G.out) rfl hx
        obtain ⟨⟨n, nul, hp⟩, mu⟩ := x
        clear hx
        go_wp2_with fail
        have mm : (mu != mu) = false := by simp
        have SC := fun w' => same_any ⟨n, nul, hp⟩ w'
        unfold VT.v vt at SC
        have hug : ug < w0.heap.size := (World.ownsRow.lt (H1.out.grow G.out) ug rfl).2
        have hvg : vg < w0.heap.size := (World.ownsRow.lt (H2.out.grow G.out) vg rfl).2
        refine wp_region_ck [(ug, i * 4, .int .i64 n), (ug, i * 4 + 1, .bool nul), (ug, i * 4 + 2, .int .i64 hp), (ug, i * 4 + 3, .bool mu), (vg, i * 4, .int .i64 n), (vg, i * 4 + 1, .bool nul), (vg, i * 4 + 2, .int .i64 hp), (vg, i * 4 + 3, .bool mu)] (by kernel_rfl) (by kernel_rfl) ⟨⟨hug, p0⟩, ⟨hug, p1⟩, ⟨hug, p2⟩, ⟨hug, p3⟩, ⟨hvg, q0⟩, ⟨hvg, q1⟩, ⟨hvg, q2⟩, ⟨hvg, q3⟩, trivial⟩ ?_
        repeat (first
          | go_big_quiet_skip
          | (go_big_quiet_want
             go_big_quiet_op
             first
             | go_big_quiet_on
             | (refine ⟨_, fun _ _ => rfl, ?_⟩; go_big_quiet_on)
             | (refine ⟨.bool mu, fun w' hw' => ?_, ?_⟩
                · (obtain ⟨_, ⟨_, hc0⟩, ⟨_, hc1⟩, ⟨_, hc2⟩, ⟨_, hc3⟩, ⟨_, hc4⟩, ⟨_, hc5⟩, ⟨_, hc6⟩, ⟨_, hc7⟩, _⟩ := hw'; go_simp; done)
                go_big_quiet_on)
             | (refine ⟨.agg #[.int .i64 n, .bool nul, .int .i64 hp], fun w' hw' => ?_, ?_⟩
                · (obtain ⟨_, ⟨_, hc0⟩, ⟨_, hc1⟩, ⟨_, hc2⟩, ⟨_, hc3⟩, ⟨_, hc4⟩, ⟨_, hc5⟩, ⟨_, hc6⟩, ⟨_, hc7⟩, _⟩ := hw'; go_simp; done)
                go_big_quiet_on)
             | (apply Exists.intro
                refine ⟨fun w' hw' => ?_, ?_⟩
                · (first
                   | exact hw'.call (SC _))
                go_big_quiet_on)))
        refine wpQuiet_nil ?_
        rintro w6 ⟨g6, _⟩
        have G6 : Hid (Grew w w6) := G.out.trans g6
        clear g6
        go_wp2_with fail
        go_roundw
        case rel => exact ⟨i + 1, by go_num, by omega, G6.out⟩
        case measure => simp [intOf]; omega
      · have d1 : decide ((i : Int) < (l.length : Int)) = false := by simp; omega
        go_wp2_with fail
        go_ret
        exact ⟨rfl, G.out⟩
theorem rowI_cell {w : World} {B g c n : Nat} {l : List Int} (h : RowI B w (.slice (some ⟨g, 0, none⟩) n c) l) (hn : n = l.length) {i : Nat} {x : Int} (hx : l[i]? = some x) : w.cell? ⟨g, i, none⟩ = some (.int .i64 x) := by
  subst hn
  have hi : i < l.length := (List.getElem?_eq_some_iff.1 hx).1
  have e := flat_at ic1 1 (fun _ => rfl) l i x
  have ha := World.ownsRow.cellAt h i (by omega)
  rw [ha]
  have e0 := e 0 hx (by omega)
  rw [Nat.mul_one, Nat.add_zero] at e0
  exact e0
set_option maxRecDepth 100000 in
set_option maxHeartbeats 1000000 in
theorem sameSub_any {w : World} {B B' : Nat} {cs ds : List Value} {x : SB} (h1 : SubC B w cs x) (h2 : SubC B' w ds x) (hl : x.supers.length ≤ 9223372036854775807 ∧ x.comp.params.length ≤ 9223372036854775807 ∧ x.comp.results.length ≤ 9223372036854775807 ∧ x.comp.fields.length ≤ 9223372036854775807) :
    Calls Tryz.prog 14 #[.agg cs.toArray, .agg ds.toArray] w fun en w' => en = .returned (.bool true) ∧ Grew w w' := by
  obtain ⟨sv, pv, rv, fv, hcs, z1, z2, z3, z4⟩ := h1
  obtain ⟨sv', pv', rv', fv', hds, y1, y2, y3, y4⟩ := h2
  obtain ⟨sa, sc, e1⟩ := row_one z1
  obtain ⟨pa, pc, e2⟩ := row_one z2
  obtain ⟨ra, rc, e3⟩ := row_one z3
  obtain ⟨fa, fc, e4⟩ := row_one z4
  obtain ⟨sa', sc', e5⟩ := row_one y1
  obtain ⟨pa', pc', e6⟩ := row_one y2
  obtain ⟨ra', rc', e7⟩ := row_one y3
  obtain ⟨fa', fc', e8⟩ := row_one y4
  subst e1
  subst e2
  subst e3
  subst e4
  subst e5
  subst e6
  subst e7
  subst e8
  subst hcs
  subst hds
  have C1 : Hid (∀ w', Grew w w' → Calls Tryz.prog 28 #[.slice pa x.comp.params.length pc, .slice pa' x.comp.params.length pc'] w' fun en w'' => en = .returned (.bool true) ∧ Grew w' w'') := fun w' g => sameVals_any (z2.grow g) (y2.grow g) hl.2.1
  have C2 : Hid (∀ w', Grew w w' → Calls Tryz.prog 28 #[.slice ra x.comp.results.length rc, .slice ra' x.comp.results.length rc'] w' fun en w'' => en = .returned (.bool true) ∧ Grew w' w'') := fun w' g => sameVals_any (z3.grow g) (y3.grow g) hl.2.2.1
  have C3 : Hid (∀ w', Grew w w' → Calls Tryz.prog 29 #[.slice fa x.comp.fields.length fc, .slice fa' x.comp.fields.length fc'] w' fun en w'' => en = .returned (.bool true) ∧ Grew w' w'') := fun w' g => sameFields_any (z4.grow g) (y4.grow g) hl.2.2.2
  have Z1 : Hid (RowI B w (.slice sa x.supers.length sc) x.supers) := z1
  have Y1 : Hid (RowI B' w (.slice sa' x.supers.length sc') x.supers) := y1
  have hl1 := hl.1
  clear z1 z2 z3 z4 y1 y2 y3 y4 hl
  obtain ⟨fin, sup, ⟨kind, params, results, fields⟩⟩ := x
  simp only at *
  have ff : (fin != fin) = false := by simp
  have kk : (kind != kind) = false := by simp
  have ll : (((sup.length : Nat) : Int) != ((sup.length : Nat) : Int)) = false := by simp
  generalize hA : #[Value.bool fin, .slice sa sup.length sc, .int .i64 kind, .slice pa params.length pc, .slice ra results.length rc, .slice fa fields.length fc] = A at *
  generalize hD : #[Value.bool fin, .slice sa' sup.length sc', .int .i64 kind, .slice pa' params.length pc', .slice ra' results.length rc', .slice fa' fields.length fc'] = D at *
  subst hA
  subst hD
  go_enter Tryz.func14, Tryz.ntmps14
  go_wp2_with fail
  generalize hW : ((w.alloc (.cells #[Value.bool fin, .slice sa sup.length sc, .int .i64 kind, .slice pa params.length pc, .slice ra results.length rc, .slice fa fields.length fc] 65)).alloc (.cells #[Value.bool fin, .slice sa' sup.length sc', .int .i64 kind, .slice pa' params.length pc', .slice ra' results.length rc', .slice fa' fields.length fc'] 65)) = W
  have G0 : Hid (Grew w W) := by rw [← hW]; exact ((Grew.refl w).alloc _).alloc _
  have A0 : Hid (W.heap[w.heap.size]? = some (sobj fin (.slice sa sup.length sc) kind (.slice pa params.length pc) (.slice ra results.length rc) (.slice fa fields.length fc))) := by rw [← hW]; exact heap_alloc (heap_alloc_last _ _) _
  have B0 : Hid (W.heap[w.heap.size + 1]? = some (sobj fin (.slice sa' sup.length sc') kind (.slice pa' params.length pc') (.slice ra' results.length rc') (.slice fa' fields.length fc'))) := by
    have h1 : (w.alloc (.cells #[Value.bool fin, .slice sa sup.length sc, .int .i64 kind, .slice pa params.length pc, .slice ra results.length rc, .slice fa fields.length fc] 65)).heap.size = w.heap.size + 1 := by simp
    rw [← hW, ← h1]
    exact heap_alloc_last _ _
  clear hW
  go_loopw [5] (fun i_ w' => ∃ i : Nat, i_ = .int .i64 i ∧ i ≤ sup.length ∧ Hid (∃ n, w' = W.drewN n)) (fun i_ _ => sup.length - (intOf i_).toNat)
  case atStart => exact ⟨0, rfl, Nat.zero_le _, ⟨0, rfl⟩⟩
  case round =>
    obtain ⟨i, rfl, hi, ⟨nd, hnd⟩⟩ := hrel
    have a0 := cell_of A0.out 0
    have a1 := cell_of A0.out 1
    have a2 := cell_of A0.out 2
    have a3 := cell_of A0.out 3
    have a4 := cell_of A0.out 4
    have a5 := cell_of A0.out 5
    have b0 := cell_of B0.out 0
    have b1 := cell_of B0.out 1
    have b2 := cell_of B0.out 2
    have b3 := cell_of B0.out 3
    have b4 := cell_of B0.out 4
    have b5 := cell_of B0.out 5
    simp at a0 a1 a2 a3 a4 a5 b0 b1 b2 b3 b4 b5
    obtain rfl := hnd.symm
    by_cases hlt : i < sup.length
    · obtain ⟨sg, sc1, hv, hc, _⟩ := row_at Z1.out (by omega)
      obtain ⟨sg', sc1', hv', hc', _⟩ := row_at Y1.out (by omega)
      injection hv with e1 _ e3
      injection hv' with e1' _ e3'
      subst e1
      subst e3
      subst e1'
      subst e3'
      obtain ⟨x, hx⟩ : ∃ x, sup[i]? = some x := ⟨_, List.getElem?_eq_getElem hlt⟩
      have p0 := rowI_cell (Z1.out.grew G0.out) rfl hx
      have q0 := rowI_cell (Y1.out.grew G0.out) rfl hx
      have xx : (x != x) = false := by simp
      have d1 : decide ((i : Int) < (sup.length : Int)) = true := by simp; omega
      have d2 : decide (i < sup.length) = true := by simp; omega
      clear hx C1 C2 C3
      go_wp2_with fail
      go_quiet (fail)
      all_goals
        go_wp2_with fail
        go_roundw
        case rel => exact ⟨i + 1, by go_num, by omega, ⟨_, rfl⟩⟩
        case measure => simp [intOf]; omega
    · have d1 : decide ((i : Int) < (sup.length : Int)) = false := by simp; omega
      go_wp2_with fail
      refine (C1.out _ (G0.out.drewN nd)).mono ?_
      rintro en w1 ⟨rfl, g1⟩
      have G1 : Hid (Grew W w1) := ((Grew.refl W).drewN nd).trans g1
      clear g1
      have ha1 := (G1.out.turn []).other A0.out (by simp)
      have a1_0 := cell_of ha1 0
      have a1_1 := cell_of ha1 1
      have a1_2 := cell_of ha1 2
      have a1_3 := cell_of ha1 3
      have a1_4 := cell_of ha1 4
      have a1_5 := cell_of ha1 5
      have hb1 := (G1.out.turn []).other B0.out (by simp)
      have b1_0 := cell_of hb1 0
      have b1_1 := cell_of hb1 1
      have b1_2 := cell_of hb1 2
      have b1_3 := cell_of hb1 3
      have b1_4 := cell_of hb1 4
      have b1_5 := cell_of hb1 5
      simp at a1_0 a1_1 a1_2 a1_3 a1_4 a1_5 b1_0 b1_1 b1_2 b1_3 b1_4 b1_5
      clear ha1 hb1
      go_wp2_with fail
      refine (C2.out _ (G0.out.trans G1.out)).mono ?_
      rintro en w2 ⟨rfl, g2⟩
      have G2 : Hid (Grew W w2) := G1.out.trans g2
      clear g2
      have ha2 := (G2.out.turn []).other A0.out (by simp)
      have a2_0 := cell_of ha2 0
      have a2_1 := cell_of ha2 1
      have a2_2 := cell_of ha2 2
      have a2_3 := cell_of ha2 3
      have a2_4 := cell_of ha2 4
      have a2_5 := cell_of ha2 5
      have hb2 := (G2.out.turn []).other B0.out (by simp)
      have b2_0 := cell_of hb2 0
      have b2_1 := cell_of hb2 1
      have b2_2 := cell_of hb2 2
      have b2_3 := cell_of hb2 3
      have b2_4 := cell_of hb2 4
      have b2_5 := cell_of hb2 5
      simp at a2_0 a2_1 a2_2 a2_3 a2_4 a2_5 b2_0 b2_1 b2_2 b2_3 b2_4 b2_5
      clear ha2 hb2
      go_wp2_with fail
      refine (C3.out _ (G0.out.trans G2.out)).mono ?_
      rintro en w3 ⟨rfl, g3⟩
      have G3 : Hid (Grew w w3) := (G0.out.trans G2.out).trans g3
      clear g3
      go_wp2_with fail
      go_ret
      exact ⟨rfl, G3.out⟩
theorem SubC.max {B : Nat} {w : World} {cs : List Value} {x : SB} (h : SubC B w cs x) : x.supers.length ≤ 9223372036854775807 ∧ x.comp.params.length ≤ 9223372036854775807 ∧ x.comp.results.length ≤ 9223372036854775807 ∧ x.comp.fields.length ≤ 9223372036854775807 := by
  obtain ⟨sv, pv, rv, fv, hcs, z1, z2, z3, z4⟩ := h
  exact ⟨row_max z1, row_max z2, row_max z3, row_max z4⟩
/- The cells of an element of a row of types. -/
theorem subs_cell {w : World} {B g c n : Nat} {l : List SB} (h : SubsQ B w (.slice (some ⟨g, 0, none⟩) n c) l) (hn : n = l.length) {i : Nat} {x : SB} (hx : l[i]? = some x) : ∃ es, SubC B w es x ∧ ∀ k, k < 6 → w.cell? ⟨g, i * 6 + k, none⟩ = es[k]? := by
  subst hn
  have hi : i < l.length := (List.getElem?_eq_some_iff.1 hx).1
  obtain ⟨cs, h1, h2⟩ := h
  refine ⟨_, h2 i x hx, fun k hk => ?_⟩
  rw [World.ownsRow.cellAt h1 _ (by omega), List.getElem?_take, if_pos hk, List.getElem?_drop]
set_option maxRecDepth 100000 in
set_option maxHeartbeats 2000000 in
theorem sameRec_any {w : World} {B B' : Nat} {u v : Value} {r : RT} (h1 : RecQ B w u r) (h2 : RecQ B' w v r) :
    Calls Tryz.prog 6 #[u, v] w fun en w' => en = .returned (.bool true) ∧ Grew w w' := by
  obtain ⟨tu, rfl, z⟩ := h1
  obtain ⟨tv, rfl, y⟩ := h2
  obtain ⟨l, ex⟩ := r
  simp only at z y ⊢
  have ee : (ex != ex) = false := by simp
  obtain ⟨n, hn⟩ : ∃ n, n = l.length := ⟨_, rfl⟩
  have hmax : n ≤ 9223372036854775807 := by rw [hn]; obtain ⟨cs, a, _⟩ := z; exact row_max a
  rcases Nat.eq_zero_or_pos l.length with h0 | h0
  · have hl0 := List.eq_nil_of_length_eq_zero h0
    subst hl0
    obtain ⟨ua, uc, hu⟩ := z.one
    obtain ⟨va, vc, hv⟩ := y.one
    subst hu
    subst hv
    clear z y h0
    simp only [List.length_nil]
    go_enter Tryz.func6, Tryz.ntmps6
    go_wp2_with fail
    generalize hW : ((w.alloc (.cells #[Value.slice ua 0 uc, .bool ex] 24)).alloc (.cells #[Value.slice va 0 vc, .bool ex] 24)) = W
    have G0 : Hid (Grew w W) := by rw [← hW]; exact ((Grew.refl w).alloc _).alloc _
    have A0 : W.heap[w.heap.size]? = some (robj (.slice ua 0 uc) ex) := by rw [← hW]; exact heap_alloc (heap_alloc_last _ _) _
    have a0 := cell_of A0 0
    simp at a0
    clear hW A0
    go_loopw [5] (fun i_ w' => i_ = .int .i64 0 ∧ w' = W) (fun _ _ => 0)
    case atStart => exact ⟨rfl, rfl⟩
    case round =>
      obtain ⟨rfl, h⟩ := hrel
      obtain rfl := h.symm
      go_wp2_with fail
      go_ret
      exact ⟨rfl, G0.out⟩
  · obtain ⟨cs1, zr1, _⟩ := id z
    obtain ⟨cs2, yr1, _⟩ := id y
    obtain ⟨g, tc, hu, huc, _⟩ := row_at zr1 h0
    obtain ⟨g', tc', hv, hvc, _⟩ := row_at yr1 h0
    subst hu
    subst hv
    have hg1' : g < w.heap.size := (World.ownsRow.lt zr1 g rfl).2
    have hg2' : g' < w.heap.size := (World.ownsRow.lt yr1 g' rfl).2
    clear zr1 yr1
    rw [← hn] at z y huc hvc ⊢
    have Z : Hid (SubsQ B w (.slice (some ⟨g, 0, none⟩) n tc) l) := z
    have Y : Hid (SubsQ B' w (.slice (some ⟨g', 0, none⟩) n tc') l) := y
    have HN : Hid (n = l.length) := hn
    have h0' : 0 < n := by omega
    clear z y h0 hn
    have nn : ((n : Int) != (n : Int)) = false := by simp
    go_enter Tryz.func6, Tryz.ntmps6
    go_wp2_with fail
    generalize hW : ((w.alloc (.cells #[Value.slice (some ⟨g, 0, none⟩) n tc, .bool ex] 24)).alloc (.cells #[Value.slice (some ⟨g', 0, none⟩) n tc', .bool ex] 24)) = W
    have G0 : Hid (Grew w W) := by rw [← hW]; exact ((Grew.refl w).alloc _).alloc _
    have A0 : Hid (W.heap[w.heap.size]? = some (robj (.slice (some ⟨g, 0, none⟩) n tc) ex)) := by rw [← hW]; exact heap_alloc (heap_alloc_last _ _) _
    have B0 : Hid (W.heap[w.heap.size + 1]? = some (robj (.slice (some ⟨g', 0, none⟩) n tc') ex)) := by
      have h1 : (w.alloc (.cells #[Value.slice (some ⟨g, 0, none⟩) n tc, .bool ex] 24)).heap.size = w.heap.size + 1 := by simp
      rw [← hW, ← h1]
      exact heap_alloc_last _ _
    clear hW
    go_loopw [5] (fun i_ w' => ∃ i : Nat, i_ = .int .i64 i ∧ i ≤ n ∧ Hid (Grew W w')) (fun i_ _ => n - (intOf i_).toNat)
    case atStart => exact ⟨0, rfl, Nat.zero_le _, Grew.refl _⟩
    case round =>
      obtain ⟨i, rfl, hi, G⟩ := hrel
      obtain ⟨w0, hw0⟩ : ∃ w0, w0 = wr := ⟨_, rfl⟩
      rw [← hw0] at G ⊢
      clear hw0
      have oa := (G.out.turn []).other A0.out (by simp)
      have ob := (G.out.turn []).other B0.out (by simp)
      have ta0 := cell_of oa 0
      have tb0 := cell_of ob 0
      have hn1 := lt_of_obj oa
      have hn2 := lt_of_obj ob
      simp at ta0 tb0
      clear oa ob
      by_cases hlt : i < n
      · obtain ⟨x, hx⟩ : ∃ x, l[i]? = some x := ⟨_, List.getElem?_eq_getElem (by have := HN.out; omega)⟩
        have g0 : Grew w w0 := G0.out.trans G.out
        obtain ⟨es, c1, e1⟩ := subs_cell (Z.out.grew g0) HN.out hx
        obtain ⟨fs, c2, f1⟩ := subs_cell (Y.out.grew g0) HN.out hx
        have SC : Hid (∀ w', Grew w0 w' → Calls Tryz.prog 14 #[.agg es.toArray, .agg fs.toArray] w' fun en w'' => en = .returned (.bool true) ∧ Grew w' w'') := fun w' gw => sameSub_any (c1.grew gw) (c2.grew gw) c1.max
        have hg1 : g < w0.heap.size := Nat.lt_of_lt_of_le hg1' g0.2
        have hg2 : g' < w0.heap.size := Nat.lt_of_lt_of_le hg2' g0.2
        obtain ⟨sv, pv, rv, fv, hcs, z1, z2, z3, z4⟩ := c1
        obtain ⟨sv', pv', rv', fv', hds, y1, y2, y3, y4⟩ := c2
        obtain ⟨sa, sc, k1⟩ := row_one z1
        obtain ⟨pa, pc, k2⟩ := row_one z2
        obtain ⟨ra, rc, k3⟩ := row_one z3
        obtain ⟨fa, fc, k4⟩ := row_one z4
        obtain ⟨sa', sc', k5⟩ := row_one y1
        obtain ⟨pa', pc', k6⟩ := row_one y2
        obtain ⟨ra', rc', k7⟩ := row_one y3
        obtain ⟨fa', fc', k8⟩ := row_one y4
        subst k1
        subst k2
        subst k3
        subst k4
        subst k5
        subst k6
        subst k7
        subst k8
        subst hcs
        subst hds
        have p0 : w0.cell? ⟨g, i * 6, none⟩ = some (.bool x.final_) := e1 0 (by omega)
        have p1 : w0.cell? ⟨g, i * 6 + 1, none⟩ = some (.slice sa x.supers.length sc) := e1 1 (by omega)
        have p2 : w0.cell? ⟨g, i * 6 + 2, none⟩ = some (.int .i64 x.comp.kind) := e1 2 (by omega)
        have p3 : w0.cell? ⟨g, i * 6 + 3, none⟩ = some (.slice pa x.comp.params.length pc) := e1 3 (by omega)
        have p4 : w0.cell? ⟨g, i * 6 + 4, none⟩ = some (.slice ra x.comp.results.length rc) := e1 4 (by omega)
        have p5 : w0.cell? ⟨g, i * 6 + 5, none⟩ = some (.slice fa x.comp.fields.length fc) := e1 5 (by omega)
        have q0 : w0.cell? ⟨g', i * 6, none⟩ = some (.bool x.final_) := f1 0 (by omega)
        have q1 : w0.cell? ⟨g', i * 6 + 1, none⟩ = some (.slice sa' x.supers.length sc') := f1 1 (by omega)
        have q2 : w0.cell? ⟨g', i * 6 + 2, none⟩ = some (.int .i64 x.comp.kind) := f1 2 (by omega)
        have q3 : w0.cell? ⟨g', i * 6 + 3, none⟩ = some (.slice pa' x.comp.params.length pc') := f1 3 (by omega)
        have q4 : w0.cell? ⟨g', i * 6 + 4, none⟩ = some (.slice ra' x.comp.results.length rc') := f1 4 (by omega)
        have q5 : w0.cell? ⟨g', i * 6 + 5, none⟩ = some (.slice fa' x.comp.fields.length fc') := f1 5 (by omega)
        have d1 : decide ((i : Int) < (n : Int)) = true := by simp; omega
        have d2 : decide (i < n) = true := by simp; omega
        have G2 : Hid (Grew W w0) := G.out
        clear e1 f1 z1 z2 z3 z4 y1 y2 y3 y4 hx g0 G
        go_wp2_with fail
        refine wp_region_ck [(w.heap.size, 0, .slice (some ⟨g, 0, none⟩) n tc), (w.heap.size + 1, 0, .slice (some ⟨g', 0, none⟩) n tc'), (g, i * 6, .bool x.final_), (g, i * 6 + 1, .slice sa x.supers.length sc), (g, i * 6 + 2, .int .i64 x.comp.kind), (g, i * 6 + 3, .slice pa x.comp.params.length pc), (g, i * 6 + 4, .slice ra x.comp.results.length rc), (g, i * 6 + 5, .slice fa x.comp.fields.length fc), (g', i * 6, .bool x.final_), (g', i * 6 + 1, .slice sa' x.supers.length sc'), (g', i * 6 + 2, .int .i64 x.comp.kind), (g', i * 6 + 3, .slice pa' x.comp.params.length pc'), (g', i * 6 + 4, .slice ra' x.comp.results.length rc'), (g', i * 6 + 5, .slice fa' x.comp.fields.length fc')] (by kernel_rfl) (by kernel_rfl) ⟨⟨hn1, ta0⟩, ⟨hn2, tb0⟩, ⟨hg1, p0⟩, ⟨hg1, p1⟩, ⟨hg1, p2⟩, ⟨hg1, p3⟩, ⟨hg1, p4⟩, ⟨hg1, p5⟩, ⟨hg2, q0⟩, ⟨hg2, q1⟩, ⟨hg2, q2⟩, ⟨hg2, q3⟩, ⟨hg2, q4⟩, ⟨hg2, q5⟩, trivial⟩ ?_
        repeat (first
          | go_big_quiet_skip
          | (go_big_quiet_want
             go_big_quiet_op
             first
             | go_big_quiet_on
             | (refine ⟨_, fun _ _ => rfl, ?_⟩; go_big_quiet_on)
             | (refine ⟨.slice (some ⟨g, 0, none⟩) n tc, fun w' hw' => ?_, ?_⟩
                · (obtain ⟨_, ⟨_, hc0⟩, ⟨_, hc1⟩, ⟨_, hc2⟩, ⟨_, hc3⟩, ⟨_, hc4⟩, ⟨_, hc5⟩, ⟨_, hc6⟩, ⟨_, hc7⟩, ⟨_, hc8⟩, ⟨_, hc9⟩, ⟨_, hc10⟩, ⟨_, hc11⟩, ⟨_, hc12⟩, ⟨_, hc13⟩, _⟩ := hw'; go_simp; done)
                go_big_quiet_on)
             | (refine ⟨.slice (some ⟨g', 0, none⟩) n tc', fun w' hw' => ?_, ?_⟩
                · (obtain ⟨_, ⟨_, hc0⟩, ⟨_, hc1⟩, ⟨_, hc2⟩, ⟨_, hc3⟩, ⟨_, hc4⟩, ⟨_, hc5⟩, ⟨_, hc6⟩, ⟨_, hc7⟩, ⟨_, hc8⟩, ⟨_, hc9⟩, ⟨_, hc10⟩, ⟨_, hc11⟩, ⟨_, hc12⟩, ⟨_, hc13⟩, _⟩ := hw'; go_simp; done)
                go_big_quiet_on)
             | (refine ⟨.agg #[.bool x.final_, .slice sa x.supers.length sc, .int .i64 x.comp.kind, .slice pa x.comp.params.length pc, .slice ra x.comp.results.length rc, .slice fa x.comp.fields.length fc], fun w' hw' => ?_, ?_⟩
                · (obtain ⟨_, ⟨_, hc0⟩, ⟨_, hc1⟩, ⟨_, hc2⟩, ⟨_, hc3⟩, ⟨_, hc4⟩, ⟨_, hc5⟩, ⟨_, hc6⟩, ⟨_, hc7⟩, ⟨_, hc8⟩, ⟨_, hc9⟩, ⟨_, hc10⟩, ⟨_, hc11⟩, ⟨_, hc12⟩, ⟨_, hc13⟩, _⟩ := hw'; go_simp; done)
                go_big_quiet_on)
             | (refine ⟨.agg #[.bool x.final_, .slice sa' x.supers.length sc', .int .i64 x.comp.kind, .slice pa' x.comp.params.length pc', .slice ra' x.comp.results.length rc', .slice fa' x.comp.fields.length fc'], fun w' hw' => ?_, ?_⟩
                · (obtain ⟨_, ⟨_, hc0⟩, ⟨_, hc1⟩, ⟨_, hc2⟩, ⟨_, hc3⟩, ⟨_, hc4⟩, ⟨_, hc5⟩, ⟨_, hc6⟩, ⟨_, hc7⟩, ⟨_, hc8⟩, ⟨_, hc9⟩, ⟨_, hc10⟩, ⟨_, hc11⟩, ⟨_, hc12⟩, ⟨_, hc13⟩, _⟩ := hw'; go_simp; done)
                go_big_quiet_on)
             | (apply Exists.intro
                refine ⟨fun w' hw' => ?_, ?_⟩
                · (first
                   | exact hw'.call (SC.out _ hw'.1))
                go_big_quiet_on)))
        refine wpQuiet_nil ?_
        rintro w6 ⟨g6, _⟩
        have G6 : Hid (Grew W w6) := G2.out.trans g6
        clear g6
        go_wp2_with fail
        go_roundw
        case rel => exact ⟨i + 1, by go_num, by omega, G6.out⟩
        case measure => simp [intOf]; omega
      · have d1 : decide ((i : Int) < (n : Int)) = false := by simp; omega
        go_wp2_with fail
        go_ret
        exact ⟨rfl, G0.out.trans G.out⟩
end Go.Proofs.YtchehejjdinifaaGreatDoor
