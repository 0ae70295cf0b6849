/-
  What vref asks of a context: its types' fields and elements; no statement is proved here.
-/
import Derived.Test.YtnmbniojejckpaaGreatDoorCgW
import Derived.Test.YtnmbniojejckpaaGreatDoorPiL
import Derived.Test.YtnmbniojejckpaaGreatDoorGrO
import Derived.Test.YtnmbniojejckpaaGreatDoorVcX
import Derived.Test.YtnmbniojejckpaaGreatDoorMdN
import Derived.Test.YtnmbniojejckpaaGreatDoorOrd
import Derived.Laws.Rows
import Derived.Deep.MidRow
set_option maxRecDepth 100000
set_option maxHeartbeats 8000000
namespace Go.Proofs.YtnmbniojejckpaaGreatDoor
open Go.RowKit
set_option linter.unusedVariables false
set_option linter.unusedSimpArgs false
structure LMt where
  wide : Bool
  mn : Int
  mx : Int
  hm : Bool
structure GLt where
  ty : VT
  mut_ : Bool
structure TBt where
  el : VT
  lim : LMt
def LMt.v (p : LMt) : Value := .agg #[.bool p.wide, .int .u64 p.mn, .int .u64 p.mx, .bool p.hm]
def ELm (w : World) (b o : Nat) (p : LMt) : Prop := w.cell? ⟨b, o, none⟩ = some (.bool p.wide) ∧ w.cell? ⟨b, o + 1, none⟩ = some (.int .u64 p.mn) ∧ w.cell? ⟨b, o + 2, none⟩ = some (.int .u64 p.mx) ∧ w.cell? ⟨b, o + 3, none⟩ = some (.bool p.hm)
abbrev LLm := Lst 4 ELm
theorem LLm.grew {w w' : World} {v : Value} {l : List LMt} (h : LLm w v l) (g : Grew w w') : LLm w' v l := by
  obtain ⟨a, cap, hv, h1, h2, h3, h4⟩ := h
  refine ⟨a, cap, hv, h1, h2, h3, h4.imp_right ?_⟩
  rintro ⟨b, off, ha, hE⟩
  refine ⟨b, off, ha, fun i x hx => ?_⟩
  obtain ⟨e0, e1, e2, e3⟩ := hE i x hx
  exact ⟨cell_grew e0 g, cell_grew e1 g, cell_grew e2 g, cell_grew e3 g⟩
def GLt.v (p : GLt) : Value := .agg #[.int .i64 p.ty.num, .bool p.ty.null, .int .i64 p.ty.heap, .bool p.mut_]
def EGl (w : World) (b o : Nat) (p : GLt) : Prop := w.cell? ⟨b, o, none⟩ = some (.int .i64 p.ty.num) ∧ w.cell? ⟨b, o + 1, none⟩ = some (.bool p.ty.null) ∧ w.cell? ⟨b, o + 2, none⟩ = some (.int .i64 p.ty.heap) ∧ w.cell? ⟨b, o + 3, none⟩ = some (.bool p.mut_)
abbrev LGl := Lst 4 EGl
theorem LGl.grew {w w' : World} {v : Value} {l : List GLt} (h : LGl w v l) (g : Grew w w') : LGl w' v l := by
  obtain ⟨a, cap, hv, h1, h2, h3, h4⟩ := h
  refine ⟨a, cap, hv, h1, h2, h3, h4.imp_right ?_⟩
  rintro ⟨b, off, ha, hE⟩
  refine ⟨b, off, ha, fun i x hx => ?_⟩
  obtain ⟨e0, e1, e2, e3⟩ := hE i x hx
  exact ⟨cell_grew e0 g, cell_grew e1 g, cell_grew e2 g, cell_grew e3 g⟩
def TBt.v (p : TBt) : Value := .agg #[.int .i64 p.el.num, .bool p.el.null, .int .i64 p.el.heap, .bool p.lim.wide, .int .u64 p.lim.mn, .int .u64 p.lim.mx, .bool p.lim.hm]
def ETb (w : World) (b o : Nat) (p : TBt) : Prop := w.cell? ⟨b, o, none⟩ = some (.int .i64 p.el.num) ∧ w.cell? ⟨b, o + 1, none⟩ = some (.bool p.el.null) ∧ w.cell? ⟨b, o + 2, none⟩ = some (.int .i64 p.el.heap) ∧ w.cell? ⟨b, o + 3, none⟩ = some (.bool p.lim.wide) ∧ w.cell? ⟨b, o + 4, none⟩ = some (.int .u64 p.lim.mn) ∧ w.cell? ⟨b, o + 5, none⟩ = some (.int .u64 p.lim.mx) ∧ w.cell? ⟨b, o + 6, none⟩ = some (.bool p.lim.hm)
abbrev LTb := Lst 7 ETb
theorem LTb.grew {w w' : World} {v : Value} {l : List TBt} (h : LTb w v l) (g : Grew w w') : LTb w' v l := by
  obtain ⟨a, cap, hv, h1, h2, h3, h4⟩ := h
  refine ⟨a, cap, hv, h1, h2, h3, h4.imp_right ?_⟩
  rintro ⟨b, off, ha, hE⟩
  refine ⟨b, off, ha, fun i x hx => ?_⟩
  obtain ⟨e0, e1, e2, e3, e4, e5, e6⟩ := hE i x hx
  exact ⟨cell_grew e0 g, cell_grew e1 g, cell_grew e2 g, cell_grew e3 g, cell_grew e4 g, cell_grew e5 g, cell_grew e6 g⟩
theorem atVT_out {w : World} {v : Value} {l : List VT} (h : LV w v l) {n : Nat} (hn : l.length ≤ n) (h32 : n < 4294967296) :
    Calls Tryz.prog 86 #[v, .int .u32 (n : Int)] w fun en w' => en = .returned (.tuple #[.agg #[.int .i64 0, .bool false, .int .i64 0], .int .i64 150]) ∧ Grew w w' := by
  obtain ⟨a, cap, hv, hle, hmx⟩ := h.one
  subst hv
  have e1 : IntKind.u64.wrap (n : Int) = (n : Int) := by rw [IntKind.wrap_u64]; omega
  have e2 : IntKind.u64.wrap (l.length : Int) = (l.length : Int) := by rw [IntKind.wrap_u64]; omega
  have d1 : decide ((l.length : Int) ≤ (n : Int)) = true := by simp; omega
  have d2 : decide (l.length ≤ n) = true := by simp; omega
  clear h
  go_enter Tryz.func86, Tryz.ntmps86
  go_wp2_with fail
  refine bodyPost_ret (v := .tuple #[.agg #[.int .i64 0, .bool false, .int .i64 0], .int .i64 150]) (by simp [results, Tryz.results86, go_sem]) rfl ?_
  exact ⟨rfl, by repeat (first | with_reducible exact .refl _ | refine .alloc ?_ _ | refine .set ?_ (by simp) _)⟩
theorem atVT_in {w : World} {v : Value} {l : List VT} (h : LV w v l) {n : Nat} {p : VT} (hp : l[n]? = some p) (h32 : n < 4294967296) :
    Calls Tryz.prog 86 #[v, .int .u32 (n : Int)] w fun en w' => en = .returned (.tuple #[.agg #[.int .i64 p.num, .bool p.null, .int .i64 p.heap], .int .i64 0]) ∧ Grew w w' := by
  obtain ⟨a, cap, hv, hle, hmx⟩ := h.one
  subst hv
  have hn := (List.getElem?_eq_some_iff.1 hp).1
  obtain ⟨b, off, ha, hc, hE⟩ := h.get (by omega)
  subst ha
  obtain ⟨x0, x1, x2⟩ := hE n p hp
  have e1 : IntKind.u64.wrap (n : Int) = (n : Int) := by rw [IntKind.wrap_u64]; omega
  have e2 : IntKind.u64.wrap (l.length : Int) = (l.length : Int) := by rw [IntKind.wrap_u64]; have := hmx; simp [maxLen] at this; omega
  have d1 : decide ((l.length : Int) ≤ (n : Int)) = false := by simp; omega
  have d2 : decide (l.length ≤ n) = false := by simp; omega
  have d3 : decide (n < l.length) = true := by simp; omega
  have d4 : decide ((n : Int) < (l.length : Int)) = true := by simp; omega
  have d5 : (n : Int) < (l.length : Int) := by omega
  have hxl := lt_of_cell x0
  clear h hE hp
  go_enter Tryz.func86, Tryz.ntmps86
  go_wp2_with fail
  refine bodyPost_ret (v := .tuple #[.agg #[.int .i64 p.num, .bool p.null, .int .i64 p.heap], .int .i64 0]) (by simp [results, Tryz.results86, go_sem]) rfl ?_
  exact ⟨rfl, by repeat (first | with_reducible exact .refl _ | refine .alloc ?_ _ | refine .set ?_ (by simp) _)⟩
variable {G : Value → Prop}
theorem call_pushF (p q : Value) (w : World) : (callFunc 21 #[p, q]).run Tryz.prog w = .ok (.enter 21 #[p, q]) w := by kernel_rfl
theorem step_pushF {ops' : Array Oper} {o : Oper} {a : Act} {w : World} {K : Act → World → Prop} {Q : Exit → Act → World → Prop} {E : Prop} (x y : Operand) {B : Nat} {C : Nat} {lv fv ov qv : Value} {lo : List LO} {fr : List Int} {ops : List VT} {fs : List FV} (h : CHK G B w C lv fv ov qv lo fr ops fs) {u : Value} {l : List FV} (hr : Raw 6 w u l.length (l.flatMap FV.c)) (hn : fs.length + l.length ≤ 8388608) (hsl : ∀ x ∈ l, isSl x.inn ∧ isSl x.out) {t1 t2 : TypeId}
    (hop : o.op = .call { callee := .value (.func 21), args := #[x, y], argTypes := #[t1, t2] }) (hg : o.guard = none) (hx : a.eval x = .pointer (some ⟨C, 6, none⟩)) (hy : a.eval y = u)
    (hk : ∀ v' w', CHK G B w' C lv fv ov v' lo fr ops (fs ++ l) → KB B w w' → Two C qv w w' → K (a.put o.dst (.tuple #[])) w') :
    if Region.wanted o (yielded ops' a.tmps) = true then Oper.wp Tryz.prog o a w K Q else E :=
  step_callFk hop (by simp [Region.wanted, hg]) (args := #[.pointer (some ⟨C, 6, none⟩), u]) (by simp [hx, hy]) (call_pushF _ _ w) (pushF_any h hr hn hsl) (by rintro e w' ⟨v', rfl, h1, h2, h3⟩; exact Or.inl ⟨_, rfl, hk v' w' h1 h2 h3⟩)
/- One frame in a row of its own. -/
theorem raw_frame {w : World} (x : FV) (hx : isSl x.inn ∧ isSl x.out) {t : TypeId} : Raw 6 (w.alloc (.cells #[.int .i64 x.op, x.inn, x.out, .int .i64 x.height, .int .i64 x.fresh, .bool x.dead] t)) (.slice (some ⟨w.heap.size, 0, none⟩) 1 1) 1 (([x] : List FV).flatMap FV.c) := by
  refine ⟨rfl, ?_, some ⟨w.heap.size, 0, none⟩, 1, rfl, Nat.le_refl _, by decide, (fun h => by cases h), Or.inr ⟨w.heap.size, 0, rfl, fun j u hu => ?_⟩⟩
  · intro u hu
    simp [FV.c] at hu
    rcases hu with rfl | rfl | rfl | rfl | rfl | rfl
    · rfl
    · exact hx.1.one
    · exact hx.2.one
    · rfl
    · rfl
    · rfl
  · rw [Nat.zero_add, cell_of (heap_alloc_last _ _)]
    simpa [FV.c] using hu
def Stop (p : Prop) : Prop := p
theorem stop_load {P : Program} {ops : Array Oper} {rest : List Oper} {o : Oper} {a : Act} {w : World} {Q : Exit → Act → World → Prop} (ty : TypeId) {x : Operand} (ho : o.op = .load ty x) (h : Stop (wpList P ops Q (o :: rest) a w)) : wpList P ops Q (o :: rest) a w := h
def EBo (w : World) (b o : Nat) (x : Bool) : Prop := w.cell? ⟨b, o, none⟩ = some (.bool x)
abbrev LBo := Lst 1 EBo
theorem LBo.grew {w w' : World} {v : Value} {l : List Bool} (h : LBo w v l) (g : Grew w w') : LBo w' v l := Lst.grew (E := EBo) (fun _ _ _ _ _ h g => cell_grew h g) h g
/- A context as its nine cells. -/
structure CTX (w : World) (cx : Array Value) (TT : List RT) (FL : List Int) (EL : List VT) (RB : List Bool) (dt : Int) : Prop where
  sz : cx.size = 9
  types : ∃ v, cx[0]? = some v ∧ LR w v TT
  sum : (TT.map muR).sum ≤ 1048576
  fit : Fit TT
  tab : Tab w
  funcs : ∃ v, cx[1]? = some v ∧ LI w v FL
  elems : ∃ v, cx[6]? = some v ∧ LV w v EL
  datas : cx[7]? = some (.int .i64 dt)
  refs : ∃ v, cx[8]? = some v ∧ LBo w v RB
theorem CTX.grew {w w' : World} {cx : Array Value} {TT : List RT} {FL : List Int} {EL : List VT} {RB : List Bool} {dt : Int} (h : CTX w cx TT FL EL RB dt) (g : Grew w w') : CTX w' cx TT FL EL RB dt := by
  obtain ⟨a, ha, la⟩ := h.types
  obtain ⟨b, hb, lb⟩ := h.funcs
  obtain ⟨c, hc, lc⟩ := h.elems
  obtain ⟨d, hd, ld⟩ := h.refs
  exact ⟨h.sz, ⟨a, ha, la.grew g⟩, h.sum, h.fit, h.tab.grew g, ⟨b, hb, lb.grew g⟩, ⟨c, hc, lc.grew g⟩, h.datas, ⟨d, hd, ld.grew g⟩⟩
theorem flat_sml {L : List RT} (h : SmlL L) {m : Nat} {x : SB} (hx : (flatT L)[m]? = some x) : x.comp.fields.length ≤ 1048576 := by
  have hm := List.mem_of_getElem? hx
  unfold flatT at hm
  obtain ⟨r, hr, hxr⟩ := List.mem_flatMap.1 hm
  have := h.2.2 r hr x hxr
  unfold Sml at this
  omega
section
variable {w : World} {cx : Array Value} {TT : List RT} {FL : List Int} {EL : List VT} {RB : List Bool} {dt : Int}
theorem CTX.comp (h : CTX w cx TT FL EL RB dt) {tv : Value} (ht : cx[0]? = some tv) (n kd : Int) (hn : n ≤ 9223372036854775807) {X : World} (g : Grew w X) :
    Calls Tryz.prog 105 #[tv, .int .i64 n, .int .i64 kd] X fun en w' => ∃ pa pn pc ra rn rc fv k l e, en = .returned (.tuple #[.agg #[.int .i64 k, .slice pa pn pc, .slice ra rn rc, fv], .int .i64 e]) ∧ (e = 0 ∨ e = 150 ∨ e = 151) ∧ LF w' fv l ∧ l.length ≤ 1048576 ∧ Grew X w' := by
  obtain ⟨v, hv, hl⟩ := h.types
  have : v = tv := Option.some.inj (hv.symm.trans ht)
  subst this
  have hs := sml_of h.sum
  refine (scomp_any (hl.grew g) hs.1 hs.2.1 n hn kd).mono ?_
  rintro en w' ⟨⟨m, x, pv, rv, fv, _, hx, _, hp, hr, hf, rfl⟩ | ⟨m, x, _, _, _, rfl⟩ | ⟨_, rfl⟩, g'⟩
  · obtain ⟨pa, pc, e1, _⟩ := hp.one
    obtain ⟨ra, rc, e2, _⟩ := hr.one
    subst e1 e2
    exact ⟨_, _, _, _, _, _, fv, kd, _, 0, rfl, Or.inl rfl, hf, flat_sml hs hx, g'⟩
  · exact ⟨none, 0, 0, none, 0, 0, NILS, 0, [], 151, rfl, Or.inr (Or.inr rfl), Lst.nil _ _ _, by simp, g'⟩
  · exact ⟨none, 0, 0, none, 0, 0, NILS, 0, [], 150, rfl, Or.inr (Or.inl rfl), Lst.nil _ _ _, by simp, g'⟩
theorem fields_any (h : CTX w cx TT FL EL RB dt) (n : Nat) (h32 : n < 4294967296) {X : World} (g : Grew w X) :
    Calls Tryz.prog 70 #[.agg cx, .int .u32 (n : Int)] X fun en w' => ∃ fv l e, en = .returned (.tuple #[fv, .int .i64 e]) ∧ (e = 0 ∨ e = 150 ∨ e = 151) ∧ LF w' fv l ∧ l.length ≤ 1048576 ∧ Grew X w' := by
  obtain ⟨tv, ht, hl⟩ := h.types
  have CC : Hid (∀ Y, Grew X Y → Calls Tryz.prog 105 #[tv, .int .i64 (n : Int), .int .i64 2] Y fun en w' => ∃ pa pn pc ra rn rc fv k l e, en = .returned (.tuple #[.agg #[.int .i64 k, .slice pa pn pc, .slice ra rn rc, fv], .int .i64 e]) ∧ (e = 0 ∨ e = 150 ∨ e = 151) ∧ LF w' fv l ∧ l.length ≤ 1048576 ∧ Grew Y w') := fun Y gy => h.comp ht _ 2 (by omega) (g.trans gy)
  have hw : IntKind.i64.wrap (n : Int) = (n : Int) := by rw [IntKind.wrap_i64]; omega
  obtain ⟨ta, tc, e1, _⟩ := hl.one
  subst e1
  have hsz := h.sz
  have q0 : (X.alloc (.cells cx 30)).cell? ⟨X.heap.size, 0, none⟩ = some (.slice ta TT.length tc) := (cell_of (heap_alloc_last _ _) 0).trans ht
  clear h hl g ht
  go_enter Tryz.func70, Tryz.ntmps70
  go_wp2_with fail
  refine (CC.out _ ((Grew.refl X).alloc _)).mono ?_
  rintro en w1 ⟨pa, pn, pc, ra, rn, rc, fv, k, l, e, rfl, he, hf, hl, g1⟩
  have gx : Grew X w1 := Grew.trans ((Grew.refl X).alloc _) g1
  have G1 := Hid.mk' gx
  have HF := Hid.mk' hf
  obtain ⟨fa, fc, e1, _⟩ := hf.one
  subst e1
  have HE : Hid ((e = 0 ∨ e = 150 ∨ e = 151) ∧ l.length ≤ 1048576) := ⟨he, hl⟩
  clear gx g1 hf he hl CC
  go_wp2_with fail
  refine bodyPost_ret (v := .tuple #[.slice fa l.length fc, .int .i64 e]) (by simp [results, Tryz.results70, go_sem]) rfl ?_
  have gz : Grew w1 (w1.alloc (.cells #[.int .i64 k, .slice pa pn pc, .slice ra rn rc, .slice fa l.length fc] 106)) := (Grew.refl _).alloc _
  exact ⟨_, l, e, rfl, HE.out.1, HF.out.grew gz, HE.out.2, G1.out.trans gz⟩
end
end Go.Proofs.YtnmbniojejckpaaGreatDoor
