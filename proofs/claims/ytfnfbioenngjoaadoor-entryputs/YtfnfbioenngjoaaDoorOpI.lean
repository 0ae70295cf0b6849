/-
  Imports and exports among the arguments: what a datum gives; no statement is proved here.
-/
import Derived.Test.YtfnfbioenngjoaaDoorN2P
import Derived.Deep.Slices
import Derived.Deep.Strs
import Derived.ChangeSame
import Derived.SizedLaws
namespace Go.Proofs.YtfnfbioenngjoaaDoor
open Go.RowKit Go.ChangeShapes Go.WideShapes Go.ChangeAt
set_option linter.unusedVariables false
set_option linter.unusedSimpArgs false

section
variable {H : Type} {enc : TypeId × Value → H} {w : World} {base : Nat} {held : Bool}
theorem ci_int : Tryd.prog.cellsOf 3 = 1 := by kernel_rfl
theorem ci_bool : Tryd.prog.cellsOf 4 = 1 := by kernel_rfl
theorem ci_u64 : Tryd.prog.cellsOf 24 = 1 := by kernel_rfl
theorem ci_u32 : Tryd.prog.cellsOf 35 = 1 := by kernel_rfl
theorem ci_str : Tryd.prog.cellsOf 9 = 1 := by kernel_rfl
theorem ci_V : Tryd.prog.cellsOf 23 = 3 := by kernel_rfl
theorem ci_L : Tryd.prog.cellsOf 26 = 4 := by kernel_rfl
theorem ci_T : Tryd.prog.cellsOf 28 = 7 := by kernel_rfl
theorem ci_G : Tryd.prog.cellsOf 30 = 4 := by kernel_rfl
theorem ci_E : Tryd.prog.cellsOf 32 = 17 := by kernel_rfl
def B64 (n : Int) : Prop := -9223372036854775808 ≤ n ∧ n ≤ 9223372036854775807
def BU (n : Int) : Prop := 0 ≤ n ∧ n ≤ 18446744073709551615
set_option maxRecDepth 100000 in
theorem oi_V {fuel : Nat} {cs : List Value} {x : DataW H × List MemPlace} (h : DataW.trod enc Tryd.prog w base (fun _ => true) held fuel 23 cs = some x) (hl : cs.length = 3) : ∃ n nul hp, cs = [.int .i64 n, .bool nul, .int .i64 hp] ∧ B64 hp := by
  obtain ⟨xs, m', _, rfl, _, hxl, hf⟩ := DataW.trod_struct Tryd.underlying23 h
  match cs, hl with
  | [c0, c1, c2], _ =>
    match xs, hxl with
    | [z0, z1, z2], _ =>
      have g0 := hf 0 _ rfl
      have g1 := hf 1 _ rfl
      have g2 := hf 2 _ rfl
      simp only [ci_bool, ci_int, List.getElem_toArray, List.getElem_cons_zero, List.getElem_cons_succ, List.drop, List.take, List.getElem?_cons_zero, List.getElem?_cons_succ] at g0 g1 g2
      obtain ⟨a, e0, _, wa⟩ := DataW.trod_int Tryd.underlying3 g0
      obtain ⟨p, e1, _⟩ := DataW.trod_bool Tryd.underlying4 g1
      obtain ⟨q, e2, _, wq⟩ := DataW.trod_int Tryd.underlying3 g2
      simp only [List.cons.injEq, and_true] at e0 e1 e2
      subst e0 e1 e2
      exact ⟨a, p, q, rfl, bounds_i64 wq⟩
set_option maxRecDepth 100000 in
theorem oi_L {fuel : Nat} {cs : List Value} {x : DataW H × List MemPlace} (h : DataW.trod enc Tryd.prog w base (fun _ => true) held fuel 26 cs = some x) (hl : cs.length = 4) : ∃ wide mn mx hm, cs = [.bool wide, .int .u64 mn, .int .u64 mx, .bool hm] ∧ BU mn ∧ BU mx := by
  obtain ⟨xs, m', _, rfl, _, hxl, hf⟩ := DataW.trod_struct Tryd.underlying26 h
  match cs, hl with
  | [c0, c1, c2, c3], _ =>
    match xs, hxl with
    | [z0, z1, z2, z3], _ =>
      have g0 := hf 0 _ rfl
      have g1 := hf 1 _ rfl
      have g2 := hf 2 _ rfl
      have g3 := hf 3 _ rfl
      simp only [ci_bool, ci_u64, List.getElem_toArray, List.getElem_cons_zero, List.getElem_cons_succ, List.drop, List.take, List.getElem?_cons_zero, List.getElem?_cons_succ] at g0 g1 g2 g3
      obtain ⟨a, e0, _⟩ := DataW.trod_bool Tryd.underlying4 g0
      obtain ⟨b, e1, _, wb⟩ := DataW.trod_int Tryd.underlying24 g1
      obtain ⟨c, e2, _, wc⟩ := DataW.trod_int Tryd.underlying24 g2
      obtain ⟨d, e3, _⟩ := DataW.trod_bool Tryd.underlying4 g3
      simp only [List.cons.injEq, and_true] at e0 e1 e2 e3
      subst e0 e1 e2 e3
      exact ⟨a, b, c, d, rfl, bounds_u64 wb, bounds_u64 wc⟩
set_option maxRecDepth 100000 in
theorem oi_T {fuel : Nat} {cs : List Value} {x : DataW H × List MemPlace} (h : DataW.trod enc Tryd.prog w base (fun _ => true) held fuel 28 cs = some x) (hl : cs.length = 7) : ∃ tn tz th tw tp tq tm, cs = [.int .i64 tn, .bool tz, .int .i64 th, .bool tw, .int .u64 tp, .int .u64 tq, .bool tm] ∧ B64 th ∧ BU tp ∧ BU tq := by
  obtain ⟨xs, m', _, rfl, _, hxl, hf⟩ := DataW.trod_struct Tryd.underlying28 h
  match cs, hl with
  | [c0, c1, c2, c3, c4, c5, c6], _ =>
    match xs, hxl with
    | [z0, z1], _ =>
      have g0 := hf 0 _ rfl
      have g1 := hf 1 _ rfl
      simp only [ci_V, ci_L, List.getElem_toArray, List.getElem_cons_zero, List.getElem_cons_succ, List.drop, List.take, List.getElem?_cons_zero, List.getElem?_cons_succ] at g0 g1
      obtain ⟨a, b, c, e0, r0⟩ := oi_V g0 rfl
      obtain ⟨d, e, f, g, e1, r1, r2⟩ := oi_L g1 rfl
      simp only [List.cons.injEq, and_true] at e0 e1
      obtain ⟨rfl, rfl, rfl⟩ := e0
      obtain ⟨rfl, rfl, rfl, rfl⟩ := e1
      exact ⟨a, b, c, d, e, f, g, rfl, r0, r1, r2⟩
set_option maxRecDepth 100000 in
theorem oi_G {fuel : Nat} {cs : List Value} {x : DataW H × List MemPlace} (h : DataW.trod enc Tryd.prog w base (fun _ => true) held fuel 30 cs = some x) (hl : cs.length = 4) : ∃ gn gz gh gm, cs = [.int .i64 gn, .bool gz, .int .i64 gh, .bool gm] ∧ B64 gh := by
  obtain ⟨xs, m', _, rfl, _, hxl, hf⟩ := DataW.trod_struct Tryd.underlying30 h
  match cs, hl with
  | [c0, c1, c2, c3], _ =>
    match xs, hxl with
    | [z0, z1], _ =>
      have g0 := hf 0 _ rfl
      have g1 := hf 1 _ rfl
      simp only [ci_V, ci_bool, List.getElem_toArray, List.getElem_cons_zero, List.getElem_cons_succ, List.drop, List.take, List.getElem?_cons_zero, List.getElem?_cons_succ] at g0 g1
      obtain ⟨a, b, c, e0, r0⟩ := oi_V g0 rfl
      obtain ⟨d, e1, _⟩ := DataW.trod_bool Tryd.underlying4 g1
      simp only [List.cons.injEq, and_true] at e0 e1
      obtain ⟨rfl, rfl, rfl⟩ := e0
      subst e1
      exact ⟨a, b, c, d, rfl, r0⟩
set_option maxRecDepth 100000 in
theorem oi_E {fuel : Nat} {cs : List Value} {x : DataW H × List MemPlace} (h : DataW.trod enc Tryd.prog w base (fun _ => true) held fuel 32 cs = some x) (hl : cs.length = 17) : ∃ k ty tn tz th tw tp tq tm mw mp mq mm gn gz gh gm, cs = [.int .i64 k, .int .i64 ty, .int .i64 tn, .bool tz, .int .i64 th, .bool tw, .int .u64 tp, .int .u64 tq, .bool tm, .bool mw, .int .u64 mp, .int .u64 mq, .bool mm, .int .i64 gn, .bool gz, .int .i64 gh, .bool gm] ∧ B64 ty ∧ B64 th ∧ BU tp ∧ BU tq ∧ BU mp ∧ BU mq ∧ B64 gh := by
  obtain ⟨xs, m', _, rfl, _, hxl, hf⟩ := DataW.trod_struct Tryd.underlying32 h
  match cs, hl with
  | [c0, c1, c2, c3, c4, c5, c6, c7, c8, c9, c10, c11, c12, c13, c14, c15, c16], _ =>
    match xs, hxl with
    | [z0, z1, z2, z3, z4], _ =>
      have g0 := hf 0 _ rfl
      have g1 := hf 1 _ rfl
      have g2 := hf 2 _ rfl
      have g3 := hf 3 _ rfl
      have g4 := hf 4 _ rfl
      simp only [ci_T, ci_L, ci_G, ci_int, List.getElem_toArray, List.getElem_cons_zero, List.getElem_cons_succ, List.drop, List.take, List.getElem?_cons_zero, List.getElem?_cons_succ] at g0 g1 g2 g3 g4
      obtain ⟨k, e0, _, wk⟩ := DataW.trod_int Tryd.underlying3 g0
      obtain ⟨ty, e1, _, wt⟩ := DataW.trod_int Tryd.underlying3 g1
      obtain ⟨tn, tz, th, tw, tp, tq, tm, e2, r1, r2, r3⟩ := oi_T g2 rfl
      obtain ⟨mw, mp, mq, mm, e3, r4, r5⟩ := oi_L g3 rfl
      obtain ⟨gn, gz, gh, gm, e4, r6⟩ := oi_G g4 rfl
      simp only [List.cons.injEq, and_true] at e0 e1 e2 e3 e4
      obtain ⟨rfl, rfl, rfl, rfl, rfl, rfl, rfl⟩ := e2
      obtain ⟨rfl, rfl, rfl, rfl⟩ := e3
      obtain ⟨rfl, rfl, rfl, rfl⟩ := e4
      subst e0 e1
      exact ⟨k, ty, tn, tz, th, tw, tp, tq, tm, mw, mp, mq, mm, gn, gz, gh, gm, rfl, bounds_i64 wt, r1, r2, r3, r4, r5, r6⟩
set_option maxRecDepth 100000 in
theorem open_IM {fuel : Nat} {cs : List Value} {x : DataW H × List MemPlace} (h : DataW.trod enc Tryd.prog w base (fun _ => true) held fuel 34 cs = some x) (hl : cs.length = 19) :
    ∃ (s1 s2 : ByteArray) (es : List Value), cs = .string s1 :: .string s2 :: es ∧ (∃ k ty tn tz th tw tp tq tm mw mp mq mm gn gz gh gm, es = [.int .i64 k, .int .i64 ty, .int .i64 tn, .bool tz, .int .i64 th, .bool tw, .int .u64 tp, .int .u64 tq, .bool tm, .bool mw, .int .u64 mp, .int .u64 mq, .bool mm, .int .i64 gn, .bool gz, .int .i64 gh, .bool gm] ∧ B64 ty ∧ B64 th ∧ BU tp ∧ BU tq ∧ BU mp ∧ BU mq ∧ B64 gh) ∧ ∃ y, x.1 = .agg [.lit (.string s1.data.toList), .lit (.string s2.data.toList), y] := by
  obtain ⟨xs, m', _, rfl, _, hxl, hf⟩ := DataW.trod_struct Tryd.underlying34 h
  match cs, hl with
  | [c0, c1, c2, c3, c4, c5, c6, c7, c8, c9, c10, c11, c12, c13, c14, c15, c16, c17, c18], _ =>
    match xs, hxl with
    | [z0, z1, z2], _ =>
      have g0 := hf 0 _ rfl
      have g1 := hf 1 _ rfl
      have g2 := hf 2 _ rfl
      simp only [ci_str, ci_E, List.getElem_toArray, List.getElem_cons_zero, List.getElem_cons_succ, List.drop, List.take, List.getElem?_cons_zero, List.getElem?_cons_succ] at g0 g1 g2
      obtain ⟨s1, e0, q0, _⟩ := DataW.trod_string Tryd.underlying9 g0
      obtain ⟨s2, e1, q1, _⟩ := DataW.trod_string Tryd.underlying9 g1
      have hE := oi_E g2 rfl
      simp only [List.cons.injEq, and_true] at e0 e1
      subst e0 e1 q0 q1
      exact ⟨s1, s2, _, rfl, hE, z2.1, rfl⟩
set_option maxRecDepth 100000 in
theorem open_EX {fuel : Nat} {cs : List Value} {x : DataW H × List MemPlace} (h : DataW.trod enc Tryd.prog w base (fun _ => true) held fuel 37 cs = some x) (hl : cs.length = 3) :
    ∃ (s : ByteArray) (k a : Int), cs = [.string s, .int .i64 k, .int .u32 a] ∧ (0 ≤ a ∧ a ≤ 4294967295) ∧ ∃ y z, x.1 = .agg [.lit (.string s.data.toList), y, z] := by
  obtain ⟨xs, m', _, rfl, _, hxl, hf⟩ := DataW.trod_struct Tryd.underlying37 h
  match cs, hl with
  | [c0, c1, c2], _ =>
    match xs, hxl with
    | [z0, z1, z2], _ =>
      have g0 := hf 0 _ rfl
      have g1 := hf 1 _ rfl
      have g2 := hf 2 _ rfl
      simp only [ci_str, ci_int, ci_u32, List.getElem_toArray, List.getElem_cons_zero, List.getElem_cons_succ, List.drop, List.take, List.getElem?_cons_zero, List.getElem?_cons_succ] at g0 g1 g2
      obtain ⟨s, e0, q0, _⟩ := DataW.trod_string Tryd.underlying9 g0
      obtain ⟨k, e1, _, _⟩ := DataW.trod_int Tryd.underlying3 g1
      obtain ⟨a, e2, _, wa⟩ := DataW.trod_int Tryd.underlying35 g2
      simp only [List.cons.injEq, and_true] at e0 e1 e2
      subst e0 e1 e2 q0
      exact ⟨s, k, a, rfl, bounds_u32 wa, z1.1, z2.1, rfl⟩
end
end Go.Proofs.YtfnfbioenngjoaaDoor
