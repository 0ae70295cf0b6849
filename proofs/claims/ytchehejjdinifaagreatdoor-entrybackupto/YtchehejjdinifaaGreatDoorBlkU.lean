/-
  What the bound of an upto statement gives: how long a slice of bytes among the arguments may be; no statement is proved here.
-/
import Derived.Test.YtchehejjdinifaaGreatDoorE8n
import Derived.Deep.Slices
import Derived.Deep.Strs
import Derived.ChangeSame
import Derived.SizedLaws
import Derived.Test.YtchehejjdinifaaGreatDoorReaders
import Derived.ChangeMaps5
import Derived.ShutString
import Derived.ChangeOld
import Derived.Below
import Derived.Test.YtchehejjdinifaaGreatDoorRows
namespace Go.Proofs.YtchehejjdinifaaGreatDoor
open Go.RowKit Go.ChangeShapes Go.WideShapes Go.ChangeAt
set_option linter.unusedVariables false
set_option linter.unusedSimpArgs false

section
variable {H : Type} {enc : TypeId × Value → H} {w : World} {base : Nat} {held : Bool}
theorem ci_int : Tryz.prog.cellsOf 3 = 1 := by kernel_rfl
theorem ci_bool : Tryz.prog.cellsOf 4 = 1 := by kernel_rfl
theorem ci_u64 : Tryz.prog.cellsOf 27 = 1 := by kernel_rfl
theorem ci_u32 : Tryz.prog.cellsOf 86 = 1 := by kernel_rfl
theorem ci_str : Tryz.prog.cellsOf 9 = 1 := by kernel_rfl
theorem ci_V : Tryz.prog.cellsOf 26 = 3 := by kernel_rfl
theorem ci_L : Tryz.prog.cellsOf 29 = 4 := by kernel_rfl
theorem ci_T : Tryz.prog.cellsOf 31 = 7 := by kernel_rfl
theorem ci_G : Tryz.prog.cellsOf 33 = 4 := by kernel_rfl
theorem ci_E : Tryz.prog.cellsOf 35 = 17 := by kernel_rfl
def B64 (n : Int) : Prop := -9223372036854775808 ≤ n ∧ n ≤ 9223372036854775807
def BU (n : Int) : Prop := 0 ≤ n ∧ n ≤ 18446744073709551615
set_option maxRecDepth 100000 in
theorem oi_V {fuel : Nat} {cs : List Value} {x : DataW H × List MemPlace} (h : DataW.trod enc Tryz.prog w base (fun _ => true) held fuel 26 cs = some x) (hl : cs.length = 3) : ∃ n nul hp, cs = [.int .i64 n, .bool nul, .int .i64 hp] ∧ B64 hp := by
  obtain ⟨xs, m', _, rfl, _, hxl, hf⟩ := DataW.trod_struct Tryz.underlying26 h
  match cs, hl with
  | [c0, c1, c2], _ =>
    match xs, hxl with
    | [z0, z1, z2], _ =>
      have g0 := hf 0 _ rfl
      have g1 := hf 1 _ rfl
      have g2 := hf 2 _ rfl
      simp only [ci_bool, ci_int, List.getElem_toArray, List.getElem_cons_zero, List.getElem_cons_succ, List.drop, List.take, List.getElem?_cons_zero, List.getElem?_cons_succ] at g0 g1 g2
      obtain ⟨a, e0, _, wa⟩ := DataW.trod_int Tryz.underlying3 g0
      obtain ⟨p, e1, _⟩ := DataW.trod_bool Tryz.underlying4 g1
      obtain ⟨q, e2, _, wq⟩ := DataW.trod_int Tryz.underlying3 g2
      simp only [List.cons.injEq, and_true] at e0 e1 e2
      subst e0 e1 e2
      exact ⟨a, p, q, rfl, bounds_i64 wq⟩
set_option maxRecDepth 100000 in
theorem oi_L {fuel : Nat} {cs : List Value} {x : DataW H × List MemPlace} (h : DataW.trod enc Tryz.prog w base (fun _ => true) held fuel 29 cs = some x) (hl : cs.length = 4) : ∃ wide mn mx hm, cs = [.bool wide, .int .u64 mn, .int .u64 mx, .bool hm] ∧ BU mn ∧ BU mx := by
  obtain ⟨xs, m', _, rfl, _, hxl, hf⟩ := DataW.trod_struct Tryz.underlying29 h
  match cs, hl with
  | [c0, c1, c2, c3], _ =>
    match xs, hxl with
    | [z0, z1, z2, z3], _ =>
      have g0 := hf 0 _ rfl
      have g1 := hf 1 _ rfl
      have g2 := hf 2 _ rfl
      have g3 := hf 3 _ rfl
      simp only [ci_bool, ci_u64, List.getElem_toArray, List.getElem_cons_zero, List.getElem_cons_succ, List.drop, List.take, List.getElem?_cons_zero, List.getElem?_cons_succ] at g0 g1 g2 g3
      obtain ⟨a, e0, _⟩ := DataW.trod_bool Tryz.underlying4 g0
      obtain ⟨b, e1, _, wb⟩ := DataW.trod_int Tryz.underlying27 g1
      obtain ⟨c, e2, _, wc⟩ := DataW.trod_int Tryz.underlying27 g2
      obtain ⟨d, e3, _⟩ := DataW.trod_bool Tryz.underlying4 g3
      simp only [List.cons.injEq, and_true] at e0 e1 e2 e3
      subst e0 e1 e2 e3
      exact ⟨a, b, c, d, rfl, bounds_u64 wb, bounds_u64 wc⟩
set_option maxRecDepth 100000 in
theorem oi_T {fuel : Nat} {cs : List Value} {x : DataW H × List MemPlace} (h : DataW.trod enc Tryz.prog w base (fun _ => true) held fuel 31 cs = some x) (hl : cs.length = 7) : ∃ tn tz th tw tp tq tm, cs = [.int .i64 tn, .bool tz, .int .i64 th, .bool tw, .int .u64 tp, .int .u64 tq, .bool tm] ∧ B64 th ∧ BU tp ∧ BU tq := by
  obtain ⟨xs, m', _, rfl, _, hxl, hf⟩ := DataW.trod_struct Tryz.underlying31 h
  match cs, hl with
  | [c0, c1, c2, c3, c4, c5, c6], _ =>
    match xs, hxl with
    | [z0, z1], _ =>
      have g0 := hf 0 _ rfl
      have g1 := hf 1 _ rfl
      simp only [ci_V, ci_L, List.getElem_toArray, List.getElem_cons_zero, List.getElem_cons_succ, List.drop, List.take, List.getElem?_cons_zero, List.getElem?_cons_succ] at g0 g1
      obtain ⟨a, b, c, e0, r0⟩ := oi_V g0 rfl
      obtain ⟨d, e, f, g, e1, r1, r2⟩ := oi_L g1 rfl
      simp only [List.cons.injEq, and_true] at e0 e1
      obtain ⟨rfl, rfl, rfl⟩ := e0
      obtain ⟨rfl, rfl, rfl, rfl⟩ := e1
      exact ⟨a, b, c, d, e, f, g, rfl, r0, r1, r2⟩
set_option maxRecDepth 100000 in
theorem oi_G {fuel : Nat} {cs : List Value} {x : DataW H × List MemPlace} (h : DataW.trod enc Tryz.prog w base (fun _ => true) held fuel 33 cs = some x) (hl : cs.length = 4) : ∃ gn gz gh gm, cs = [.int .i64 gn, .bool gz, .int .i64 gh, .bool gm] ∧ B64 gh := by
  obtain ⟨xs, m', _, rfl, _, hxl, hf⟩ := DataW.trod_struct Tryz.underlying33 h
  match cs, hl with
  | [c0, c1, c2, c3], _ =>
    match xs, hxl with
    | [z0, z1], _ =>
      have g0 := hf 0 _ rfl
      have g1 := hf 1 _ rfl
      simp only [ci_V, ci_bool, List.getElem_toArray, List.getElem_cons_zero, List.getElem_cons_succ, List.drop, List.take, List.getElem?_cons_zero, List.getElem?_cons_succ] at g0 g1
      obtain ⟨a, b, c, e0, r0⟩ := oi_V g0 rfl
      obtain ⟨d, e1, _⟩ := DataW.trod_bool Tryz.underlying4 g1
      simp only [List.cons.injEq, and_true] at e0 e1
      obtain ⟨rfl, rfl, rfl⟩ := e0
      subst e1
      exact ⟨a, b, c, d, rfl, r0⟩
set_option maxRecDepth 100000 in
theorem oi_E {fuel : Nat} {cs : List Value} {x : DataW H × List MemPlace} (h : DataW.trod enc Tryz.prog w base (fun _ => true) held fuel 35 cs = some x) (hl : cs.length = 17) : ∃ k ty tn tz th tw tp tq tm mw mp mq mm gn gz gh gm, cs = [.int .i64 k, .int .i64 ty, .int .i64 tn, .bool tz, .int .i64 th, .bool tw, .int .u64 tp, .int .u64 tq, .bool tm, .bool mw, .int .u64 mp, .int .u64 mq, .bool mm, .int .i64 gn, .bool gz, .int .i64 gh, .bool gm] ∧ B64 ty ∧ B64 th ∧ BU tp ∧ BU tq ∧ BU mp ∧ BU mq ∧ B64 gh := by
  obtain ⟨xs, m', _, rfl, _, hxl, hf⟩ := DataW.trod_struct Tryz.underlying35 h
  match cs, hl with
  | [c0, c1, c2, c3, c4, c5, c6, c7, c8, c9, c10, c11, c12, c13, c14, c15, c16], _ =>
    match xs, hxl with
    | [z0, z1, z2, z3, z4], _ =>
      have g0 := hf 0 _ rfl
      have g1 := hf 1 _ rfl
      have g2 := hf 2 _ rfl
      have g3 := hf 3 _ rfl
      have g4 := hf 4 _ rfl
      simp only [ci_T, ci_L, ci_G, ci_int, List.getElem_toArray, List.getElem_cons_zero, List.getElem_cons_succ, List.drop, List.take, List.getElem?_cons_zero, List.getElem?_cons_succ] at g0 g1 g2 g3 g4
      obtain ⟨k, e0, _, wk⟩ := DataW.trod_int Tryz.underlying3 g0
      obtain ⟨ty, e1, _, wt⟩ := DataW.trod_int Tryz.underlying3 g1
      obtain ⟨tn, tz, th, tw, tp, tq, tm, e2, r1, r2, r3⟩ := oi_T g2 rfl
      obtain ⟨mw, mp, mq, mm, e3, r4, r5⟩ := oi_L g3 rfl
      obtain ⟨gn, gz, gh, gm, e4, r6⟩ := oi_G g4 rfl
      simp only [List.cons.injEq, and_true] at e0 e1 e2 e3 e4
      obtain ⟨rfl, rfl, rfl, rfl, rfl, rfl, rfl⟩ := e2
      obtain ⟨rfl, rfl, rfl, rfl⟩ := e3
      obtain ⟨rfl, rfl, rfl, rfl⟩ := e4
      subst e0 e1
      exact ⟨k, ty, tn, tz, th, tw, tp, tq, tm, mw, mp, mq, mm, gn, gz, gh, gm, rfl, bounds_i64 wt, r1, r2, r3, r4, r5, r6⟩
set_option maxRecDepth 100000 in
theorem open_IM {fuel : Nat} {cs : List Value} {x : DataW H × List MemPlace} (h : DataW.trod enc Tryz.prog w base (fun _ => true) held fuel 37 cs = some x) (hl : cs.length = 19) :
    ∃ (s1 s2 : ByteArray) (es : List Value), cs = .string s1 :: .string s2 :: es ∧ (∃ k ty tn tz th tw tp tq tm mw mp mq mm gn gz gh gm, es = [.int .i64 k, .int .i64 ty, .int .i64 tn, .bool tz, .int .i64 th, .bool tw, .int .u64 tp, .int .u64 tq, .bool tm, .bool mw, .int .u64 mp, .int .u64 mq, .bool mm, .int .i64 gn, .bool gz, .int .i64 gh, .bool gm] ∧ B64 ty ∧ B64 th ∧ BU tp ∧ BU tq ∧ BU mp ∧ BU mq ∧ B64 gh) ∧ ∃ y, x.1 = .agg [.lit (.string s1.data.toList), .lit (.string s2.data.toList), y] := by
  obtain ⟨xs, m', _, rfl, _, hxl, hf⟩ := DataW.trod_struct Tryz.underlying37 h
  match cs, hl with
  | [c0, c1, c2, c3, c4, c5, c6, c7, c8, c9, c10, c11, c12, c13, c14, c15, c16, c17, c18], _ =>
    match xs, hxl with
    | [z0, z1, z2], _ =>
      have g0 := hf 0 _ rfl
      have g1 := hf 1 _ rfl
      have g2 := hf 2 _ rfl
      simp only [ci_str, ci_E, List.getElem_toArray, List.getElem_cons_zero, List.getElem_cons_succ, List.drop, List.take, List.getElem?_cons_zero, List.getElem?_cons_succ] at g0 g1 g2
      obtain ⟨s1, e0, q0, _⟩ := DataW.trod_string Tryz.underlying9 g0
      obtain ⟨s2, e1, q1, _⟩ := DataW.trod_string Tryz.underlying9 g1
      have hE := oi_E g2 rfl
      simp only [List.cons.injEq, and_true] at e0 e1
      subst e0 e1 q0 q1
      exact ⟨s1, s2, _, rfl, hE, z2.1, rfl⟩
end
end Go.Proofs.YtchehejjdinifaaGreatDoor

namespace Go.Proofs.YtchehejjdinifaaGreatDoor
open Go.ChangeShapes Go.WideShapes Go.ChangeAt Go.RowKit
set_option linter.unusedVariables false

theorem own : ownKnob Tryz.prog.godebug = none := by kernel_rfl
theorem laidOut : laidOutB Tryz.prog = true := by kernel_rfl
theorem bytes5 : Tryz.prog.bytesOf 5 = 1 := by kernel_rfl

theorem wf_u8 {n : Int} (h : (Lit.int .u8 n).wf = true) : 0 ≤ n ∧ n ≤ 255 := bounds_u8 h

theorem open_bytes {H : Type} {enc : TypeId × Value → H} {W : World} {a : Option Addr} {len cap : Nat} {d : DataW H} {p : List MemPlace}
    (hf : DataW.Trod enc Tryz.prog W 0 (fun _ => true) true 38 (.slice a len cap) d p) :
    ∃ l : List Int, l.length = len ∧ Reads W (.slice a len cap) l ∧ Byt l ∧ ((d = .nil ∧ len = 0) ∨ ∃ zs : List Int, d = .slice (lits .u8 (zs.take len)) (lits .u8 (zs.drop len)) ∧ len ≤ zs.length) := by
  obtain ⟨fuel, hf⟩ := hf
  rcases open_ints Tryz.underlying38 Tryz.underlying5 (by kernel_rfl) hf with ⟨hcs, hx⟩ | ⟨x, l, c, zs, hcs, _, hl, hm, hz, hx, hcell, hwz⟩
  · simp [Value.cells] at hcs
    obtain ⟨rfl, rfl, rfl⟩ := hcs
    simp only [Prod.mk.injEq] at hx
    exact ⟨[], rfl, ⟨none, 0, rfl, Nat.le_refl _, Nat.zero_le _, fun _ => rfl, Or.inl rfl⟩, fun j => by simp, Or.inl ⟨hx.1, rfl⟩⟩
  · simp [Value.cells] at hcs
    obtain ⟨rfl, rfl, rfl⟩ := hcs
    simp only [Prod.mk.injEq] at hx
    have hz' : zs.length = cap := by simpa using hz
    have hlen : (zs.take len).length = len := by simp; omega
    refine ⟨zs.take len, hlen, ⟨some x, cap, by rw [hlen], by omega, hm, (fun h => by cases h), ?_⟩, fun j => ?_, Or.inr ⟨zs, hx.1, by omega⟩⟩
    · by_cases h0 : len = 0
      · left; subst h0; simp
      · right
        obtain ⟨b, off, spot⟩ := x
        have hspot : spot = none := by simpa [Addr.add] using World.cell?_spot (hcell 0 (by omega))
        subst hspot
        refine ⟨b, off, rfl, fun j hj => ?_⟩
        have := hcell j (by omega)
        rw [add_plain] at this
        rw [this]
        have hj' : j < len := by omega
        simp [List.getD, hj']
    · by_cases hj : j < (zs.take len).length
      · have hm : (zs.take len).getD j 0 ∈ zs := by
          simp only [List.getD, List.getElem?_eq_getElem hj, Option.getD_some]
          exact List.mem_of_mem_take (List.getElem_mem hj)
        exact wf_u8 (hwz _ hm)
      · simp [List.getD, List.getElem?_eq_none (Nat.le_of_not_lt hj)]

/- The reach: a slice of bytes that came in takes fewer than 2^47 bytes. -/
theorem reach_bytes {H : Type} {ts : List TypeId} {ds : List (DataW H)} (h : (DataW.weightsEach Tryz.prog ts ds).all (· ≤ reachBytes) = true) {j : Nat} {zs : List Int} {len : Nat}
    (ht : ts[j]? = some 38) (hd : ds[j]? = some (.slice (lits .u8 (zs.take len)) (lits .u8 (zs.drop len)))) (hl : len ≤ zs.length) : len ≤ 140737488351232 := by
  have := sized_slice h ht hd Tryz.underlying38
  rw [bytes5] at this
  simp only [lits, List.length_map, List.length_take, List.length_drop, reachBytes] at this
  omega
/- A string among the arguments, as bytes. -/
end Go.Proofs.YtchehejjdinifaaGreatDoor

namespace Go.Proofs.YtchehejjdinifaaGreatDoor
open Go.ChangeShapes Go.WideShapes Go.ChangeAt Go.RowKit
set_option linter.unusedVariables false

theorem bulk_lits {H : Type} (l : List Int) : Rows.uptoBulkAll (lits (H := H) .u8 l) = l.length := by
  induction l with
  | nil => rfl
  | cons x r ih =>
    simp only [lits, List.map_cons, Rows.uptoBulkAll, Rows.uptoBulk, List.length_cons] at ih ⊢
    omega
theorem bulk_bytes {H : Type} {d : DataW H} {len : Nat}
    (h : (d = .nil ∧ len = 0) ∨ ∃ zs : List Int, d = .slice (lits .u8 (zs.take len)) (lits .u8 (zs.drop len)) ∧ len ≤ zs.length) : len ≤ Rows.uptoBulk d := by
  rcases h with ⟨_, h⟩ | ⟨zs, rfl, hl⟩
  · omega
  · rw [Rows.uptoBulk, bulk_lits, bulk_lits, List.length_take]; omega
end Go.Proofs.YtchehejjdinifaaGreatDoor
