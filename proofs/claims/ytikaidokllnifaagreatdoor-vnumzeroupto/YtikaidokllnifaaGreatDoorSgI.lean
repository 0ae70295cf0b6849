/-
  What the rows' lists give: the cells of the tables of what operators take and what loads and stores move; no statement is proved here.
-/
import Derived.Test.YtikaidokllnifaaGreatDoorNbrC
import Derived.Test.YtikaidokllnifaaGreatDoorVnA
import Derived.Lib.SmallJoins
import Derived.Test.YtikaidokllnifaaGreatDoorSgT
import Derived.Lib.LaidTab
import Derived.ChangeArms
import Derived.Stop.LaidErr
set_option maxRecDepth 100000
set_option maxHeartbeats 8000000
namespace Go.Proofs.YtikaidokllnifaaGreatDoor
open Go.ChangeShapes Go.WideShapes Go.Deep
set_option linter.unusedVariables false
set_option linter.unusedSimpArgs false
section
variable {H : Type} {enc : TypeId × Value → H} {w : World} {base : Nat} {held : Bool}
theorem cells_lr9 : Tryz.prog.cellsOf 22 = 1 := by kernel_rfl
theorem cells_tb9 : Tryz.prog.cellsOf 24 = 1 := by kernel_rfl
theorem cells_lm9 : Tryz.prog.cellsOf 25 = 1 := by kernel_rfl
theorem cells_gl9 : Tryz.prog.cellsOf 26 = 1 := by kernel_rfl
theorem cells_bo9 : Tryz.prog.cellsOf 28 = 1 := by kernel_rfl
theorem cells_u32 : Tryz.prog.cellsOf 34 = 1 := by kernel_rfl
theorem cells_u64 : Tryz.prog.cellsOf 35 = 1 := by kernel_rfl
theorem cells_bk9 : Tryz.prog.cellsOf 41 = 4 := by kernel_rfl
theorem cells_ln9 : Tryz.prog.cellsOf 42 = 1 := by kernel_rfl
theorem cells_lu9 : Tryz.prog.cellsOf 43 = 1 := by kernel_rfl
theorem cells_ct9 : Tryz.prog.cellsOf 44 = 1 := by kernel_rfl
theorem cells_mm9 : Tryz.prog.cellsOf 37 = 3 := by kernel_rfl
theorem cells_g9 : Tryz.prog.cellsOf 175 = 4 := by kernel_rfl
theorem cells_l9 : Tryz.prog.cellsOf 81 = 4 := by kernel_rfl
theorem cells_t9 : Tryz.prog.cellsOf 179 = 7 := by kernel_rfl
theorem open_VV {fuel : Nat} {cs : List Value} {x : DataW H × List MemPlace} (h : DataW.trod enc Tryz.prog w base (fun _ => true) held fuel 39 cs = some x) (hl : cs.length = 3) : ∃ n nul hp, cs = [.int .i64 n, .bool nul, .int .i64 hp] ∧ R64 n ∧ R64 hp := by
  obtain ⟨y0, y1, y2, m, rfl, _, h0, h1, h2⟩ := trod_struct3 Tryz.underlying39 h
  match cs, hl with
  | [c0, c1, c2], _ =>
    simp only [cells_int, cells_bool, List.drop, List.take] at h0 h1 h2
    obtain ⟨a, e0, _, wa⟩ := DataW.trod_int Tryz.underlying3 h0
    obtain ⟨p, e1, _⟩ := DataW.trod_bool Tryz.underlying4 h1
    obtain ⟨q, e2, _, wq⟩ := DataW.trod_int Tryz.underlying3 h2
    simp only [List.cons.injEq, and_true] at e0 e1 e2
    subst e0 e1 e2
    exact ⟨a, p, q, rfl, r64_wf wa, r64_wf wq⟩
theorem open_GE {b o : Nat} {cs : List Value} {n : Nat} {y : DataW H × List MemPlace} (hl : cs.length = 4) (hc : ∀ j, j < 4 → w.cell? ⟨b, o + j, none⟩ = cs[j]?) (h : DataW.trod enc Tryz.prog w base (fun _ => true) held n 175 cs = some y) : ∃ z : GLt, EGl w b o z ∧ 1 ≤ Rows.uptoBulk y.1 ∧ True := by
  obtain ⟨y0, y1, m, rfl, _, h0, h1⟩ := trod_struct2 Tryz.underlying175 h
  match cs, hl with
  | [c0, c1, c2, c3], _ =>
    simp only [cells_V, cells_bool, List.drop, List.take] at h0 h1
    obtain ⟨v, hv, _, rv⟩ := open_V (b := b) (o := o) rfl (fun j hj => by
      rw [hc j (by omega)]
      match j, hj with
      | 0, _ => rfl
      | 1, _ => rfl
      | 2, _ => rfl) h0
    obtain ⟨p, e1, _⟩ := DataW.trod_bool Tryz.underlying4 h1
    simp only [List.cons.injEq, and_true] at e1
    subst e1
    exact ⟨⟨v, p⟩, ⟨hv.1, hv.2.1, hv.2.2, hc 3 (by decide)⟩, bulk_one _, trivial⟩
theorem open_BK4 {fuel : Nat} {cs : List Value} {x : DataW H × List MemPlace} (h : DataW.trod enc Tryz.prog w base (fun _ => true) held fuel 41 cs = some x) (hl : cs.length = 4) : ∃ t n z h, cs = [.int .i64 t, .int .i64 n, .bool z, .int .i64 h] := by
  obtain ⟨xs, m', _, rfl, _, hxl, hf⟩ := DataW.trod_struct Tryz.underlying41 h
  match cs, hl with
  | [q0, q1, q2, q3], _ =>
    match xs, hxl with
    | [z0, z1], _ =>
      have g0 := hf 0 _ rfl
      have g1 := hf 1 _ rfl
      simp only [List.getElem_toArray, List.getElem_cons_zero, List.getElem_cons_succ, cells_int, cells_V, List.drop, List.take, List.getElem?_cons_zero, List.getElem?_cons_succ] at g0 g1
      obtain ⟨t, e0, _, wt⟩ := DataW.trod_int Tryz.underlying3 g0
      simp only [List.cons.injEq, and_true] at e0
      subst e0
      obtain ⟨n, z, hp, e, _, _⟩ := open_VV g1 rfl
      simp only [List.cons.injEq, and_true] at e
      obtain ⟨rfl, rfl, rfl⟩ := e
      exact ⟨t, n, z, hp, rfl⟩
theorem open_L4 {b o : Nat} {cs : List Value} {n : Nat} {y : DataW H × List MemPlace} (hl : cs.length = 4) (hc : ∀ j, j < 4 → w.cell? ⟨b, o + j, none⟩ = cs[j]?) (h : DataW.trod enc Tryz.prog w base (fun _ => true) held n 81 cs = some y) : ∃ z : LMt, ELm w b o z ∧ 1 ≤ Rows.uptoBulk y.1 ∧ True := by
  obtain ⟨xs, m', _, rfl, _, hxl, hf⟩ := DataW.trod_struct Tryz.underlying81 h
  match cs, hl with
  | [q0, q1, q2, q3], _ =>
    match xs, hxl with
    | [z0, z1, z2, z3], _ =>
      have g0 := hf 0 _ rfl
      have g1 := hf 1 _ rfl
      have g2 := hf 2 _ rfl
      have g3 := hf 3 _ rfl
      simp only [List.getElem_toArray, List.getElem_cons_zero, List.getElem_cons_succ, cells_bool, cells_u64, List.drop, List.take, List.getElem?_cons_zero, List.getElem?_cons_succ] at g0 g1 g2 g3
      obtain ⟨p0, e0, _⟩ := DataW.trod_bool Tryz.underlying4 g0
      obtain ⟨i1, e1, _, _⟩ := DataW.trod_int Tryz.underlying35 g1
      obtain ⟨i2, e2, _, _⟩ := DataW.trod_int Tryz.underlying35 g2
      obtain ⟨p3, e3, _⟩ := DataW.trod_bool Tryz.underlying4 g3
      simp only [List.cons.injEq, and_true] at e0 e1 e2 e3
      subst e0 e1 e2 e3
      exact ⟨⟨p0, i1, i2, p3⟩, ⟨hc 0 (by decide), hc 1 (by decide), hc 2 (by decide), hc 3 (by decide)⟩, bulk_one _, trivial⟩
theorem open_T7 {b o : Nat} {cs : List Value} {n : Nat} {y : DataW H × List MemPlace} (hl : cs.length = 7) (hc : ∀ j, j < 7 → w.cell? ⟨b, o + j, none⟩ = cs[j]?) (h : DataW.trod enc Tryz.prog w base (fun _ => true) held n 179 cs = some y) : ∃ z : TBt, ETb w b o z ∧ 1 ≤ Rows.uptoBulk y.1 ∧ True := by
  obtain ⟨y0, y1, m, rfl, _, h0, h1⟩ := trod_struct2 Tryz.underlying179 h
  match cs, hl with
  | [c0, c1, c2, c3, c4, c5, c6], _ =>
    simp only [cells_V, cells_l9, List.drop, List.take] at h0 h1
    obtain ⟨v, hv, _, rv⟩ := open_V (b := b) (o := o) rfl (fun j hj => by
      rw [hc j (by omega)]
      match j, hj with
      | 0, _ => rfl
      | 1, _ => rfl
      | 2, _ => rfl) h0
    obtain ⟨p, hp, _, _⟩ := open_L4 (b := b) (o := o + 3) rfl (fun j hj => by
      rw [show o + 3 + j = o + (3 + j) by omega, hc (3 + j) (by omega)]
      match j, hj with
      | 0, _ => rfl
      | 1, _ => rfl
      | 2, _ => rfl
      | 3, _ => rfl) h1
    obtain ⟨v0, v1, v2⟩ := hv
    obtain ⟨p0, p1, p2, p3⟩ := hp
    exact ⟨⟨v, p⟩, ⟨v0, v1, v2, p0, p1, p2, p3⟩, bulk_one _, trivial⟩
theorem open_LVz {fuel : Nat} {v : Value} {x : DataW H × List MemPlace} (h : DataW.trod enc Tryz.prog w base (fun _ => true) held fuel 27 [v] = some x) : ∃ L, LV w v L := by
  obtain ⟨u, L, e, l, b, q⟩ := open_lst vt0 RgV (E := EV) (μ := fun _ => 1) Tryz.underlying27 cells_V (by decide) h (fun b o cs n y hl hc h => open_V hl hc h)
  simp only [List.cons.injEq, and_true] at e
  subst e
  exact ⟨L, l⟩
theorem open_LMz {fuel : Nat} {v : Value} {x : DataW H × List MemPlace} (h : DataW.trod enc Tryz.prog w base (fun _ => true) held fuel 25 [v] = some x) : ∃ L, LLm w v L := by
  obtain ⟨u, L, e, l, b, q⟩ := open_lst (⟨false, 0, 0, false⟩ : LMt) (fun _ => True) (E := ELm) (μ := fun _ => 1) Tryz.underlying25 cells_l9 (by decide) h (fun b o cs n y hl hc h => open_L4 hl hc h)
  simp only [List.cons.injEq, and_true] at e
  subst e
  exact ⟨L, l⟩
theorem open_LTz {fuel : Nat} {v : Value} {x : DataW H × List MemPlace} (h : DataW.trod enc Tryz.prog w base (fun _ => true) held fuel 24 [v] = some x) : ∃ L, LTb w v L := by
  obtain ⟨u, L, e, l, b, q⟩ := open_lst (⟨vt0, ⟨false, 0, 0, false⟩⟩ : TBt) (fun _ => True) (E := ETb) (μ := fun _ => 1) Tryz.underlying24 cells_t9 (by decide) h (fun b o cs n y hl hc h => open_T7 hl hc h)
  simp only [List.cons.injEq, and_true] at e
  subst e
  exact ⟨L, l⟩
theorem open_LG {fuel : Nat} {v : Value} {x : DataW H × List MemPlace} (h : DataW.trod enc Tryz.prog w base (fun _ => true) held fuel 26 [v] = some x) : ∃ L, LGl w v L := by
  obtain ⟨u, L, e, l, b, q⟩ := open_lst (⟨vt0, false⟩ : GLt) (fun _ => True) (E := EGl) (μ := fun _ => 1) Tryz.underlying26 cells_g9 (by decide) h (fun b o cs n y hl hc h => open_GE hl hc h)
  simp only [List.cons.injEq, and_true] at e
  subst e
  exact ⟨L, l⟩
theorem open_CA {fuel : Nat} {cs : List Value} {x : DataW H × List MemPlace} (h : DataW.trod enc Tryz.prog w base (fun _ => true) held fuel 30 cs = some x) (hl : cs.length = 9) : ∃ t0 m0 k0 t1 m1 k1 t2 m2 k2 t3 m3 k3 t4 m4 k4 t5 m5 k5 t6 m6 k6 dt t8 m8 k8 TT TB M GL EL, cs = [.slice t0 m0 k0, .slice t1 m1 k1, .slice t2 m2 k2, .slice t3 m3 k3, .slice t4 m4 k4, .slice t5 m5 k5, .slice t6 m6 k6, .int .i64 dt, .slice t8 m8 k8] ∧ LR w (.slice t0 m0 k0) TT ∧ (TT.map muR).sum + 1 ≤ Rows.uptoBulk x.1 ∧ (∀ r ∈ TT, ∀ y ∈ r.types, Rng y) ∧ LTb w (.slice t2 m2 k2) TB ∧ LLm w (.slice t3 m3 k3) M ∧ LGl w (.slice t4 m4 k4) GL ∧ LV w (.slice t6 m6 k6) EL := by
  obtain ⟨xs, m', _, rfl, _, hxl, hf⟩ := DataW.trod_struct Tryz.underlying30 h
  match cs, hl with
  | [q0, q1, q2, q3, q4, q5, q6, q7, q8], _ =>
    match xs, hxl with
    | [z0, z1, z2, z3, z4, z5, z6, z7, z8], _ =>
      have g0 := hf 0 _ rfl
      have g1 := hf 1 _ rfl
      have g2 := hf 2 _ rfl
      have g3 := hf 3 _ rfl
      have g4 := hf 4 _ rfl
      have g5 := hf 5 _ rfl
      have g6 := hf 6 _ rfl
      have g7 := hf 7 _ rfl
      have g8 := hf 8 _ rfl
      simp only [List.getElem_toArray, List.getElem_cons_zero, List.getElem_cons_succ, cells_lr9, cells_li, cells_tb9, cells_lm9, cells_gl9, cells_lv, cells_int, cells_bo9, List.drop, List.take, List.getElem?_cons_zero, List.getElem?_cons_succ] at g0 g1 g2 g3 g4 g5 g6 g7 g8
      obtain ⟨t0, m0, k0, e0⟩ := Joins.slice_form Tryz.underlying22 g0
      obtain ⟨t1, m1, k1, e1⟩ := Joins.slice_form Tryz.underlying23 g1
      obtain ⟨t2, m2, k2, e2⟩ := Joins.slice_form Tryz.underlying24 g2
      obtain ⟨t3, m3, k3, e3⟩ := Joins.slice_form Tryz.underlying25 g3
      obtain ⟨t4, m4, k4, e4⟩ := Joins.slice_form Tryz.underlying26 g4
      obtain ⟨t5, m5, k5, e5⟩ := Joins.slice_form Tryz.underlying23 g5
      obtain ⟨t6, m6, k6, e6⟩ := Joins.slice_form Tryz.underlying27 g6
      obtain ⟨dt, e7, _, _⟩ := DataW.trod_int Tryz.underlying3 g7
      obtain ⟨t8, m8, k8, e8⟩ := Joins.slice_form Tryz.underlying28 g8
      simp only [List.cons.injEq, and_true] at e0 e1 e2 e3 e4 e5 e6 e7 e8
      subst e0 e1 e2 e3 e4 e5 e6 e7 e8
      obtain ⟨TT, l0, b0, r0⟩ := open_LR g0
      obtain ⟨TB, l2⟩ := open_LTz g2
      obtain ⟨M, l3⟩ := open_LMz g3
      obtain ⟨GL, l4⟩ := open_LG g4
      obtain ⟨EL, l6⟩ := open_LVz g6
      refine ⟨t0, m0, k0, t1, m1, k1, t2, m2, k2, t3, m3, k3, t4, m4, k4, t5, m5, k5, t6, m6, k6, dt, t8, m8, k8, TT, TB, M, GL, EL, rfl, l0, ?_, r0, l2, l3, l4, l6⟩
      simp only [Rows.uptoBulk, Rows.uptoBulkAll, List.map_cons, List.map_nil]
      omega
theorem open_MM2 {fuel : Nat} {cs : List Value} {x : DataW H × List MemPlace} (h : DataW.trod enc Tryz.prog w base (fun _ => true) held fuel 37 cs = some x) (hl : cs.length = 3) : ∃ (a : Int) (m : Nat) (o : Int), cs = [.int .u32 a, .int .u32 (m : Int), .int .u64 o] ∧ 0 ≤ a ∧ m < 4294967296 := by
  obtain ⟨y0, y1, y2, m, rfl, _, h0, h1, h2⟩ := trod_struct3 Tryz.underlying37 h
  match cs, hl with
  | [c0, c1, c2], _ =>
    simp only [cells_u32, cells_u64, List.drop, List.take] at h0 h1 h2
    obtain ⟨a, e0, _, wa⟩ := DataW.trod_int Tryz.underlying34 h0
    obtain ⟨p, e1, _, wp⟩ := DataW.trod_int Tryz.underlying34 h1
    obtain ⟨q, e2, _, _⟩ := DataW.trod_int Tryz.underlying35 h2
    have ha := bounds_u32 wa
    have hp := bounds_u32 wp
    obtain ⟨n, rfl⟩ : ∃ n : Nat, p = (n : Int) := ⟨p.toNat, by omega⟩
    simp only [List.cons.injEq, and_true] at e0 e1 e2
    subst e0 e1 e2
    exact ⟨a, n, q, rfl, by omega, by omega⟩
theorem open_IA {fuel : Nat} {cs : List Value} {x : DataW H × List MemPlace} (h : DataW.trod enc Tryz.prog w base (fun _ => true) held fuel 46 cs = some x) (hl : cs.length = 17) : ∃ (op : Int) (nx ny : Nat) (N al : Int) (me : Nat) (off bt bn : Int) (bz : Bool) (bh : Int) (b0 : Option Addr) (p0 q0 : Nat) (b1 : Option Addr) (p1 q1 : Nat) (he : Bool) (b2 : Option Addr) (p2 q2 : Nat) (b3 : Option Addr) (p3 q3 : Nat) (b4 : Option Addr) (p4 q4 : Nat) (sl : List VT), cs = [.int .i64 op, .int .u32 (nx : Int), .int .u32 (ny : Int), .int .u64 N, .int .u32 al, .int .u32 (me : Int), .int .u64 off, .int .i64 bt, .int .i64 bn, .bool bz, .int .i64 bh, .slice b0 p0 q0, .slice b1 p1 q1, .bool he, .slice b2 p2 q2, .slice b3 p3 q3, .slice b4 p4 q4] ∧ -9223372036854775808 ≤ op ∧ op ≤ 9223372036854775807 ∧ nx < 4294967296 ∧ ny < 4294967296 ∧ me < 4294967296 ∧ 0 ≤ al ∧ LV w (.slice b3 p3 q3) sl := by
  obtain ⟨xs, m', _, rfl, _, hxl, hf⟩ := DataW.trod_struct Tryz.underlying46 h
  match cs, hl with
  | [q0, q1, q2, q3, q4, q5, q6, q7, q8, q9, q10, q11, q12, q13, q14, q15, q16], _ =>
    match xs, hxl with
    | [z0, z1, z2, z3, z4, z5, z6, z7, z8, z9, z10, z11], _ =>
      have g0 := hf 0 _ rfl
      have g1 := hf 1 _ rfl
      have g2 := hf 2 _ rfl
      have g3 := hf 3 _ rfl
      have g4 := hf 4 _ rfl
      have g5 := hf 5 _ rfl
      have g6 := hf 6 _ rfl
      have g7 := hf 7 _ rfl
      have g8 := hf 8 _ rfl
      have g9 := hf 9 _ rfl
      have g10 := hf 10 _ rfl
      have g11 := hf 11 _ rfl
      simp only [List.getElem_toArray, List.getElem_cons_zero, List.getElem_cons_succ, cells_int, cells_bool, cells_u32, cells_u64, cells_mm9, cells_bk9, cells_ln9, cells_lu9, cells_ct9, cells_lv, List.drop, List.take, List.getElem?_cons_zero, List.getElem?_cons_succ] at g0 g1 g2 g3 g4 g5 g6 g7 g8 g9 g10 g11
      obtain ⟨i0, e0, _, wf0⟩ := DataW.trod_int Tryz.underlying3 g0
      obtain ⟨i1, e1, _, wf1⟩ := DataW.trod_int Tryz.underlying34 g1
      obtain ⟨i2, e2, _, wf2⟩ := DataW.trod_int Tryz.underlying34 g2
      obtain ⟨i3, e3, _, wf3⟩ := DataW.trod_int Tryz.underlying35 g3
      obtain ⟨al, me, off, e4, hal, hme⟩ := open_MM2 g4 rfl
      obtain ⟨r0, r1, r2, r3, e5⟩ := open_BK4 g5 rfl
      obtain ⟨a6, l6, c6, e6⟩ := Joins.slice_form Tryz.underlying42 g6
      obtain ⟨a7, l7, c7, e7⟩ := Joins.slice_form Tryz.underlying42 g7
      obtain ⟨p8, e8, _⟩ := DataW.trod_bool Tryz.underlying4 g8
      obtain ⟨a9, l9, c9, e9⟩ := Joins.slice_form Tryz.underlying43 g9
      obtain ⟨a10, l10, c10, e10⟩ := Joins.slice_form Tryz.underlying27 g10
      obtain ⟨a11, l11, c11, e11⟩ := Joins.slice_form Tryz.underlying44 g11
      simp only [List.cons.injEq, and_true] at e0 e1 e2 e3 e4 e5 e6 e7 e8 e9 e10 e11
      obtain ⟨rfl, rfl, rfl, rfl⟩ := e5
      obtain ⟨rfl, rfl, rfl⟩ := e4
      subst e0 e1 e2 e3 e6 e7 e8 e9 e10 e11
      have h0 := bounds_i64 wf0
      have h1 := bounds_u32 wf1
      have h2 := bounds_u32 wf2
      obtain ⟨nx, rfl⟩ : ∃ n : Nat, i1 = (n : Int) := ⟨i1.toNat, by omega⟩
      obtain ⟨ny, rfl⟩ : ∃ n : Nat, i2 = (n : Int) := ⟨i2.toNat, by omega⟩
      obtain ⟨sl, hs⟩ := open_LVz g10
      exact ⟨i0, nx, ny, i3, al, me, off, r0, r1, r2, r3, a6, l6, c6, a7, l7, c7, p8, a9, l9, c9, a10, l10, c10, a11, l11, c11, sl, rfl, by omega, by omega, by omega, by omega, hme, hal, hs⟩
end
end Go.Proofs.YtikaidokllnifaaGreatDoor
namespace Go.Proofs.YtikaidokllnifaaGreatDoor
open Go.RowKit
set_option linter.unusedVariables false
set_option linter.unusedSimpArgs false
theorem grid_row {H : Type} {enc : TypeId × Value → H} {P : Program} {w : World} {base : Nat} {sp : Nat → Bool} {held : Bool} {fuel : Nat} {t e : TypeId} {n c : Nat} {cs : List Value} {rows : List (DataW H)} {p : List MemPlace}
    (ht : P.underlying t = some (.array n e)) (hce : P.cellsOf e = c) (h : DataW.trod enc P w base sp held fuel t cs = some (.agg rows, p)) (i : Nat) (d : DataW H) (hi : rows[i]? = some d) :
    ∃ m q, DataW.trod enc P w base sp held m e ((cs.drop (i * c)).take c) = some (d, q) := by
  cases fuel with
  | zero => simp [DataW.trod] at h
  | succ fuel =>
    simp only [DataW.trod, ht, hce] at h
    split at h
    · obtain ⟨xs, hm, hx⟩ := Option.map_eq_some_iff.1 h
      have hxs : xs.map (·.1) = rows := by
        have := congrArg Prod.fst hx
        simpa using this
      have hxl : xs.length = n := by simpa using Lib.mapM_length hm
      have hin : i < n := by
        have : i < rows.length := by
          rcases Nat.lt_or_ge i rows.length with h1 | h1
          · exact h1
          · rw [List.getElem?_eq_none h1] at hi; cases hi
        rw [← hxs] at this
        simpa [hxl] using this
      obtain ⟨b, hb, hf⟩ := Lib.mapM_at hm i i (by simp [hin])
      rw [← hxs, List.getElem?_map, hb] at hi
      simp only [Option.map_some, Option.some.injEq] at hi
      exact ⟨fuel, b.2, by rw [hf, ← hi]⟩
    · cases h
theorem grid_int {H : Type} {enc : TypeId × Value → H} {P : Program} {w : World} {base : Nat} {sp : Nat → Bool} {held : Bool} {fuel : Nat} {e : TypeId} {fs : Array Field} {cs : List Value} {d : List (DataW H)} {p : List MemPlace} {i c : Nat}
    (he : P.underlying e = some (.struct fs)) (h : DataW.trod enc P w base sp held fuel e ((cs.drop (i * c)).take c) = some (.agg d, p)) (j : Nat) (fld : Field) (hf : fs[j]? = some fld) (k : IntKind) (hk : P.underlying fld.type = some (.int k)) (hc : P.cellsOf fld.type = 1)
    (ho : fld.offset < c) (z : Int) (hz : d[j]? = some (.lit (.int k z))) : cs[i * c + fld.offset]? = some (.int k z) := by
  obtain ⟨xs, n, _, hx, _, _, hall⟩ := DataW.trod_struct he h
  have h1 := hall j fld hf
  have hd : d = xs.map (·.1) := by simpa using congrArg Prod.fst hx
  rw [hd, List.getElem?_map] at hz
  cases hb : xs[j]? with
  | none => rw [hb] at hz; cases hz
  | some b =>
    rw [hb] at hz h1
    simp only [Option.map_some, Option.some.injEq] at hz
    rw [hc] at h1
    obtain ⟨y, hy, hyx, _⟩ := DataW.trod_int hk h1
    have : y = z := by
      have e2 := congrArg Prod.fst hyx
      rw [hz] at e2
      simpa using e2.symm
    subst this
    have h2 := congrArg (·[0]?) hy
    simp only [List.getElem?_take, List.getElem?_drop, Nat.add_zero, List.getElem?_cons_zero, Nat.lt_one_iff, Nat.zero_lt_one, if_true, ho] at h2
    exact h2
theorem trod_boolX {H : Type} {enc : TypeId × Value → H} {P : Program} {w : World} {base : Nat} {sp : Nat → Bool} {held : Bool} {fuel : Nat} {t : TypeId} {cs : List Value} {x : DataW H × List MemPlace}
    (ht : P.underlying t = some .bool) (h : DataW.trod enc P w base sp held fuel t cs = some x) : ∃ z, cs = [.bool z] ∧ x = (.lit (.bool z), []) ∧ True := by
  obtain ⟨z, h1, h2⟩ := DataW.trod_bool ht h
  exact ⟨z, h1, h2, trivial⟩
theorem grid_bool {H : Type} {enc : TypeId × Value → H} {P : Program} {w : World} {base : Nat} {sp : Nat → Bool} {held : Bool} {fuel : Nat} {e : TypeId} {fs : Array Field} {cs : List Value} {d : List (DataW H)} {p : List MemPlace} {i c : Nat}
    (he : P.underlying e = some (.struct fs)) (h : DataW.trod enc P w base sp held fuel e ((cs.drop (i * c)).take c) = some (.agg d, p)) (j : Nat) (fld : Field) (hf : fs[j]? = some fld) (hk : P.underlying fld.type = some .bool) (hc : P.cellsOf fld.type = 1)
    (ho : fld.offset < c) (z : Bool) (hz : d[j]? = some (.lit (.bool z))) : cs[i * c + fld.offset]? = some (.bool z) := by
  obtain ⟨xs, n, _, hx, _, _, hall⟩ := DataW.trod_struct he h
  have h1 := hall j fld hf
  have hd : d = xs.map (·.1) := by simpa using congrArg Prod.fst hx
  rw [hd, List.getElem?_map] at hz
  cases hb : xs[j]? with
  | none => rw [hb] at hz; cases hz
  | some b =>
    rw [hb] at hz h1
    simp only [Option.map_some, Option.some.injEq] at hz
    rw [hc] at h1
    obtain ⟨y, hy, hyx, _⟩ := trod_boolX hk h1
    have : y = z := by
      have e2 := congrArg Prod.fst hyx
      rw [hz] at e2
      simpa using e2.symm
    subst this
    have h2 := congrArg (·[0]?) hy
    simp only [List.getElem?_take, List.getElem?_drop, Nat.add_zero, List.getElem?_cons_zero, Nat.lt_one_iff, Nat.zero_lt_one, if_true, ho] at h2
    exact h2
theorem tab_flat {α : Type} {k : Nat} (hk : 0 < k) (f : α → List Value) (hf : ∀ a, (f a).length = k) (L : List α) (j : Nat) (v : Value) (h : (L.flatMap f)[j]? = some v) : ∃ i r, L[i]? = some r ∧ j = i * k + j % k ∧ j % k < k ∧ (f r)[j % k]? = some v := by
  have hlen : (L.flatMap f).length = L.length * k := by
    clear h
    induction L with
    | nil => simp
    | cons a l ih => simp [List.flatMap_cons, hf, ih, Nat.succ_mul]; omega
  have hj : j < L.length * k := by rw [← hlen]; exact (List.getElem?_eq_some_iff.1 h).1
  have hi : j / k < L.length := (Nat.div_lt_iff_lt_mul hk).2 hj
  have e : j = j / k * k + j % k := by rw [Nat.mul_comm]; exact (Nat.div_add_mod j k).symm
  refine ⟨j / k, _, List.getElem?_eq_getElem hi, e, Nat.mod_lt _ hk, ?_⟩
  rw [← flat_at f k hf L (j / k) _ (j % k) (List.getElem?_eq_getElem hi) (Nat.mod_lt _ hk), ← e]
  exact h
theorem gSigs : Tryz.prog.globalNamed "ratchet/instr.sigs" = some 1 := by kernel_rfl
theorem gSigsType : (Tryz.prog.globals[1]?).map (·.type) = some 242 := by kernel_rfl
theorem cellsSig : Tryz.prog.cellsOf 241 = 4 := by kernel_rfl
def dSig (r : Int × Int × Int × Int) : DataW Unit := .agg [.lit (.int .i64 r.1), .lit (.int .i64 r.2.1), .lit (.int .i64 r.2.2.1), .lit (.int .i64 r.2.2.2)]
theorem sigs_rows : (Rows.laid_ratchet_instr_sigs : DataW Unit) = .agg (sigL.map dSig) := by kernel_rfl
theorem tabS_of {W : World} {rest : List (String × DataW Unit)} (h : laidMet Tryz.prog (("ratchet/instr.sigs", Rows.laid_ratchet_instr_sigs) :: rest) W) : TabS W := by
  rw [sigs_rows] at h
  obtain ⟨ps, ⟨g', t', cs, fuel, p, q, hg', ht', hvar, hd, _, _⟩, _⟩ := h
  obtain rfl := Option.some.inj (gSigs.symm.trans hg')
  obtain rfl := Option.some.inj (gSigsType.symm.trans ht')
  have hc := fun i => World.var?_cell gSigs hvar i
  have main : ∀ i r, sigL[i]? = some r → cs.toList[i * 4]? = some (.int .i64 r.1) ∧ cs.toList[i * 4 + 1]? = some (.int .i64 r.2.1) ∧ cs.toList[i * 4 + 2]? = some (.int .i64 r.2.2.1) ∧ cs.toList[i * 4 + 3]? = some (.int .i64 r.2.2.2) := by
    intro i r hr
    obtain ⟨m0, q0, h0⟩ := grid_row Tryz.underlying242 cellsSig hd i (dSig r) (by rw [List.getElem?_map, hr]; rfl)
    exact ⟨grid_int Tryz.underlying241 h0 0 _ rfl .i64 (by kernel_rfl) (by kernel_rfl) (by decide) r.1 rfl, grid_int Tryz.underlying241 h0 1 _ rfl .i64 (by kernel_rfl) (by kernel_rfl) (by decide) r.2.1 rfl, grid_int Tryz.underlying241 h0 2 _ rfl .i64 (by kernel_rfl) (by kernel_rfl) (by decide) r.2.2.1 rfl, grid_int Tryz.underlying241 h0 3 _ rfl .i64 (by kernel_rfl) (by kernel_rfl) (by decide) r.2.2.2 rfl⟩
  intro j v hj
  rw [SGB, List.getElem?_toArray] at hj
  obtain ⟨i, r, hr, e, hm, hv⟩ := tab_flat (k := 4) (by omega) c4i (fun _ => rfl) sigL j v hj
  obtain ⟨m0, m1, m2, m3⟩ := main i r hr
  refine (hc j).trans ?_
  rw [← Array.getElem?_toList, e]
  generalize j % 4 = k at *
  match k, hm, hv with
  | 0, _, hv => exact m0.trans hv
  | 1, _, hv => exact m1.trans hv
  | 2, _, hv => exact m2.trans hv
  | 3, _, hv => exact m3.trans hv
theorem gAcc : Tryz.prog.globalNamed "ratchet/instr.accesses" = some 0 := by kernel_rfl
theorem gAccType : (Tryz.prog.globals[0]?).map (·.type) = some 240 := by kernel_rfl
theorem cellsAcc : Tryz.prog.cellsOf 239 = 3 := by kernel_rfl
def dAcc (r : Int × Int × Bool) : DataW Unit := .agg [.lit (.int .i64 r.1), .lit (.int .i64 r.2.1), .lit (.bool r.2.2)]
theorem accs_rows : (Rows.laid_ratchet_instr_accesses : DataW Unit) = .agg (accL.map dAcc) := by kernel_rfl
theorem tabA_of {W : World} {rest : List (String × DataW Unit)} (h : laidMet Tryz.prog (("ratchet/instr.accesses", Rows.laid_ratchet_instr_accesses) :: rest) W) : TabA W := by
  rw [accs_rows] at h
  obtain ⟨ps, ⟨g', t', cs, fuel, p, q, hg', ht', hvar, hd, _, _⟩, _⟩ := h
  obtain rfl := Option.some.inj (gAcc.symm.trans hg')
  obtain rfl := Option.some.inj (gAccType.symm.trans ht')
  have hc := fun i => World.var?_cell gAcc hvar i
  have main : ∀ i r, accL[i]? = some r → cs.toList[i * 3]? = some (.int .i64 r.1) ∧ cs.toList[i * 3 + 1]? = some (.int .i64 r.2.1) ∧ cs.toList[i * 3 + 2]? = some (.bool r.2.2) := by
    intro i r hr
    obtain ⟨m0, q0, h0⟩ := grid_row Tryz.underlying240 cellsAcc hd i (dAcc r) (by rw [List.getElem?_map, hr]; rfl)
    exact ⟨grid_int Tryz.underlying239 h0 0 _ rfl .i64 (by kernel_rfl) (by kernel_rfl) (by decide) r.1 rfl, grid_int Tryz.underlying239 h0 1 _ rfl .i64 (by kernel_rfl) (by kernel_rfl) (by decide) r.2.1 rfl, grid_bool Tryz.underlying239 h0 2 _ rfl (by kernel_rfl) (by kernel_rfl) (by decide) r.2.2 rfl⟩
  intro j v hj
  rw [ACB, List.getElem?_toArray] at hj
  obtain ⟨i, r, hr, e, hm, hv⟩ := tab_flat (k := 3) (by omega) c3a (fun _ => rfl) accL j v hj
  obtain ⟨m0, m1, m2⟩ := main i r hr
  refine (hc j).trans ?_
  rw [← Array.getElem?_toList, e]
  generalize j % 3 = k at *
  match k, hm, hv with
  | 0, _, hv => exact m0.trans hv
  | 1, _, hv => exact m1.trans hv
  | 2, _, hv => exact m2.trans hv
end Go.Proofs.YtikaidokllnifaaGreatDoor
