/-
  What makes the steps of vref: each answers a function; no statement is proved here.
-/
import Derived.Test.YtikbfhhebhhglaaGreatDoorWorld
import Derived.Laws.Rows
namespace Go.Proofs.YtikbfhhebhhglaaGreatDoor
open Go.RowKit
set_option linter.unusedVariables false
set_option linter.unusedSimpArgs false

theorem Hid.mk' {p : Prop} (h : p) : Hid p := h
def Stop (p : Prop) : Prop := p
theorem stop_load {P : Program} {ops : Array Oper} {rest : List Oper} {o : Oper} {a : Act} {w : World} {Q : Exit → Act → World → Prop} (ty : TypeId) {x : Operand} (ho : o.op = .load ty x) (h : Stop (wpList P ops Q (o :: rest) a w)) : wpList P ops Q (o :: rest) a w := h
def isFn (v : Value) : Prop := ∃ n A B, v = .func (.func n) A B
theorem abs_any (b : Bool) (h : Int) (w : World) : Calls Tryz.prog 33 #[.bool b, .int .i64 h] w fun en w' => en = .returned (.agg #[.int .i64 5, .bool b, .int .i64 h]) ∧ Grew w w' := by
  go_enter Tryz.func33, Tryz.ntmps33
  go_wp2_with fail
  refine bodyPost_ret (v := .agg #[.int .i64 5, .bool b, .int .i64 h]) (by simp [results, Tryz.results33, go_sem]) rfl ?_
  exact ⟨rfl, (by repeat (first | with_reducible exact Grew.refl _ | refine Grew.alloc ?_ _ | refine Grew.set ?_ (by simp) _ | refine Grew.drewN ?_ _ | refine Grew.drew ?_))⟩
theorem ql_any (v : Value) (w : World) : Calls Tryz.prog 32 #[v] w fun en w' => en = .returned v ∧ Grew w w' := by
  go_enter Tryz.func32, Tryz.ntmps32
  go_wp2_with fail
  go_ret
  exact ⟨rfl, (by repeat (first | with_reducible exact Grew.refl _ | refine Grew.alloc ?_ _ | refine Grew.set ?_ (by simp) _ | refine Grew.drewN ?_ _ | refine Grew.drew ?_))⟩
theorem q32_any (w : World) : Calls Tryz.prog 34 #[] w fun en w' => en = .returned (.agg #[.int .i64 1, .bool false, .int .i64 0]) ∧ Grew w w' := by
  go_enter Tryz.func34, Tryz.ntmps34
  go_wp2_with fail
  refine bodyPost_ret (v := .agg #[.int .i64 1, .bool false, .int .i64 0]) (by simp [results, Tryz.results34, go_sem]) rfl ?_
  exact ⟨rfl, (by repeat (first | with_reducible exact Grew.refl _ | refine Grew.alloc ?_ _ | refine Grew.set ?_ (by simp) _ | refine Grew.drewN ?_ _ | refine Grew.drew ?_))⟩
set_option maxRecDepth 100000 in
theorem swaps_fn (a1 a2 : Option Addr) (l1 l2 c1 c2 : Nat) (w : World) : Calls Tryz.prog 31 #[.slice a1 l1 c1, .slice a2 l2 c2] w fun en w' => ∃ v, en = .returned v ∧ isFn v ∧ Grew w w' := by
  go_enter Tryz.func31, Tryz.ntmps31
  go_wp2_with fail
  go_ret
  exact ⟨_, rfl, ⟨_, _, _, rfl⟩, (by repeat (first | with_reducible exact Grew.refl _ | refine Grew.alloc ?_ _ | refine Grew.set ?_ (by simp) _ | refine Grew.drewN ?_ _ | refine Grew.drew ?_))⟩
set_option maxRecDepth 100000 in
theorem turns_fn (f1 f2 : Nat) (A1 A2 B1 B2 : Array Value) (w : World) : Calls Tryz.prog 27 #[.func (.func f1) A1 B1, .func (.func f2) A2 B2] w fun en w' => ∃ v, en = .returned v ∧ isFn v ∧ Grew w w' := by
  go_enter Tryz.func27, Tryz.ntmps27
  go_wp2_with fail
  go_ret
  exact ⟨_, rfl, ⟨_, _, _, rfl⟩, (by repeat (first | with_reducible exact Grew.refl _ | refine Grew.alloc ?_ _ | refine Grew.set ?_ (by simp) _ | refine Grew.drewN ?_ _ | refine Grew.drew ?_))⟩
set_option maxRecDepth 100000 in
theorem makes_fn (op N al off bt bn bh nx ny me : Int) (bz he : Bool) (b0 b1 b2 b3 b4 : Option Addr) (p0 p1 p2 p3 p4 q0 q1 q2 q3 q4 : Nat) (f1 : Nat) (A1 B1 : Array Value) (w : World) : Calls Tryz.prog 68 #[.agg #[.int .i64 op, .int .u32 nx, .int .u32 ny, .int .u64 N, .int .u32 al, .int .u32 me, .int .u64 off, .int .i64 bt, .int .i64 bn, .bool bz, .int .i64 bh, .slice b0 p0 q0, .slice b1 p1 q1, .bool he, .slice b2 p2 q2, .slice b3 p3 q3, .slice b4 p4 q4], .func (.func f1) A1 B1] w fun en w' => ∃ v, en = .returned v ∧ isFn v ∧ Grew w w' := by
  go_enter Tryz.func68, Tryz.ntmps68
  go_wp2_with fail
  go_ret
  exact ⟨_, rfl, ⟨_, _, _, rfl⟩, (by repeat (first | with_reducible exact Grew.refl _ | refine Grew.alloc ?_ _ | refine Grew.set ?_ (by simp) _ | refine Grew.drewN ?_ _ | refine Grew.drew ?_))⟩
set_option maxRecDepth 100000 in
theorem qstructNew_fn (t0 t1 t2 t3 t4 t5 t6 t8 : Option Addr) (m0 m1 m2 m3 m4 m5 m6 m8 k0 k1 k2 k3 k4 k5 k6 k8 : Nat) (dt op N al off bt bn bh nx ny me : Int) (bz he : Bool) (b0 b1 b2 b3 b4 : Option Addr) (p0 p1 p2 p3 p4 q0 q1 q2 q3 q4 : Nat) (w : World) : Calls Tryz.prog 36 #[.agg #[.slice t0 m0 k0, .slice t1 m1 k1, .slice t2 m2 k2, .slice t3 m3 k3, .slice t4 m4 k4, .slice t5 m5 k5, .slice t6 m6 k6, .int .i64 dt, .slice t8 m8 k8], .agg #[.int .i64 op, .int .u32 nx, .int .u32 ny, .int .u64 N, .int .u32 al, .int .u32 me, .int .u64 off, .int .i64 bt, .int .i64 bn, .bool bz, .int .i64 bh, .slice b0 p0 q0, .slice b1 p1 q1, .bool he, .slice b2 p2 q2, .slice b3 p3 q3, .slice b4 p4 q4]] w fun en w' => ∃ v, en = .returned v ∧ isFn v ∧ Grew w w' := by
  have CM : Hid (∀ f A B X, Calls Tryz.prog 68 #[.agg #[.int .i64 op, .int .u32 nx, .int .u32 ny, .int .u64 N, .int .u32 al, .int .u32 me, .int .u64 off, .int .i64 bt, .int .i64 bn, .bool bz, .int .i64 bh, .slice b0 p0 q0, .slice b1 p1 q1, .bool he, .slice b2 p2 q2, .slice b3 p3 q3, .slice b4 p4 q4], .func (.func f) A B] X fun en w' => ∃ v, en = .returned v ∧ isFn v ∧ Grew X w') := fun f A B X => makes_fn op N al off bt bn bh nx ny me bz he b0 b1 b2 b3 b4 p0 p1 p2 p3 p4 q0 q1 q2 q3 q4 f A B X
  have N1 : ((w.alloc (.cells #[.slice t0 m0 k0, .slice t1 m1 k1, .slice t2 m2 k2, .slice t3 m3 k3, .slice t4 m4 k4, .slice t5 m5 k5, .slice t6 m6 k6, .int .i64 dt, .slice t8 m8 k8] 30)).alloc (.cells #[.int .i64 op, .int .u32 nx, .int .u32 ny, .int .u64 N, .int .u32 al, .int .u32 me, .int .u64 off, .int .i64 bt, .int .i64 bn, .bool bz, .int .i64 bh, .slice b0 p0 q0, .slice b1 p1 q1, .bool he, .slice b2 p2 q2, .slice b3 p3 q3, .slice b4 p4 q4] 52)).heap[w.heap.size + 1]? = some (.cells #[.int .i64 op, .int .u32 nx, .int .u32 ny, .int .u64 N, .int .u32 al, .int .u32 me, .int .u64 off, .int .i64 bt, .int .i64 bn, .bool bz, .int .i64 bh, .slice b0 p0 q0, .slice b1 p1 q1, .bool he, .slice b2 p2 q2, .slice b3 p3 q3, .slice b4 p4 q4] 52 (0, 0)) := by
    have := heap_alloc_last (w.alloc (.cells #[.slice t0 m0 k0, .slice t1 m1 k1, .slice t2 m2 k2, .slice t3 m3 k3, .slice t4 m4 k4, .slice t5 m5 k5, .slice t6 m6 k6, .int .i64 dt, .slice t8 m8 k8] 30)) (.cells #[.int .i64 op, .int .u32 nx, .int .u32 ny, .int .u64 N, .int .u32 al, .int .u32 me, .int .u64 off, .int .i64 bt, .int .i64 bn, .bool bz, .int .i64 bh, .slice b0 p0 q0, .slice b1 p1 q1, .bool he, .slice b2 p2 q2, .slice b3 p3 q3, .slice b4 p4 q4] 52)
    rw [alloc_size] at this
    exact this
  have HN := Hid.mk' N1
  clear N1
  go_enter Tryz.func36, Tryz.ntmps36
  go_wp2_with (first
    | (with_reducible refine stop_load 52 rfl ?_
       unfold Stop
       refine wpList_load_row rfl 52 _ rfl (w.heap.size + 1) (by go_simp) 52 #[.int .i64 op, .int .u32 nx, .int .u32 ny, .int .u64 N, .int .u32 al, .int .u32 me, .int .u64 off, .int .i64 bt, .int .i64 bn, .bool bz, .int .i64 bh, .slice b0 p0 q0, .slice b1 p1 q1, .bool he, .slice b2 p2 q2, .slice b3 p3 q3, .slice b4 p4 q4] (0, 0) _ HN.out Tryz.underlying52 rfl (by kernel_rfl) ?_)
    | fail)
  refine (CM.out _ _ _ _).mono ?_
  rintro en w1 ⟨v, rfl, hv, g1⟩
  have gx : Grew w w1 := Grew.trans (by repeat (first | with_reducible exact Grew.refl _ | refine Grew.alloc ?_ _ | refine Grew.set ?_ (by simp) _ | refine Grew.drewN ?_ _ | refine Grew.drew ?_)) g1
  have G1 := Hid.mk' gx
  obtain ⟨fn, fA, fB, rfl⟩ := hv
  clear g1 gx CM HN
  go_wp2_with fail
  go_ret
  exact ⟨_, rfl, ⟨_, _, _, rfl⟩, G1.out⟩
set_option maxRecDepth 100000 in
theorem qstructNewDefault_fn (t0 t1 t2 t3 t4 t5 t6 t8 : Option Addr) (m0 m1 m2 m3 m4 m5 m6 m8 k0 k1 k2 k3 k4 k5 k6 k8 : Nat) (dt op N al off bt bn bh nx ny me : Int) (bz he : Bool) (b0 b1 b2 b3 b4 : Option Addr) (p0 p1 p2 p3 p4 q0 q1 q2 q3 q4 : Nat) (w : World) : Calls Tryz.prog 37 #[.agg #[.slice t0 m0 k0, .slice t1 m1 k1, .slice t2 m2 k2, .slice t3 m3 k3, .slice t4 m4 k4, .slice t5 m5 k5, .slice t6 m6 k6, .int .i64 dt, .slice t8 m8 k8], .agg #[.int .i64 op, .int .u32 nx, .int .u32 ny, .int .u64 N, .int .u32 al, .int .u32 me, .int .u64 off, .int .i64 bt, .int .i64 bn, .bool bz, .int .i64 bh, .slice b0 p0 q0, .slice b1 p1 q1, .bool he, .slice b2 p2 q2, .slice b3 p3 q3, .slice b4 p4 q4]] w fun en w' => ∃ v, en = .returned v ∧ isFn v ∧ Grew w w' := by
  have CM : Hid (∀ f A B X, Calls Tryz.prog 68 #[.agg #[.int .i64 op, .int .u32 nx, .int .u32 ny, .int .u64 N, .int .u32 al, .int .u32 me, .int .u64 off, .int .i64 bt, .int .i64 bn, .bool bz, .int .i64 bh, .slice b0 p0 q0, .slice b1 p1 q1, .bool he, .slice b2 p2 q2, .slice b3 p3 q3, .slice b4 p4 q4], .func (.func f) A B] X fun en w' => ∃ v, en = .returned v ∧ isFn v ∧ Grew X w') := fun f A B X => makes_fn op N al off bt bn bh nx ny me bz he b0 b1 b2 b3 b4 p0 p1 p2 p3 p4 q0 q1 q2 q3 q4 f A B X
  have N1 : ((w.alloc (.cells #[.slice t0 m0 k0, .slice t1 m1 k1, .slice t2 m2 k2, .slice t3 m3 k3, .slice t4 m4 k4, .slice t5 m5 k5, .slice t6 m6 k6, .int .i64 dt, .slice t8 m8 k8] 30)).alloc (.cells #[.int .i64 op, .int .u32 nx, .int .u32 ny, .int .u64 N, .int .u32 al, .int .u32 me, .int .u64 off, .int .i64 bt, .int .i64 bn, .bool bz, .int .i64 bh, .slice b0 p0 q0, .slice b1 p1 q1, .bool he, .slice b2 p2 q2, .slice b3 p3 q3, .slice b4 p4 q4] 52)).heap[w.heap.size + 1]? = some (.cells #[.int .i64 op, .int .u32 nx, .int .u32 ny, .int .u64 N, .int .u32 al, .int .u32 me, .int .u64 off, .int .i64 bt, .int .i64 bn, .bool bz, .int .i64 bh, .slice b0 p0 q0, .slice b1 p1 q1, .bool he, .slice b2 p2 q2, .slice b3 p3 q3, .slice b4 p4 q4] 52 (0, 0)) := by
    have := heap_alloc_last (w.alloc (.cells #[.slice t0 m0 k0, .slice t1 m1 k1, .slice t2 m2 k2, .slice t3 m3 k3, .slice t4 m4 k4, .slice t5 m5 k5, .slice t6 m6 k6, .int .i64 dt, .slice t8 m8 k8] 30)) (.cells #[.int .i64 op, .int .u32 nx, .int .u32 ny, .int .u64 N, .int .u32 al, .int .u32 me, .int .u64 off, .int .i64 bt, .int .i64 bn, .bool bz, .int .i64 bh, .slice b0 p0 q0, .slice b1 p1 q1, .bool he, .slice b2 p2 q2, .slice b3 p3 q3, .slice b4 p4 q4] 52)
    rw [alloc_size] at this
    exact this
  have HN := Hid.mk' N1
  clear N1
  go_enter Tryz.func37, Tryz.ntmps37
  go_wp2_with (first
    | (with_reducible refine stop_load 52 rfl ?_
       unfold Stop
       refine wpList_load_row rfl 52 _ rfl (w.heap.size + 1) (by go_simp) 52 #[.int .i64 op, .int .u32 nx, .int .u32 ny, .int .u64 N, .int .u32 al, .int .u32 me, .int .u64 off, .int .i64 bt, .int .i64 bn, .bool bz, .int .i64 bh, .slice b0 p0 q0, .slice b1 p1 q1, .bool he, .slice b2 p2 q2, .slice b3 p3 q3, .slice b4 p4 q4] (0, 0) _ HN.out Tryz.underlying52 rfl (by kernel_rfl) ?_)
    | fail)
  refine (CM.out _ _ _ _).mono ?_
  rintro en w1 ⟨v, rfl, hv, g1⟩
  have gx : Grew w w1 := Grew.trans (by repeat (first | with_reducible exact Grew.refl _ | refine Grew.alloc ?_ _ | refine Grew.set ?_ (by simp) _ | refine Grew.drewN ?_ _ | refine Grew.drew ?_)) g1
  have G1 := Hid.mk' gx
  obtain ⟨fn, fA, fB, rfl⟩ := hv
  clear g1 gx CM HN
  go_wp2_with fail
  go_ret
  exact ⟨_, rfl, ⟨_, _, _, rfl⟩, G1.out⟩
set_option maxRecDepth 100000 in
theorem qarrayNew_fn (t0 t1 t2 t3 t4 t5 t6 t8 : Option Addr) (m0 m1 m2 m3 m4 m5 m6 m8 k0 k1 k2 k3 k4 k5 k6 k8 : Nat) (dt op N al off bt bn bh nx ny me : Int) (bz he : Bool) (b0 b1 b2 b3 b4 : Option Addr) (p0 p1 p2 p3 p4 q0 q1 q2 q3 q4 : Nat) (w : World) : Calls Tryz.prog 39 #[.agg #[.slice t0 m0 k0, .slice t1 m1 k1, .slice t2 m2 k2, .slice t3 m3 k3, .slice t4 m4 k4, .slice t5 m5 k5, .slice t6 m6 k6, .int .i64 dt, .slice t8 m8 k8], .agg #[.int .i64 op, .int .u32 nx, .int .u32 ny, .int .u64 N, .int .u32 al, .int .u32 me, .int .u64 off, .int .i64 bt, .int .i64 bn, .bool bz, .int .i64 bh, .slice b0 p0 q0, .slice b1 p1 q1, .bool he, .slice b2 p2 q2, .slice b3 p3 q3, .slice b4 p4 q4]] w fun en w' => ∃ v, en = .returned v ∧ isFn v ∧ Grew w w' := by
  have CM : Hid (∀ f A B X, Calls Tryz.prog 68 #[.agg #[.int .i64 op, .int .u32 nx, .int .u32 ny, .int .u64 N, .int .u32 al, .int .u32 me, .int .u64 off, .int .i64 bt, .int .i64 bn, .bool bz, .int .i64 bh, .slice b0 p0 q0, .slice b1 p1 q1, .bool he, .slice b2 p2 q2, .slice b3 p3 q3, .slice b4 p4 q4], .func (.func f) A B] X fun en w' => ∃ v, en = .returned v ∧ isFn v ∧ Grew X w') := fun f A B X => makes_fn op N al off bt bn bh nx ny me bz he b0 b1 b2 b3 b4 p0 p1 p2 p3 p4 q0 q1 q2 q3 q4 f A B X
  have N1 : ((w.alloc (.cells #[.slice t0 m0 k0, .slice t1 m1 k1, .slice t2 m2 k2, .slice t3 m3 k3, .slice t4 m4 k4, .slice t5 m5 k5, .slice t6 m6 k6, .int .i64 dt, .slice t8 m8 k8] 30)).alloc (.cells #[.int .i64 op, .int .u32 nx, .int .u32 ny, .int .u64 N, .int .u32 al, .int .u32 me, .int .u64 off, .int .i64 bt, .int .i64 bn, .bool bz, .int .i64 bh, .slice b0 p0 q0, .slice b1 p1 q1, .bool he, .slice b2 p2 q2, .slice b3 p3 q3, .slice b4 p4 q4] 52)).heap[w.heap.size + 1]? = some (.cells #[.int .i64 op, .int .u32 nx, .int .u32 ny, .int .u64 N, .int .u32 al, .int .u32 me, .int .u64 off, .int .i64 bt, .int .i64 bn, .bool bz, .int .i64 bh, .slice b0 p0 q0, .slice b1 p1 q1, .bool he, .slice b2 p2 q2, .slice b3 p3 q3, .slice b4 p4 q4] 52 (0, 0)) := by
    have := heap_alloc_last (w.alloc (.cells #[.slice t0 m0 k0, .slice t1 m1 k1, .slice t2 m2 k2, .slice t3 m3 k3, .slice t4 m4 k4, .slice t5 m5 k5, .slice t6 m6 k6, .int .i64 dt, .slice t8 m8 k8] 30)) (.cells #[.int .i64 op, .int .u32 nx, .int .u32 ny, .int .u64 N, .int .u32 al, .int .u32 me, .int .u64 off, .int .i64 bt, .int .i64 bn, .bool bz, .int .i64 bh, .slice b0 p0 q0, .slice b1 p1 q1, .bool he, .slice b2 p2 q2, .slice b3 p3 q3, .slice b4 p4 q4] 52)
    rw [alloc_size] at this
    exact this
  have HN := Hid.mk' N1
  clear N1
  go_enter Tryz.func39, Tryz.ntmps39
  go_wp2_with (first
    | (with_reducible refine stop_load 52 rfl ?_
       unfold Stop
       refine wpList_load_row rfl 52 _ rfl (w.heap.size + 1) (by go_simp) 52 #[.int .i64 op, .int .u32 nx, .int .u32 ny, .int .u64 N, .int .u32 al, .int .u32 me, .int .u64 off, .int .i64 bt, .int .i64 bn, .bool bz, .int .i64 bh, .slice b0 p0 q0, .slice b1 p1 q1, .bool he, .slice b2 p2 q2, .slice b3 p3 q3, .slice b4 p4 q4] (0, 0) _ HN.out Tryz.underlying52 rfl (by kernel_rfl) ?_)
    | fail)
  refine (CM.out _ _ _ _).mono ?_
  rintro en w1 ⟨v, rfl, hv, g1⟩
  have gx : Grew w w1 := Grew.trans (by repeat (first | with_reducible exact Grew.refl _ | refine Grew.alloc ?_ _ | refine Grew.set ?_ (by simp) _ | refine Grew.drewN ?_ _ | refine Grew.drew ?_)) g1
  have G1 := Hid.mk' gx
  obtain ⟨fn, fA, fB, rfl⟩ := hv
  clear g1 gx CM HN
  go_wp2_with fail
  go_ret
  exact ⟨_, rfl, ⟨_, _, _, rfl⟩, G1.out⟩
set_option maxRecDepth 100000 in
theorem qarrayNewDefault_fn (t0 t1 t2 t3 t4 t5 t6 t8 : Option Addr) (m0 m1 m2 m3 m4 m5 m6 m8 k0 k1 k2 k3 k4 k5 k6 k8 : Nat) (dt op N al off bt bn bh nx ny me : Int) (bz he : Bool) (b0 b1 b2 b3 b4 : Option Addr) (p0 p1 p2 p3 p4 q0 q1 q2 q3 q4 : Nat) (w : World) : Calls Tryz.prog 40 #[.agg #[.slice t0 m0 k0, .slice t1 m1 k1, .slice t2 m2 k2, .slice t3 m3 k3, .slice t4 m4 k4, .slice t5 m5 k5, .slice t6 m6 k6, .int .i64 dt, .slice t8 m8 k8], .agg #[.int .i64 op, .int .u32 nx, .int .u32 ny, .int .u64 N, .int .u32 al, .int .u32 me, .int .u64 off, .int .i64 bt, .int .i64 bn, .bool bz, .int .i64 bh, .slice b0 p0 q0, .slice b1 p1 q1, .bool he, .slice b2 p2 q2, .slice b3 p3 q3, .slice b4 p4 q4]] w fun en w' => ∃ v, en = .returned v ∧ isFn v ∧ Grew w w' := by
  have CM : Hid (∀ f A B X, Calls Tryz.prog 68 #[.agg #[.int .i64 op, .int .u32 nx, .int .u32 ny, .int .u64 N, .int .u32 al, .int .u32 me, .int .u64 off, .int .i64 bt, .int .i64 bn, .bool bz, .int .i64 bh, .slice b0 p0 q0, .slice b1 p1 q1, .bool he, .slice b2 p2 q2, .slice b3 p3 q3, .slice b4 p4 q4], .func (.func f) A B] X fun en w' => ∃ v, en = .returned v ∧ isFn v ∧ Grew X w') := fun f A B X => makes_fn op N al off bt bn bh nx ny me bz he b0 b1 b2 b3 b4 p0 p1 p2 p3 p4 q0 q1 q2 q3 q4 f A B X
  have N1 : ((w.alloc (.cells #[.slice t0 m0 k0, .slice t1 m1 k1, .slice t2 m2 k2, .slice t3 m3 k3, .slice t4 m4 k4, .slice t5 m5 k5, .slice t6 m6 k6, .int .i64 dt, .slice t8 m8 k8] 30)).alloc (.cells #[.int .i64 op, .int .u32 nx, .int .u32 ny, .int .u64 N, .int .u32 al, .int .u32 me, .int .u64 off, .int .i64 bt, .int .i64 bn, .bool bz, .int .i64 bh, .slice b0 p0 q0, .slice b1 p1 q1, .bool he, .slice b2 p2 q2, .slice b3 p3 q3, .slice b4 p4 q4] 52)).heap[w.heap.size + 1]? = some (.cells #[.int .i64 op, .int .u32 nx, .int .u32 ny, .int .u64 N, .int .u32 al, .int .u32 me, .int .u64 off, .int .i64 bt, .int .i64 bn, .bool bz, .int .i64 bh, .slice b0 p0 q0, .slice b1 p1 q1, .bool he, .slice b2 p2 q2, .slice b3 p3 q3, .slice b4 p4 q4] 52 (0, 0)) := by
    have := heap_alloc_last (w.alloc (.cells #[.slice t0 m0 k0, .slice t1 m1 k1, .slice t2 m2 k2, .slice t3 m3 k3, .slice t4 m4 k4, .slice t5 m5 k5, .slice t6 m6 k6, .int .i64 dt, .slice t8 m8 k8] 30)) (.cells #[.int .i64 op, .int .u32 nx, .int .u32 ny, .int .u64 N, .int .u32 al, .int .u32 me, .int .u64 off, .int .i64 bt, .int .i64 bn, .bool bz, .int .i64 bh, .slice b0 p0 q0, .slice b1 p1 q1, .bool he, .slice b2 p2 q2, .slice b3 p3 q3, .slice b4 p4 q4] 52)
    rw [alloc_size] at this
    exact this
  have HN := Hid.mk' N1
  clear N1
  go_enter Tryz.func40, Tryz.ntmps40
  go_wp2_with (first
    | (with_reducible refine stop_load 52 rfl ?_
       unfold Stop
       refine wpList_load_row rfl 52 _ rfl (w.heap.size + 1) (by go_simp) 52 #[.int .i64 op, .int .u32 nx, .int .u32 ny, .int .u64 N, .int .u32 al, .int .u32 me, .int .u64 off, .int .i64 bt, .int .i64 bn, .bool bz, .int .i64 bh, .slice b0 p0 q0, .slice b1 p1 q1, .bool he, .slice b2 p2 q2, .slice b3 p3 q3, .slice b4 p4 q4] (0, 0) _ HN.out Tryz.underlying52 rfl (by kernel_rfl) ?_)
    | fail)
  refine (CM.out _ _ _ _).mono ?_
  rintro en w1 ⟨v, rfl, hv, g1⟩
  have gx : Grew w w1 := Grew.trans (by repeat (first | with_reducible exact Grew.refl _ | refine Grew.alloc ?_ _ | refine Grew.set ?_ (by simp) _ | refine Grew.drewN ?_ _ | refine Grew.drew ?_)) g1
  have G1 := Hid.mk' gx
  obtain ⟨fn, fA, fB, rfl⟩ := hv
  clear g1 gx CM HN
  go_wp2_with fail
  go_ret
  exact ⟨_, rfl, ⟨_, _, _, rfl⟩, G1.out⟩
set_option maxRecDepth 100000 in
theorem qarrayNewFixed_fn (t0 t1 t2 t3 t4 t5 t6 t8 : Option Addr) (m0 m1 m2 m3 m4 m5 m6 m8 k0 k1 k2 k3 k4 k5 k6 k8 : Nat) (dt op N al off bt bn bh nx ny me : Int) (bz he : Bool) (b0 b1 b2 b3 b4 : Option Addr) (p0 p1 p2 p3 p4 q0 q1 q2 q3 q4 : Nat) (w : World) : Calls Tryz.prog 41 #[.agg #[.slice t0 m0 k0, .slice t1 m1 k1, .slice t2 m2 k2, .slice t3 m3 k3, .slice t4 m4 k4, .slice t5 m5 k5, .slice t6 m6 k6, .int .i64 dt, .slice t8 m8 k8], .agg #[.int .i64 op, .int .u32 nx, .int .u32 ny, .int .u64 N, .int .u32 al, .int .u32 me, .int .u64 off, .int .i64 bt, .int .i64 bn, .bool bz, .int .i64 bh, .slice b0 p0 q0, .slice b1 p1 q1, .bool he, .slice b2 p2 q2, .slice b3 p3 q3, .slice b4 p4 q4]] w fun en w' => ∃ v, en = .returned v ∧ isFn v ∧ Grew w w' := by
  have CM : Hid (∀ f A B X, Calls Tryz.prog 68 #[.agg #[.int .i64 op, .int .u32 nx, .int .u32 ny, .int .u64 N, .int .u32 al, .int .u32 me, .int .u64 off, .int .i64 bt, .int .i64 bn, .bool bz, .int .i64 bh, .slice b0 p0 q0, .slice b1 p1 q1, .bool he, .slice b2 p2 q2, .slice b3 p3 q3, .slice b4 p4 q4], .func (.func f) A B] X fun en w' => ∃ v, en = .returned v ∧ isFn v ∧ Grew X w') := fun f A B X => makes_fn op N al off bt bn bh nx ny me bz he b0 b1 b2 b3 b4 p0 p1 p2 p3 p4 q0 q1 q2 q3 q4 f A B X
  have N1 : ((w.alloc (.cells #[.slice t0 m0 k0, .slice t1 m1 k1, .slice t2 m2 k2, .slice t3 m3 k3, .slice t4 m4 k4, .slice t5 m5 k5, .slice t6 m6 k6, .int .i64 dt, .slice t8 m8 k8] 30)).alloc (.cells #[.int .i64 op, .int .u32 nx, .int .u32 ny, .int .u64 N, .int .u32 al, .int .u32 me, .int .u64 off, .int .i64 bt, .int .i64 bn, .bool bz, .int .i64 bh, .slice b0 p0 q0, .slice b1 p1 q1, .bool he, .slice b2 p2 q2, .slice b3 p3 q3, .slice b4 p4 q4] 52)).heap[w.heap.size + 1]? = some (.cells #[.int .i64 op, .int .u32 nx, .int .u32 ny, .int .u64 N, .int .u32 al, .int .u32 me, .int .u64 off, .int .i64 bt, .int .i64 bn, .bool bz, .int .i64 bh, .slice b0 p0 q0, .slice b1 p1 q1, .bool he, .slice b2 p2 q2, .slice b3 p3 q3, .slice b4 p4 q4] 52 (0, 0)) := by
    have := heap_alloc_last (w.alloc (.cells #[.slice t0 m0 k0, .slice t1 m1 k1, .slice t2 m2 k2, .slice t3 m3 k3, .slice t4 m4 k4, .slice t5 m5 k5, .slice t6 m6 k6, .int .i64 dt, .slice t8 m8 k8] 30)) (.cells #[.int .i64 op, .int .u32 nx, .int .u32 ny, .int .u64 N, .int .u32 al, .int .u32 me, .int .u64 off, .int .i64 bt, .int .i64 bn, .bool bz, .int .i64 bh, .slice b0 p0 q0, .slice b1 p1 q1, .bool he, .slice b2 p2 q2, .slice b3 p3 q3, .slice b4 p4 q4] 52)
    rw [alloc_size] at this
    exact this
  have HN := Hid.mk' N1
  clear N1
  go_enter Tryz.func41, Tryz.ntmps41
  go_wp2_with (first
    | (with_reducible refine stop_load 52 rfl ?_
       unfold Stop
       refine wpList_load_row rfl 52 _ rfl (w.heap.size + 1) (by go_simp) 52 #[.int .i64 op, .int .u32 nx, .int .u32 ny, .int .u64 N, .int .u32 al, .int .u32 me, .int .u64 off, .int .i64 bt, .int .i64 bn, .bool bz, .int .i64 bh, .slice b0 p0 q0, .slice b1 p1 q1, .bool he, .slice b2 p2 q2, .slice b3 p3 q3, .slice b4 p4 q4] (0, 0) _ HN.out Tryz.underlying52 rfl (by kernel_rfl) ?_)
    | fail)
  refine (CM.out _ _ _ _).mono ?_
  rintro en w1 ⟨v, rfl, hv, g1⟩
  have gx : Grew w w1 := Grew.trans (by repeat (first | with_reducible exact Grew.refl _ | refine Grew.alloc ?_ _ | refine Grew.set ?_ (by simp) _ | refine Grew.drewN ?_ _ | refine Grew.drew ?_)) g1
  have G1 := Hid.mk' gx
  obtain ⟨fn, fA, fB, rfl⟩ := hv
  clear g1 gx CM HN
  go_wp2_with fail
  go_ret
  exact ⟨_, rfl, ⟨_, _, _, rfl⟩, G1.out⟩
set_option maxRecDepth 100000 in
theorem qarrayNewFrom_fn (t0 t1 t2 t3 t4 t5 t6 t8 : Option Addr) (m0 m1 m2 m3 m4 m5 m6 m8 k0 k1 k2 k3 k4 k5 k6 k8 : Nat) (dt op N al off bt bn bh nx ny me : Int) (bz he : Bool) (b0 b1 b2 b3 b4 : Option Addr) (p0 p1 p2 p3 p4 q0 q1 q2 q3 q4 : Nat) (f1 : Nat) (A1 B1 : Array Value) (w : World) : Calls Tryz.prog 42 #[.agg #[.slice t0 m0 k0, .slice t1 m1 k1, .slice t2 m2 k2, .slice t3 m3 k3, .slice t4 m4 k4, .slice t5 m5 k5, .slice t6 m6 k6, .int .i64 dt, .slice t8 m8 k8], .agg #[.int .i64 op, .int .u32 nx, .int .u32 ny, .int .u64 N, .int .u32 al, .int .u32 me, .int .u64 off, .int .i64 bt, .int .i64 bn, .bool bz, .int .i64 bh, .slice b0 p0 q0, .slice b1 p1 q1, .bool he, .slice b2 p2 q2, .slice b3 p3 q3, .slice b4 p4 q4], .func (.func f1) A1 B1] w fun en w' => ∃ v, en = .returned v ∧ isFn v ∧ Grew w w' := by
  have CM : Hid (∀ f A B X, Calls Tryz.prog 68 #[.agg #[.int .i64 op, .int .u32 nx, .int .u32 ny, .int .u64 N, .int .u32 al, .int .u32 me, .int .u64 off, .int .i64 bt, .int .i64 bn, .bool bz, .int .i64 bh, .slice b0 p0 q0, .slice b1 p1 q1, .bool he, .slice b2 p2 q2, .slice b3 p3 q3, .slice b4 p4 q4], .func (.func f) A B] X fun en w' => ∃ v, en = .returned v ∧ isFn v ∧ Grew X w') := fun f A B X => makes_fn op N al off bt bn bh nx ny me bz he b0 b1 b2 b3 b4 p0 p1 p2 p3 p4 q0 q1 q2 q3 q4 f A B X
  have N1 : ((w.alloc (.cells #[.slice t0 m0 k0, .slice t1 m1 k1, .slice t2 m2 k2, .slice t3 m3 k3, .slice t4 m4 k4, .slice t5 m5 k5, .slice t6 m6 k6, .int .i64 dt, .slice t8 m8 k8] 30)).alloc (.cells #[.int .i64 op, .int .u32 nx, .int .u32 ny, .int .u64 N, .int .u32 al, .int .u32 me, .int .u64 off, .int .i64 bt, .int .i64 bn, .bool bz, .int .i64 bh, .slice b0 p0 q0, .slice b1 p1 q1, .bool he, .slice b2 p2 q2, .slice b3 p3 q3, .slice b4 p4 q4] 52)).heap[w.heap.size + 1]? = some (.cells #[.int .i64 op, .int .u32 nx, .int .u32 ny, .int .u64 N, .int .u32 al, .int .u32 me, .int .u64 off, .int .i64 bt, .int .i64 bn, .bool bz, .int .i64 bh, .slice b0 p0 q0, .slice b1 p1 q1, .bool he, .slice b2 p2 q2, .slice b3 p3 q3, .slice b4 p4 q4] 52 (0, 0)) := by
    have := heap_alloc_last (w.alloc (.cells #[.slice t0 m0 k0, .slice t1 m1 k1, .slice t2 m2 k2, .slice t3 m3 k3, .slice t4 m4 k4, .slice t5 m5 k5, .slice t6 m6 k6, .int .i64 dt, .slice t8 m8 k8] 30)) (.cells #[.int .i64 op, .int .u32 nx, .int .u32 ny, .int .u64 N, .int .u32 al, .int .u32 me, .int .u64 off, .int .i64 bt, .int .i64 bn, .bool bz, .int .i64 bh, .slice b0 p0 q0, .slice b1 p1 q1, .bool he, .slice b2 p2 q2, .slice b3 p3 q3, .slice b4 p4 q4] 52)
    rw [alloc_size] at this
    exact this
  have HN := Hid.mk' N1
  clear N1
  go_enter Tryz.func42, Tryz.ntmps42
  go_wp2_with (first
    | (with_reducible refine stop_load 52 rfl ?_
       unfold Stop
       refine wpList_load_row rfl 52 _ rfl (w.heap.size + 1) (by go_simp) 52 #[.int .i64 op, .int .u32 nx, .int .u32 ny, .int .u64 N, .int .u32 al, .int .u32 me, .int .u64 off, .int .i64 bt, .int .i64 bn, .bool bz, .int .i64 bh, .slice b0 p0 q0, .slice b1 p1 q1, .bool he, .slice b2 p2 q2, .slice b3 p3 q3, .slice b4 p4 q4] (0, 0) _ HN.out Tryz.underlying52 rfl (by kernel_rfl) ?_)
    | fail)
  refine (CM.out _ _ _ _).mono ?_
  rintro en w1 ⟨v, rfl, hv, g1⟩
  have gx : Grew w w1 := Grew.trans (by repeat (first | with_reducible exact Grew.refl _ | refine Grew.alloc ?_ _ | refine Grew.set ?_ (by simp) _ | refine Grew.drewN ?_ _ | refine Grew.drew ?_)) g1
  have G1 := Hid.mk' gx
  obtain ⟨fn, fA, fB, rfl⟩ := hv
  clear g1 gx CM HN
  go_wp2_with fail
  go_ret
  exact ⟨_, rfl, ⟨_, _, _, rfl⟩, G1.out⟩
set_option maxRecDepth 100000 in
theorem qnull_fn (t0 t1 t2 t3 t4 t5 t6 t8 : Option Addr) (m0 m1 m2 m3 m4 m5 m6 m8 k0 k1 k2 k3 k4 k5 k6 k8 : Nat) (dt op N al off bt bn bh nx ny me : Int) (bz he : Bool) (b0 b1 b2 b3 b4 : Option Addr) (p0 p1 p2 p3 p4 q0 q1 q2 q3 q4 : Nat) (w : World) : Calls Tryz.prog 26 #[.agg #[.slice t0 m0 k0, .slice t1 m1 k1, .slice t2 m2 k2, .slice t3 m3 k3, .slice t4 m4 k4, .slice t5 m5 k5, .slice t6 m6 k6, .int .i64 dt, .slice t8 m8 k8], .agg #[.int .i64 op, .int .u32 nx, .int .u32 ny, .int .u64 N, .int .u32 al, .int .u32 me, .int .u64 off, .int .i64 bt, .int .i64 bn, .bool bz, .int .i64 bh, .slice b0 p0 q0, .slice b1 p1 q1, .bool he, .slice b2 p2 q2, .slice b3 p3 q3, .slice b4 p4 q4]] w fun en w' => ∃ v, en = .returned v ∧ isFn v ∧ Grew w w' := by
  go_enter Tryz.func26, Tryz.ntmps26
  go_wp2_with fail
  go_ret
  exact ⟨_, rfl, ⟨_, _, _, rfl⟩, (by repeat (first | with_reducible exact Grew.refl _ | refine Grew.alloc ?_ _ | refine Grew.set ?_ (by simp) _ | refine Grew.drewN ?_ _ | refine Grew.drew ?_))⟩
set_option maxRecDepth 100000 in
theorem qfunction_fn (t0 t1 t2 t3 t4 t5 t6 t8 : Option Addr) (m0 m1 m2 m3 m4 m5 m6 m8 k0 k1 k2 k3 k4 k5 k6 k8 : Nat) (dt op N al off bt bn bh nx ny me : Int) (bz he : Bool) (b0 b1 b2 b3 b4 : Option Addr) (p0 p1 p2 p3 p4 q0 q1 q2 q3 q4 : Nat) (w : World) : Calls Tryz.prog 30 #[.agg #[.slice t0 m0 k0, .slice t1 m1 k1, .slice t2 m2 k2, .slice t3 m3 k3, .slice t4 m4 k4, .slice t5 m5 k5, .slice t6 m6 k6, .int .i64 dt, .slice t8 m8 k8], .agg #[.int .i64 op, .int .u32 nx, .int .u32 ny, .int .u64 N, .int .u32 al, .int .u32 me, .int .u64 off, .int .i64 bt, .int .i64 bn, .bool bz, .int .i64 bh, .slice b0 p0 q0, .slice b1 p1 q1, .bool he, .slice b2 p2 q2, .slice b3 p3 q3, .slice b4 p4 q4]] w fun en w' => ∃ v, en = .returned v ∧ isFn v ∧ Grew w w' := by
  go_enter Tryz.func30, Tryz.ntmps30
  go_wp2_with fail
  go_ret
  exact ⟨_, rfl, ⟨_, _, _, rfl⟩, (by repeat (first | with_reducible exact Grew.refl _ | refine Grew.alloc ?_ _ | refine Grew.set ?_ (by simp) _ | refine Grew.drewN ?_ _ | refine Grew.drew ?_))⟩
set_option maxRecDepth 100000 in
theorem qarrayFill_fn (t0 t1 t2 t3 t4 t5 t6 t8 : Option Addr) (m0 m1 m2 m3 m4 m5 m6 m8 k0 k1 k2 k3 k4 k5 k6 k8 : Nat) (dt op N al off bt bn bh nx ny me : Int) (bz he : Bool) (b0 b1 b2 b3 b4 : Option Addr) (p0 p1 p2 p3 p4 q0 q1 q2 q3 q4 : Nat) (w : World) : Calls Tryz.prog 45 #[.agg #[.slice t0 m0 k0, .slice t1 m1 k1, .slice t2 m2 k2, .slice t3 m3 k3, .slice t4 m4 k4, .slice t5 m5 k5, .slice t6 m6 k6, .int .i64 dt, .slice t8 m8 k8], .agg #[.int .i64 op, .int .u32 nx, .int .u32 ny, .int .u64 N, .int .u32 al, .int .u32 me, .int .u64 off, .int .i64 bt, .int .i64 bn, .bool bz, .int .i64 bh, .slice b0 p0 q0, .slice b1 p1 q1, .bool he, .slice b2 p2 q2, .slice b3 p3 q3, .slice b4 p4 q4]] w fun en w' => ∃ v, en = .returned v ∧ isFn v ∧ Grew w w' := by
  go_enter Tryz.func45, Tryz.ntmps45
  go_wp2_with fail
  go_ret
  exact ⟨_, rfl, ⟨_, _, _, rfl⟩, (by repeat (first | with_reducible exact Grew.refl _ | refine Grew.alloc ?_ _ | refine Grew.set ?_ (by simp) _ | refine Grew.drewN ?_ _ | refine Grew.drew ?_))⟩
set_option maxRecDepth 100000 in
theorem qarrayCopy_fn (t0 t1 t2 t3 t4 t5 t6 t8 : Option Addr) (m0 m1 m2 m3 m4 m5 m6 m8 k0 k1 k2 k3 k4 k5 k6 k8 : Nat) (dt op N al off bt bn bh nx ny me : Int) (bz he : Bool) (b0 b1 b2 b3 b4 : Option Addr) (p0 p1 p2 p3 p4 q0 q1 q2 q3 q4 : Nat) (w : World) : Calls Tryz.prog 46 #[.agg #[.slice t0 m0 k0, .slice t1 m1 k1, .slice t2 m2 k2, .slice t3 m3 k3, .slice t4 m4 k4, .slice t5 m5 k5, .slice t6 m6 k6, .int .i64 dt, .slice t8 m8 k8], .agg #[.int .i64 op, .int .u32 nx, .int .u32 ny, .int .u64 N, .int .u32 al, .int .u32 me, .int .u64 off, .int .i64 bt, .int .i64 bn, .bool bz, .int .i64 bh, .slice b0 p0 q0, .slice b1 p1 q1, .bool he, .slice b2 p2 q2, .slice b3 p3 q3, .slice b4 p4 q4]] w fun en w' => ∃ v, en = .returned v ∧ isFn v ∧ Grew w w' := by
  go_enter Tryz.func46, Tryz.ntmps46
  go_wp2_with fail
  go_ret
  exact ⟨_, rfl, ⟨_, _, _, rfl⟩, (by repeat (first | with_reducible exact Grew.refl _ | refine Grew.alloc ?_ _ | refine Grew.set ?_ (by simp) _ | refine Grew.drewN ?_ _ | refine Grew.drew ?_))⟩
set_option maxRecDepth 100000 in
theorem qcast_fn (t0 t1 t2 t3 t4 t5 t6 t8 : Option Addr) (m0 m1 m2 m3 m4 m5 m6 m8 k0 k1 k2 k3 k4 k5 k6 k8 : Nat) (dt op N al off bt bn bh nx ny me : Int) (bz he : Bool) (b0 b1 b2 b3 b4 : Option Addr) (p0 p1 p2 p3 p4 q0 q1 q2 q3 q4 : Nat) (w : World) : Calls Tryz.prog 92 #[.agg #[.slice t0 m0 k0, .slice t1 m1 k1, .slice t2 m2 k2, .slice t3 m3 k3, .slice t4 m4 k4, .slice t5 m5 k5, .slice t6 m6 k6, .int .i64 dt, .slice t8 m8 k8], .agg #[.int .i64 op, .int .u32 nx, .int .u32 ny, .int .u64 N, .int .u32 al, .int .u32 me, .int .u64 off, .int .i64 bt, .int .i64 bn, .bool bz, .int .i64 bh, .slice b0 p0 q0, .slice b1 p1 q1, .bool he, .slice b2 p2 q2, .slice b3 p3 q3, .slice b4 p4 q4]] w fun en w' => ∃ v, en = .returned v ∧ isFn v ∧ Grew w w' := by
  go_enter Tryz.func92, Tryz.ntmps92
  go_wp2_with fail
  go_ret
  exact ⟨_, rfl, ⟨_, _, _, rfl⟩, (by repeat (first | with_reducible exact Grew.refl _ | refine Grew.alloc ?_ _ | refine Grew.set ?_ (by simp) _ | refine Grew.drewN ?_ _ | refine Grew.drew ?_))⟩
set_option maxRecDepth 100000 in
theorem qbranch_fn (t0 t1 t2 t3 t4 t5 t6 t8 : Option Addr) (m0 m1 m2 m3 m4 m5 m6 m8 k0 k1 k2 k3 k4 k5 k6 k8 : Nat) (dt op N al off bt bn bh nx ny me : Int) (bz he : Bool) (b0 b1 b2 b3 b4 : Option Addr) (p0 p1 p2 p3 p4 q0 q1 q2 q3 q4 : Nat) (w : World) : Calls Tryz.prog 93 #[.agg #[.slice t0 m0 k0, .slice t1 m1 k1, .slice t2 m2 k2, .slice t3 m3 k3, .slice t4 m4 k4, .slice t5 m5 k5, .slice t6 m6 k6, .int .i64 dt, .slice t8 m8 k8], .agg #[.int .i64 op, .int .u32 nx, .int .u32 ny, .int .u64 N, .int .u32 al, .int .u32 me, .int .u64 off, .int .i64 bt, .int .i64 bn, .bool bz, .int .i64 bh, .slice b0 p0 q0, .slice b1 p1 q1, .bool he, .slice b2 p2 q2, .slice b3 p3 q3, .slice b4 p4 q4]] w fun en w' => ∃ v, en = .returned v ∧ isFn v ∧ Grew w w' := by
  go_enter Tryz.func93, Tryz.ntmps93
  go_wp2_with fail
  go_ret
  exact ⟨_, rfl, ⟨_, _, _, rfl⟩, (by repeat (first | with_reducible exact Grew.refl _ | refine Grew.alloc ?_ _ | refine Grew.set ?_ (by simp) _ | refine Grew.drewN ?_ _ | refine Grew.drew ?_))⟩
set_option maxRecDepth 100000 in
theorem qarrayInitFrom_fn (t0 t1 t2 t3 t4 t5 t6 t8 : Option Addr) (m0 m1 m2 m3 m4 m5 m6 m8 k0 k1 k2 k3 k4 k5 k6 k8 : Nat) (dt op N al off bt bn bh nx ny me : Int) (bz he : Bool) (b0 b1 b2 b3 b4 : Option Addr) (p0 p1 p2 p3 p4 q0 q1 q2 q3 q4 : Nat) (f1 : Nat) (A1 B1 : Array Value) (w : World) : Calls Tryz.prog 47 #[.agg #[.slice t0 m0 k0, .slice t1 m1 k1, .slice t2 m2 k2, .slice t3 m3 k3, .slice t4 m4 k4, .slice t5 m5 k5, .slice t6 m6 k6, .int .i64 dt, .slice t8 m8 k8], .agg #[.int .i64 op, .int .u32 nx, .int .u32 ny, .int .u64 N, .int .u32 al, .int .u32 me, .int .u64 off, .int .i64 bt, .int .i64 bn, .bool bz, .int .i64 bh, .slice b0 p0 q0, .slice b1 p1 q1, .bool he, .slice b2 p2 q2, .slice b3 p3 q3, .slice b4 p4 q4], .func (.func f1) A1 B1] w fun en w' => ∃ v, en = .returned v ∧ isFn v ∧ Grew w w' := by
  go_enter Tryz.func47, Tryz.ntmps47
  go_wp2_with fail
  go_ret
  exact ⟨_, rfl, ⟨_, _, _, rfl⟩, (by repeat (first | with_reducible exact Grew.refl _ | refine Grew.alloc ?_ _ | refine Grew.set ?_ (by simp) _ | refine Grew.drewN ?_ _ | refine Grew.drew ?_))⟩
end Go.Proofs.YtikbfhhebhhglaaGreatDoor
