/-
  The walks of the document's below, key, format and Compare; no statement is proved here.
-/
import Derived.Test.YtjkebimmddlccaaDoorFmW
namespace Go.Proofs.YtjkebimmddlccaaDoor
open Go.RowKit
set_option linter.unusedVariables false
set_option linter.unusedSimpArgs false

set_option maxRecDepth 100000 in
theorem below_1 (a : Nat) (ha : a < 18446744073709551616) (w : World) :
    Calls Tryd.prog 63 #[fv Ieee.single, .int .u64 (a : Int)] w fun e w' => e = .returned (.bool (ng Ieee.single a)) ∧ Grew w w' := by
  have W' := fun w : World => sign_any (f := Ieee.single) (by simp [Two]) w
  rw [sw1] at W'
  have W : CG 60 #[.agg #[.int .i64 23, .int .i64 8]] (.int .u64 2147483648) := W'
  rw [fv1]
  go_enter Tryd.func63, Tryd.ntmps63
  go_wp2_with fail
  refine (W.out _).mono ?_
  rintro e w1 ⟨rfl, g1⟩
  go_wp2
  go_ret
  go_light
  refine ⟨?_, Grew.trans ((Grew.refl _).alloc _) g1⟩
  show Ending.returned (.bool (bits .and .u64 (a : Int) 2147483648 != 0)) = _
  rw [sgn_31 a ha]
  have := ng_ne Ieee.single a
  rw [sw1] at this
  rw [this]
  cases ng Ieee.single a <;> rfl
set_option maxRecDepth 100000 in
theorem below_2 (a : Nat) (ha : a < 18446744073709551616) (w : World) :
    Calls Tryd.prog 63 #[fv Ieee.double, .int .u64 (a : Int)] w fun e w' => e = .returned (.bool (ng Ieee.double a)) ∧ Grew w w' := by
  have W' := fun w : World => sign_any (f := Ieee.double) (by simp [Two]) w
  rw [sw2] at W'
  have W : CG 60 #[.agg #[.int .i64 52, .int .i64 11]] (.int .u64 9223372036854775808) := W'
  rw [fv2]
  go_enter Tryd.func63, Tryd.ntmps63
  go_wp2_with fail
  refine (W.out _).mono ?_
  rintro e w1 ⟨rfl, g1⟩
  go_wp2
  go_ret
  go_light
  refine ⟨?_, Grew.trans ((Grew.refl _).alloc _) g1⟩
  show Ending.returned (.bool (bits .and .u64 (a : Int) 9223372036854775808 != 0)) = _
  rw [sgn_63 a ha]
  have := ng_ne Ieee.double a
  rw [sw2] at this
  rw [this]
  cases ng Ieee.double a <;> rfl
theorem below_any {f : Ieee.Format} (ht : Two f) (a : Nat) (ha : a < 18446744073709551616) (w : World) :
    Calls Tryd.prog 63 #[fv f, .int .u64 (a : Int)] w fun e w' => e = .returned (.bool (ng f a)) ∧ Grew w w' := by
  rcases ht with rfl | rfl
  · exact below_1 a ha w
  · exact below_2 a ha w
theorem sz_63 {f : Ieee.Format} (ht : Two f) (a : Nat) : sz f a < 9223372036854775808 := by
  have := sz_lt f a
  rcases ht with rfl | rfl
  · rw [sw1] at this; omega
  · rw [sw2] at this; omega
set_option maxRecDepth 100000 in
theorem key_true {f : Ieee.Format} (ht : Two f) (a : Nat) (ha : a < 18446744073709551616) (w : World) (hn : ng f a = true) :
    Calls Tryd.prog 71 #[fv f, .int .u64 (a : Int)] w fun e w' => e = .returned (.int .i64 (key f a)) ∧ Grew w w' := by
  have W' := fun w : World => below_any ht a ha w
  rw [hn] at W'
  have hs := sz_63 ht a
  have Z' := fun w : World => size_any ht a ha w
  have ek : key f a = -(sz f a : Int) := by unfold key; rw [hn]; rfl
  rw [ek]
  generalize sz f a = z at *
  have W : CG 63 #[.agg #[.int .i64 (f.fractionBits : Int), .int .i64 (f.exponentBits : Int)], .int .u64 (a : Int)] (.bool true) := W'
  have Z : CG 59 #[.agg #[.int .i64 (f.fractionBits : Int), .int .i64 (f.exponentBits : Int)], .int .u64 (a : Int)] (.int .u64 (z : Int)) := Z'
  clear W' Z' ek
  unfold fv
  go_enter Tryd.func71, Tryd.ntmps71
  go_wp2_with fail
  refine (W.out _).mono ?_
  rintro e w1 ⟨rfl, g1⟩
  obtain ⟨l1_0, h1_0_0, h1_0_1⟩ := g1.c2 (w.heap.size) (.int .i64 (f.fractionBits : Int)) (.int .i64 (f.exponentBits : Int))
  go_wp2_with fail
  refine (Z.out _).mono ?_
  rintro e w2 ⟨rfl, g2⟩
  go_wp2
  go_ret
  go_light
  refine ⟨by first | rfl | (congr 2; simp) | simp, ?_⟩
  repeat (first | exact Grew.refl _ | refine Grew.drew ?_ | refine Grew.drewN ?_ _ | refine Grew.alloc ?_ _ | refine Grew.set ?_ (by first | (simp; done) | (simp; omega) | omega) _ | refine Grew.trans ?_ g1 | refine Grew.trans ?_ g2 | assumption)
set_option maxRecDepth 100000 in
theorem key_false {f : Ieee.Format} (ht : Two f) (a : Nat) (ha : a < 18446744073709551616) (w : World) (hn : ng f a = false) :
    Calls Tryd.prog 71 #[fv f, .int .u64 (a : Int)] w fun e w' => e = .returned (.int .i64 (key f a)) ∧ Grew w w' := by
  have W' := fun w : World => below_any ht a ha w
  rw [hn] at W'
  have hs := sz_63 ht a
  have Z' := fun w : World => size_any ht a ha w
  have ek : key f a = (sz f a : Int) := by unfold key; rw [hn]; rfl
  rw [ek]
  generalize sz f a = z at *
  have W : CG 63 #[.agg #[.int .i64 (f.fractionBits : Int), .int .i64 (f.exponentBits : Int)], .int .u64 (a : Int)] (.bool false) := W'
  have Z : CG 59 #[.agg #[.int .i64 (f.fractionBits : Int), .int .i64 (f.exponentBits : Int)], .int .u64 (a : Int)] (.int .u64 (z : Int)) := Z'
  clear W' Z' ek
  unfold fv
  go_enter Tryd.func71, Tryd.ntmps71
  go_wp2_with fail
  refine (W.out _).mono ?_
  rintro e w1 ⟨rfl, g1⟩
  obtain ⟨l1_0, h1_0_0, h1_0_1⟩ := g1.c2 (w.heap.size) (.int .i64 (f.fractionBits : Int)) (.int .i64 (f.exponentBits : Int))
  go_wp2_with fail
  refine (Z.out _).mono ?_
  rintro e w2 ⟨rfl, g2⟩
  go_wp2
  go_ret
  go_light
  refine ⟨by first | rfl | (congr 2; simp) | simp, ?_⟩
  repeat (first | exact Grew.refl _ | refine Grew.drew ?_ | refine Grew.drewN ?_ _ | refine Grew.alloc ?_ _ | refine Grew.set ?_ (by first | (simp; done) | (simp; omega) | omega) _ | refine Grew.trans ?_ g1 | refine Grew.trans ?_ g2 | assumption)
theorem key_any {f : Ieee.Format} (ht : Two f) (a : Nat) (ha : a < 18446744073709551616) (w : World) :
    Calls Tryd.prog 71 #[fv f, .int .u64 (a : Int)] w fun e w' => e = .returned (.int .i64 (key f a)) ∧ Grew w w' := by
  cases hn : ng f a
  · exact key_false ht a ha w hn
  · exact key_true ht a ha w hn
set_option maxRecDepth 100000 in
set_option maxHeartbeats 2000000 in
theorem format_1 (op first second n : Int) (w : World) (o0 : -9223372036854775808 ≤ op) (o1 : op ≤ 9223372036854775807) (f0 : 0 ≤ first) (f1 : first ≤ 1000) (s0 : 0 ≤ second) (s1 : second ≤ 1000) (n0 : 0 ≤ n) (n1 : n ≤ 10) (h0 : first ≤ op) (h1 : op < first + n) :
    Calls Tryd.prog 28 #[.int .i64 op, .int .i64 first, .int .i64 second, .int .i64 n] w fun e w' => e = .returned (.tuple #[fv Ieee.single, .int .i64 (op - first), .bool true]) ∧ Grew w w' := by
  have F3 : CG 42 #[] (.agg #[.int .i64 23, .int .i64 8]) := fun w => F32_any w
  have F6 : CG 44 #[] (.agg #[.int .i64 52, .int .i64 11]) := fun w => F64_any w
  have wf : IntKind.i64.wrap (first + n) = first + n := by rw [IntKind.wrap_i64]; omega
  have ws : IntKind.i64.wrap (second + n) = second + n := by rw [IntKind.wrap_i64]; omega
  go_enter Tryd.func28, Tryd.ntmps28
  go_wp2_with fail
  refine (F3.out _).mono ?_
  rintro e w1 ⟨rfl, g1⟩
  obtain ⟨l1_0, q1_0⟩ := g1.blk (B := w.heap.size) (by first | (simp; done) | (simp; omega) | omega)
  have h1_0_0 := q1_0.out 0 (.int .i64 0) (by go_simp)
  have z1_0_0 : w1.frozen? ⟨w.heap.size, 0, none⟩ = false := (by rw [g1.1.frozen (by first | (simp; done) | (simp; omega) | omega)]; go_simp)
  have h1_0_1 := q1_0.out 1 (.int .i64 0) (by go_simp)
  have z1_0_1 : w1.frozen? ⟨w.heap.size, 1, none⟩ = false := (by rw [g1.1.frozen (by first | (simp; done) | (simp; omega) | omega)]; go_simp)
  go_wp2
  have c0 : ((w1.setCell ⟨w.heap.size, 0, none⟩ (.int .i64 23)).setCell ⟨w.heap.size, 1, none⟩ (.int .i64 8)).cell? ⟨w.heap.size, 0, none⟩ = some (.int .i64 23) := by go_simp
  have c1 : ((w1.setCell ⟨w.heap.size, 0, none⟩ (.int .i64 23)).setCell ⟨w.heap.size, 1, none⟩ (.int .i64 8)).cell? ⟨w.heap.size, 1, none⟩ = some (.int .i64 8) := by go_simp
  refine bodyPost_ret (v := .tuple #[.agg #[.int .i64 23, .int .i64 8], .int .i64 (op - first), .bool true]) (by simp [results, Tryd.results28, go_sem, c0, c1]) rfl ⟨rfl, ?_⟩
  repeat (first | exact Grew.refl _ | refine Grew.drew ?_ | refine Grew.drewN ?_ _ | refine Grew.alloc ?_ _ | refine Grew.set ?_ (by first | (simp; done) | (simp; omega) | omega) _ | refine Grew.trans ?_ g1 | assumption)
set_option maxRecDepth 100000 in
set_option maxHeartbeats 2000000 in
theorem format_2 (op first second n : Int) (w : World) (o0 : -9223372036854775808 ≤ op) (o1 : op ≤ 9223372036854775807) (f0 : 0 ≤ first) (f1 : first ≤ 1000) (s0 : 0 ≤ second) (s1 : second ≤ 1000) (n0 : 0 ≤ n) (n1 : n ≤ 10) (h0 : op < first ∨ first + n ≤ op) (h2 : second ≤ op) (h3 : op < second + n) :
    Calls Tryd.prog 28 #[.int .i64 op, .int .i64 first, .int .i64 second, .int .i64 n] w fun e w' => e = .returned (.tuple #[fv Ieee.double, .int .i64 (op - second), .bool true]) ∧ Grew w w' := by
  have F3 : CG 42 #[] (.agg #[.int .i64 23, .int .i64 8]) := fun w => F32_any w
  have F6 : CG 44 #[] (.agg #[.int .i64 52, .int .i64 11]) := fun w => F64_any w
  have wf : IntKind.i64.wrap (first + n) = first + n := by rw [IntKind.wrap_i64]; omega
  have ws : IntKind.i64.wrap (second + n) = second + n := by rw [IntKind.wrap_i64]; omega
  rcases h0 with c | c <;>
  · go_enter Tryd.func28, Tryd.ntmps28
    go_wp2_with fail
    refine (F6.out _).mono ?_
    rintro e w1 ⟨rfl, g1⟩
    obtain ⟨l1_0, q1_0⟩ := g1.blk (B := w.heap.size) (by first | (simp; done) | (simp; omega) | omega)
    have h1_0_0 := q1_0.out 0 (.int .i64 0) (by go_simp)
    have z1_0_0 : w1.frozen? ⟨w.heap.size, 0, none⟩ = false := (by rw [g1.1.frozen (by first | (simp; done) | (simp; omega) | omega)]; go_simp)
    have h1_0_1 := q1_0.out 1 (.int .i64 0) (by go_simp)
    have z1_0_1 : w1.frozen? ⟨w.heap.size, 1, none⟩ = false := (by rw [g1.1.frozen (by first | (simp; done) | (simp; omega) | omega)]; go_simp)
    go_wp2
    have c0 : ((w1.setCell ⟨w.heap.size, 0, none⟩ (.int .i64 52)).setCell ⟨w.heap.size, 1, none⟩ (.int .i64 11)).cell? ⟨w.heap.size, 0, none⟩ = some (.int .i64 52) := by go_simp
    have c1 : ((w1.setCell ⟨w.heap.size, 0, none⟩ (.int .i64 52)).setCell ⟨w.heap.size, 1, none⟩ (.int .i64 11)).cell? ⟨w.heap.size, 1, none⟩ = some (.int .i64 11) := by go_simp
    refine bodyPost_ret (v := .tuple #[.agg #[.int .i64 52, .int .i64 11], .int .i64 (op - second), .bool true]) (by simp [results, Tryd.results28, go_sem, c0, c1]) rfl ⟨rfl, ?_⟩
    repeat (first | exact Grew.refl _ | refine Grew.drew ?_ | refine Grew.drewN ?_ _ | refine Grew.alloc ?_ _ | refine Grew.set ?_ (by first | (simp; done) | (simp; omega) | omega) _ | refine Grew.trans ?_ g1 | assumption)
set_option maxRecDepth 100000 in
set_option maxHeartbeats 2000000 in
theorem format_3 (op first second n : Int) (w : World) (o0 : -9223372036854775808 ≤ op) (o1 : op ≤ 9223372036854775807) (f0 : 0 ≤ first) (f1 : first ≤ 1000) (s0 : 0 ≤ second) (s1 : second ≤ 1000) (n0 : 0 ≤ n) (n1 : n ≤ 10) (h0 : op < first ∨ first + n ≤ op) (h2 : op < second ∨ second + n ≤ op) :
    Calls Tryd.prog 28 #[.int .i64 op, .int .i64 first, .int .i64 second, .int .i64 n] w fun e w' => ∃ k : Int, e = .returned (.tuple #[fv Ieee.double, .int .i64 k, .bool false]) ∧ Grew w w' := by
  have F3 : CG 42 #[] (.agg #[.int .i64 23, .int .i64 8]) := fun w => F32_any w
  have F6 : CG 44 #[] (.agg #[.int .i64 52, .int .i64 11]) := fun w => F64_any w
  have wf : IntKind.i64.wrap (first + n) = first + n := by rw [IntKind.wrap_i64]; omega
  have ws : IntKind.i64.wrap (second + n) = second + n := by rw [IntKind.wrap_i64]; omega
  rcases h0 with c | c <;> rcases h2 with d | d <;>
  · go_enter Tryd.func28, Tryd.ntmps28
    go_wp2_with fail
    refine (F6.out _).mono ?_
    rintro e w1 ⟨rfl, g1⟩
    obtain ⟨l1_0, q1_0⟩ := g1.blk (B := w.heap.size) (by first | (simp; done) | (simp; omega) | omega)
    have h1_0_0 := q1_0.out 0 (.int .i64 0) (by go_simp)
    have z1_0_0 : w1.frozen? ⟨w.heap.size, 0, none⟩ = false := (by rw [g1.1.frozen (by first | (simp; done) | (simp; omega) | omega)]; go_simp)
    have h1_0_1 := q1_0.out 1 (.int .i64 0) (by go_simp)
    have z1_0_1 : w1.frozen? ⟨w.heap.size, 1, none⟩ = false := (by rw [g1.1.frozen (by first | (simp; done) | (simp; omega) | omega)]; go_simp)
    go_wp2
    have c0 : ((w1.setCell ⟨w.heap.size, 0, none⟩ (.int .i64 52)).setCell ⟨w.heap.size, 1, none⟩ (.int .i64 11)).cell? ⟨w.heap.size, 0, none⟩ = some (.int .i64 52) := by go_simp
    have c1 : ((w1.setCell ⟨w.heap.size, 0, none⟩ (.int .i64 52)).setCell ⟨w.heap.size, 1, none⟩ (.int .i64 11)).cell? ⟨w.heap.size, 1, none⟩ = some (.int .i64 11) := by go_simp
    first
    | (refine bodyPost_ret (v := .tuple #[.agg #[.int .i64 52, .int .i64 11], .int .i64 (wrap64 (op - second)), .bool false]) (by first | (simp [results, Tryd.results28, go_sem, c0, c1]; done) | (simp [results, Tryd.results28, go_sem, c0, c1]; omega)) rfl ?_)
    | (refine bodyPost_ret (v := .tuple #[.agg #[.int .i64 52, .int .i64 11], .int .i64 (op - second), .bool false]) (by first | (simp [results, Tryd.results28, go_sem, c0, c1]; done) | (simp [results, Tryd.results28, go_sem, c0, c1]; omega)) rfl ?_)
    first | refine ⟨⟨_, rfl⟩, ?_⟩ | refine ⟨_, rfl, ?_⟩
    repeat (first | exact Grew.refl _ | refine Grew.drew ?_ | refine Grew.drewN ?_ _ | refine Grew.alloc ?_ _ | refine Grew.set ?_ (by first | (simp; done) | (simp; omega) | omega) _ | refine Grew.trans ?_ g1 | assumption)
end Go.Proofs.YtjkebimmddlccaaDoor
