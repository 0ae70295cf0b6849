/-
  The walk of the document's whole; no statement is proved here.
-/
import Derived.Test.YtjkebimmddlccaaDoorCkW
import Derived.Test.YtjkebimmddlccaaDoorRefK
namespace Go.Proofs.YtjkebimmddlccaaDoor
open Go.RowKit
set_option linter.unusedVariables false
set_option linter.unusedSimpArgs false

set_option maxRecDepth 100000 in
set_option maxHeartbeats 2000000 in
theorem whole_0 {f : Ieee.Format} (k a m e : Int) (w : World) (he : (decide (0 ≤ e)) = true)
    (PX : CG 80 #[.agg #[.int .i64 (f.fractionBits : Int), .int .i64 (f.exponentBits : Int)], .int .u64 a] (.tuple #[.int .u64 m, .int .i64 e])) :
    Calls Tryd.prog 66 #[.agg #[.int .i64 (f.fractionBits : Int), .int .i64 (f.exponentBits : Int)], .int .i64 k, .int .u64 a] w fun en w' => en = .returned (.int .u64 a) ∧ Grew w w' := by
  go_enter Tryd.func66, Tryd.ntmps66
  go_wp2_with fail
  refine (PX.out _).mono ?_
  rintro en w1 ⟨rfl, g1⟩
  obtain ⟨l1_0, h1_0_0, h1_0_1⟩ := g1.c2 (w.heap.size) (.int .i64 (f.fractionBits : Int)) (.int .i64 (f.exponentBits : Int))
  go_wp2
  go_ret
  go_light
  refine ⟨by first | rfl | simp, ?_⟩
  repeat (first | exact Grew.refl _ | assumption | refine Grew.drew ?_ | refine Grew.alloc ?_ _ | refine Grew.trans ?_ (by assumption))
set_option maxRecDepth 100000 in
set_option maxHeartbeats 2000000 in
theorem whole_t {f : Ieee.Format} (a m e x L Lh R : Int) (w : World) (p : Bool) (mo : Bool) (he : (decide (0 ≤ e)) = false) (e0 : -2000 ≤ e) (e1 : e ≤ -1) (x0 : (x == 0) = false)
    (PX : CG 80 #[.agg #[.int .i64 (f.fractionBits : Int), .int .i64 (f.exponentBits : Int)], .int .u64 a] (.tuple #[.int .u64 m, .int .i64 e]))
    (Za : CG 59 #[.agg #[.int .i64 (f.fractionBits : Int), .int .i64 (f.exponentBits : Int)], .int .u64 a] (.int .u64 x))
    (R1 : CG 93 #[.agg #[.int .u64 0, .int .u64 m, .bool false], .int .i64 (-e)] (.agg #[.int .u64 0, .int .u64 L, .bool mo]))
    (NX : CG 63 #[.agg #[.int .i64 (f.fractionBits : Int), .int .i64 (f.exponentBits : Int)], .int .u64 a] (.bool p))
    (RD : CG 79 #[.agg #[.int .i64 (f.fractionBits : Int), .int .i64 (f.exponentBits : Int)], .bool p, .agg #[.int .u64 0, .int .u64 L, .bool false], .int .i64 0] (.int .u64 R)) :
    Calls Tryd.prog 66 #[.agg #[.int .i64 (f.fractionBits : Int), .int .i64 (f.exponentBits : Int)], .int .i64 4, .int .u64 a] w fun en w' => en = .returned (.int .u64 R) ∧ Grew w w' := by
  have w1e : IntKind.i64.wrap (-e) = -e := by rw [IntKind.wrap_i64]; omega
  have w2e : IntKind.i64.wrap (-e - 1) = -e - 1 := by rw [IntKind.wrap_i64]; omega
  go_enter Tryd.func66, Tryd.ntmps66
  go_wp2_with fail
  refine (PX.out _).mono ?_
  rintro en w1 ⟨rfl, g1⟩
  obtain ⟨l1_0, h1_0_0, h1_0_1⟩ := g1.c2 (w.heap.size) (.int .i64 (f.fractionBits : Int)) (.int .i64 (f.exponentBits : Int))
  go_wp2_with fail
  refine (Za.out _).mono ?_
  rintro en w2 ⟨rfl, g2⟩
  obtain ⟨l2_0, h2_0_0, h2_0_1⟩ := g2.c2 (w.heap.size) (.int .i64 (f.fractionBits : Int)) (.int .i64 (f.exponentBits : Int))
  go_wp2_with fail
  refine (R1.out _).mono ?_
  rintro en w3 ⟨rfl, g3⟩
  obtain ⟨l3_0, h3_0_0, h3_0_1⟩ := g3.c2 (w.heap.size) (.int .i64 (f.fractionBits : Int)) (.int .i64 (f.exponentBits : Int))
  go_wp2_with fail
  refine wp_region_ck [(w.heap.size, 0, .int .i64 (f.fractionBits : Int)), (w.heap.size, 1, .int .i64 (f.exponentBits : Int)), (w3.heap.size, 0, .int .u64 0), (w3.heap.size, 1, .int .u64 L), (w3.heap.size, 2, .bool mo)] (by kernel_rfl) (by kernel_rfl) ⟨⟨by first | (simp; done) | (simp; omega) | omega, by go_simp⟩, ⟨by first | (simp; done) | (simp; omega) | omega, by go_simp⟩, ⟨by first | (simp; done) | (simp; omega) | omega, by go_simp⟩, ⟨by first | (simp; done) | (simp; omega) | omega, by go_simp⟩, ⟨by first | (simp; done) | (simp; omega) | omega, by go_simp⟩, trivial⟩ ?_
  repeat (first
    | go_big_quiet_skip
    | (go_big_quiet_want
       go_big_quiet_op
       first
       | go_big_quiet_on
       | (refine ⟨_, fun _ _ => rfl, ?_⟩; go_big_quiet_on)
       | (refine ⟨.agg #[.int .i64 (f.fractionBits : Int), .int .i64 (f.exponentBits : Int)], fun w' hw' => ?_, ?_⟩
          · (obtain ⟨_, ⟨_, hc0⟩, ⟨_, hc1⟩, ⟨_, hc2⟩, ⟨_, hc3⟩, ⟨_, hc4⟩, _⟩ := hw'; go_simp; done)
          go_big_quiet_on)
       | (refine ⟨.int .u64 L, fun w' hw' => ?_, ?_⟩
          · (obtain ⟨_, ⟨_, hc0⟩, ⟨_, hc1⟩, ⟨_, hc2⟩, ⟨_, hc3⟩, ⟨_, hc4⟩, _⟩ := hw'; go_simp; done)
          go_big_quiet_on)
       | (apply Exists.intro
          refine ⟨fun w' hw' => ?_, ?_⟩
          · (first
          | (go_at_call 63; exact hw'.call (NX.out _))
          | (go_at_call 79; exact hw'.call (RD.out _)))
          go_big_quiet_on)))
  refine wpQuiet_nil ?_
  rintro w8 ⟨g8, ⟨b8_0, c8_0⟩, ⟨b8_1, c8_1⟩, ⟨b8_2, c8_2⟩, ⟨b8_3, c8_3⟩, ⟨b8_4, c8_4⟩, _⟩
  have n8_0 : w.heap.size < w8.heap.size := Nat.lt_of_lt_of_le b8_0 g8.2
  have n8_2 : w3.heap.size < w8.heap.size := Nat.lt_of_lt_of_le b8_2 g8.2
  go_wp2
  go_ret
  go_light
  refine ⟨by first | rfl | simp, ?_⟩
  have s1 := g1.2
  have s2 := g2.2
  have s3 := g3.2
  simp at s1 s2 s3
  repeat (first | exact Grew.refl _ | assumption | refine Grew.drew ?_ | refine Grew.drewN ?_ _ | refine Grew.alloc ?_ _ | refine Grew.set ?_ (by first | (simp; done) | (simp; omega) | omega) _ | refine Grew.trans ?_ (by assumption))
set_option maxRecDepth 100000 in
set_option maxHeartbeats 2000000 in
theorem whole_2a {f : Ieee.Format} (a m e x L Lh R : Int) (w : World) (p : Bool) (he : (decide (0 ≤ e)) = false) (e0 : -2000 ≤ e) (e1 : e ≤ -1) (x0 : (x == 0) = false)
    (PX : CG 80 #[.agg #[.int .i64 (f.fractionBits : Int), .int .i64 (f.exponentBits : Int)], .int .u64 a] (.tuple #[.int .u64 m, .int .i64 e]))
    (Za : CG 59 #[.agg #[.int .i64 (f.fractionBits : Int), .int .i64 (f.exponentBits : Int)], .int .u64 a] (.int .u64 x))
    (R1 : CG 93 #[.agg #[.int .u64 0, .int .u64 m, .bool false], .int .i64 (-e)] (.agg #[.int .u64 0, .int .u64 L, .bool false]))
    (NX : CG 63 #[.agg #[.int .i64 (f.fractionBits : Int), .int .i64 (f.exponentBits : Int)], .int .u64 a] (.bool p))
    (RD : CG 79 #[.agg #[.int .i64 (f.fractionBits : Int), .int .i64 (f.exponentBits : Int)], .bool p, .agg #[.int .u64 0, .int .u64 L, .bool false], .int .i64 0] (.int .u64 R)) :
    Calls Tryd.prog 66 #[.agg #[.int .i64 (f.fractionBits : Int), .int .i64 (f.exponentBits : Int)], .int .i64 2, .int .u64 a] w fun en w' => en = .returned (.int .u64 R) ∧ Grew w w' := by
  have w1e : IntKind.i64.wrap (-e) = -e := by rw [IntKind.wrap_i64]; omega
  have w2e : IntKind.i64.wrap (-e - 1) = -e - 1 := by rw [IntKind.wrap_i64]; omega
  go_enter Tryd.func66, Tryd.ntmps66
  go_wp2_with fail
  refine (PX.out _).mono ?_
  rintro en w1 ⟨rfl, g1⟩
  obtain ⟨l1_0, h1_0_0, h1_0_1⟩ := g1.c2 (w.heap.size) (.int .i64 (f.fractionBits : Int)) (.int .i64 (f.exponentBits : Int))
  go_wp2_with fail
  refine (Za.out _).mono ?_
  rintro en w2 ⟨rfl, g2⟩
  obtain ⟨l2_0, h2_0_0, h2_0_1⟩ := g2.c2 (w.heap.size) (.int .i64 (f.fractionBits : Int)) (.int .i64 (f.exponentBits : Int))
  go_wp2_with fail
  refine (R1.out _).mono ?_
  rintro en w3 ⟨rfl, g3⟩
  obtain ⟨l3_0, h3_0_0, h3_0_1⟩ := g3.c2 (w.heap.size) (.int .i64 (f.fractionBits : Int)) (.int .i64 (f.exponentBits : Int))
  go_wp2_with fail
  refine wp_region_ck [(w.heap.size, 0, .int .i64 (f.fractionBits : Int)), (w.heap.size, 1, .int .i64 (f.exponentBits : Int)), (w3.heap.size, 0, .int .u64 0), (w3.heap.size, 1, .int .u64 L), (w3.heap.size, 2, .bool false)] (by kernel_rfl) (by kernel_rfl) ⟨⟨by first | (simp; done) | (simp; omega) | omega, by go_simp⟩, ⟨by first | (simp; done) | (simp; omega) | omega, by go_simp⟩, ⟨by first | (simp; done) | (simp; omega) | omega, by go_simp⟩, ⟨by first | (simp; done) | (simp; omega) | omega, by go_simp⟩, ⟨by first | (simp; done) | (simp; omega) | omega, by go_simp⟩, trivial⟩ ?_
  repeat (first
    | go_big_quiet_skip
    | (go_big_quiet_want
       go_big_quiet_op
       first
       | go_big_quiet_on
       | (refine ⟨_, fun _ _ => rfl, ?_⟩; go_big_quiet_on)
       | (refine ⟨.agg #[.int .i64 (f.fractionBits : Int), .int .i64 (f.exponentBits : Int)], fun w' hw' => ?_, ?_⟩
          · (obtain ⟨_, ⟨_, hc0⟩, ⟨_, hc1⟩, ⟨_, hc2⟩, ⟨_, hc3⟩, ⟨_, hc4⟩, _⟩ := hw'; go_simp; done)
          go_big_quiet_on)
       | (refine ⟨.int .u64 L, fun w' hw' => ?_, ?_⟩
          · (obtain ⟨_, ⟨_, hc0⟩, ⟨_, hc1⟩, ⟨_, hc2⟩, ⟨_, hc3⟩, ⟨_, hc4⟩, _⟩ := hw'; go_simp; done)
          go_big_quiet_on)
       | (apply Exists.intro
          refine ⟨fun w' hw' => ?_, ?_⟩
          · (first
          | (go_at_call 63; exact hw'.call (NX.out _))
          | (go_at_call 79; exact hw'.call (RD.out _)))
          go_big_quiet_on)))
  refine wpQuiet_nil ?_
  rintro w8 ⟨g8, ⟨b8_0, c8_0⟩, ⟨b8_1, c8_1⟩, ⟨b8_2, c8_2⟩, ⟨b8_3, c8_3⟩, ⟨b8_4, c8_4⟩, _⟩
  have n8_0 : w.heap.size < w8.heap.size := Nat.lt_of_lt_of_le b8_0 g8.2
  have n8_2 : w3.heap.size < w8.heap.size := Nat.lt_of_lt_of_le b8_2 g8.2
  go_wp2
  go_ret
  go_light
  refine ⟨by first | rfl | simp, ?_⟩
  have s1 := g1.2
  have s2 := g2.2
  have s3 := g3.2
  simp at s1 s2 s3
  repeat (first | exact Grew.refl _ | assumption | refine Grew.drew ?_ | refine Grew.drewN ?_ _ | refine Grew.alloc ?_ _ | refine Grew.set ?_ (by first | (simp; done) | (simp; omega) | omega) _ | refine Grew.trans ?_ (by assumption))
set_option maxRecDepth 100000 in
set_option maxHeartbeats 2000000 in
theorem whole_2b {f : Ieee.Format} (a m e x L Lh R : Int) (w : World) (he : (decide (0 ≤ e)) = false) (e0 : -2000 ≤ e) (e1 : e ≤ -1) (x0 : (x == 0) = false) (wl : IntKind.u64.wrap (L + 1) = L + 1)
    (PX : CG 80 #[.agg #[.int .i64 (f.fractionBits : Int), .int .i64 (f.exponentBits : Int)], .int .u64 a] (.tuple #[.int .u64 m, .int .i64 e]))
    (Za : CG 59 #[.agg #[.int .i64 (f.fractionBits : Int), .int .i64 (f.exponentBits : Int)], .int .u64 a] (.int .u64 x))
    (R1 : CG 93 #[.agg #[.int .u64 0, .int .u64 m, .bool false], .int .i64 (-e)] (.agg #[.int .u64 0, .int .u64 L, .bool true]))
    (NX : CG 63 #[.agg #[.int .i64 (f.fractionBits : Int), .int .i64 (f.exponentBits : Int)], .int .u64 a] (.bool false))
    (RD : CG 79 #[.agg #[.int .i64 (f.fractionBits : Int), .int .i64 (f.exponentBits : Int)], .bool false, .agg #[.int .u64 0, .int .u64 (L + 1), .bool false], .int .i64 0] (.int .u64 R)) :
    Calls Tryd.prog 66 #[.agg #[.int .i64 (f.fractionBits : Int), .int .i64 (f.exponentBits : Int)], .int .i64 2, .int .u64 a] w fun en w' => en = .returned (.int .u64 R) ∧ Grew w w' := by
  have w1e : IntKind.i64.wrap (-e) = -e := by rw [IntKind.wrap_i64]; omega
  have w2e : IntKind.i64.wrap (-e - 1) = -e - 1 := by rw [IntKind.wrap_i64]; omega
  go_enter Tryd.func66, Tryd.ntmps66
  go_wp2_with fail
  refine (PX.out _).mono ?_
  rintro en w1 ⟨rfl, g1⟩
  obtain ⟨l1_0, h1_0_0, h1_0_1⟩ := g1.c2 (w.heap.size) (.int .i64 (f.fractionBits : Int)) (.int .i64 (f.exponentBits : Int))
  go_wp2_with fail
  refine (Za.out _).mono ?_
  rintro en w2 ⟨rfl, g2⟩
  obtain ⟨l2_0, h2_0_0, h2_0_1⟩ := g2.c2 (w.heap.size) (.int .i64 (f.fractionBits : Int)) (.int .i64 (f.exponentBits : Int))
  go_wp2_with fail
  refine (R1.out _).mono ?_
  rintro en w3 ⟨rfl, g3⟩
  obtain ⟨l3_0, h3_0_0, h3_0_1⟩ := g3.c2 (w.heap.size) (.int .i64 (f.fractionBits : Int)) (.int .i64 (f.exponentBits : Int))
  go_wp2_with fail
  refine (NX.out _).mono ?_
  rintro en w4 ⟨rfl, g4⟩
  obtain ⟨l4_0, h4_0_0, h4_0_1⟩ := g4.c2 (w.heap.size) (.int .i64 (f.fractionBits : Int)) (.int .i64 (f.exponentBits : Int))
  obtain ⟨l4_1, h4_1_0, h4_1_1, h4_1_2⟩ := g4.c3 (w3.heap.size) (.int .u64 0) (.int .u64 L) (.bool true)
  have fz : w4.frozen? ⟨w3.heap.size, 1, none⟩ = false := (by rw [g4.1.frozen (by first | (simp; done) | (simp; omega) | omega)]; go_simp)
  go_wp2_with fail
  refine wp_region_ck [(w.heap.size, 0, .int .i64 (f.fractionBits : Int)), (w.heap.size, 1, .int .i64 (f.exponentBits : Int)), (w3.heap.size, 0, .int .u64 0), (w3.heap.size, 1, .int .u64 (L + 1)), (w3.heap.size, 2, .bool true)] (by kernel_rfl) (by kernel_rfl) ⟨⟨by first | (simp; done) | (simp; omega) | omega, by go_simp⟩, ⟨by first | (simp; done) | (simp; omega) | omega, by go_simp⟩, ⟨by first | (simp; done) | (simp; omega) | omega, by go_simp⟩, ⟨by first | (simp; done) | (simp; omega) | omega, by go_simp⟩, ⟨by first | (simp; done) | (simp; omega) | omega, by go_simp⟩, trivial⟩ ?_
  repeat (first
    | go_big_quiet_skip
    | (go_big_quiet_want
       go_big_quiet_op
       first
       | go_big_quiet_on
       | (refine ⟨_, fun _ _ => rfl, ?_⟩; go_big_quiet_on)
       | (refine ⟨.agg #[.int .i64 (f.fractionBits : Int), .int .i64 (f.exponentBits : Int)], fun w' hw' => ?_, ?_⟩
          · (obtain ⟨_, ⟨_, hc0⟩, ⟨_, hc1⟩, ⟨_, hc2⟩, ⟨_, hc3⟩, ⟨_, hc4⟩, _⟩ := hw'; go_simp; done)
          go_big_quiet_on)
       | (refine ⟨.int .u64 (L + 1), fun w' hw' => ?_, ?_⟩
          · (obtain ⟨_, ⟨_, hc0⟩, ⟨_, hc1⟩, ⟨_, hc2⟩, ⟨_, hc3⟩, ⟨_, hc4⟩, _⟩ := hw'; go_simp; done)
          go_big_quiet_on)
       | (apply Exists.intro
          refine ⟨fun w' hw' => ?_, ?_⟩
          · (first
          | (go_at_call 63; exact hw'.call (NX.out _))
          | (go_at_call 79; exact hw'.call (RD.out _)))
          go_big_quiet_on)))
  refine wpQuiet_nil ?_
  rintro w8 ⟨g8, ⟨b8_0, c8_0⟩, ⟨b8_1, c8_1⟩, ⟨b8_2, c8_2⟩, ⟨b8_3, c8_3⟩, ⟨b8_4, c8_4⟩, _⟩
  have n8_0 : w.heap.size < w8.heap.size := Nat.lt_of_lt_of_le b8_0 g8.2
  have n8_2 : w3.heap.size < w8.heap.size := Nat.lt_of_lt_of_le b8_2 g8.2
  go_wp2
  go_ret
  go_light
  refine ⟨by first | rfl | simp, ?_⟩
  have s1 := g1.2
  have s2 := g2.2
  have s3 := g3.2
  have s4 := g4.2
  simp at s1 s2 s3 s4
  repeat (first | exact Grew.refl _ | assumption | refine Grew.drew ?_ | refine Grew.drewN ?_ _ | refine Grew.alloc ?_ _ | refine Grew.set ?_ (by first | (simp; done) | (simp; omega) | omega) _ | refine Grew.trans ?_ (by assumption))
set_option maxRecDepth 100000 in
set_option maxHeartbeats 2000000 in
theorem whole_2c {f : Ieee.Format} (a m e x L Lh R : Int) (w : World) (he : (decide (0 ≤ e)) = false) (e0 : -2000 ≤ e) (e1 : e ≤ -1) (x0 : (x == 0) = false)
    (PX : CG 80 #[.agg #[.int .i64 (f.fractionBits : Int), .int .i64 (f.exponentBits : Int)], .int .u64 a] (.tuple #[.int .u64 m, .int .i64 e]))
    (Za : CG 59 #[.agg #[.int .i64 (f.fractionBits : Int), .int .i64 (f.exponentBits : Int)], .int .u64 a] (.int .u64 x))
    (R1 : CG 93 #[.agg #[.int .u64 0, .int .u64 m, .bool false], .int .i64 (-e)] (.agg #[.int .u64 0, .int .u64 L, .bool true]))
    (NX : CG 63 #[.agg #[.int .i64 (f.fractionBits : Int), .int .i64 (f.exponentBits : Int)], .int .u64 a] (.bool true))
    (RD : CG 79 #[.agg #[.int .i64 (f.fractionBits : Int), .int .i64 (f.exponentBits : Int)], .bool true, .agg #[.int .u64 0, .int .u64 L, .bool false], .int .i64 0] (.int .u64 R)) :
    Calls Tryd.prog 66 #[.agg #[.int .i64 (f.fractionBits : Int), .int .i64 (f.exponentBits : Int)], .int .i64 2, .int .u64 a] w fun en w' => en = .returned (.int .u64 R) ∧ Grew w w' := by
  have w1e : IntKind.i64.wrap (-e) = -e := by rw [IntKind.wrap_i64]; omega
  have w2e : IntKind.i64.wrap (-e - 1) = -e - 1 := by rw [IntKind.wrap_i64]; omega
  go_enter Tryd.func66, Tryd.ntmps66
  go_wp2_with fail
  refine (PX.out _).mono ?_
  rintro en w1 ⟨rfl, g1⟩
  obtain ⟨l1_0, h1_0_0, h1_0_1⟩ := g1.c2 (w.heap.size) (.int .i64 (f.fractionBits : Int)) (.int .i64 (f.exponentBits : Int))
  go_wp2_with fail
  refine (Za.out _).mono ?_
  rintro en w2 ⟨rfl, g2⟩
  obtain ⟨l2_0, h2_0_0, h2_0_1⟩ := g2.c2 (w.heap.size) (.int .i64 (f.fractionBits : Int)) (.int .i64 (f.exponentBits : Int))
  go_wp2_with fail
  refine (R1.out _).mono ?_
  rintro en w3 ⟨rfl, g3⟩
  obtain ⟨l3_0, h3_0_0, h3_0_1⟩ := g3.c2 (w.heap.size) (.int .i64 (f.fractionBits : Int)) (.int .i64 (f.exponentBits : Int))
  go_wp2_with fail
  refine (NX.out _).mono ?_
  rintro en w4 ⟨rfl, g4⟩
  obtain ⟨l4_0, h4_0_0, h4_0_1⟩ := g4.c2 (w.heap.size) (.int .i64 (f.fractionBits : Int)) (.int .i64 (f.exponentBits : Int))
  obtain ⟨l4_1, h4_1_0, h4_1_1, h4_1_2⟩ := g4.c3 (w3.heap.size) (.int .u64 0) (.int .u64 L) (.bool true)
  go_wp2_with fail
  refine wp_region_ck [(w.heap.size, 0, .int .i64 (f.fractionBits : Int)), (w.heap.size, 1, .int .i64 (f.exponentBits : Int)), (w3.heap.size, 0, .int .u64 0), (w3.heap.size, 1, .int .u64 L), (w3.heap.size, 2, .bool true)] (by kernel_rfl) (by kernel_rfl) ⟨⟨by first | (simp; done) | (simp; omega) | omega, by go_simp⟩, ⟨by first | (simp; done) | (simp; omega) | omega, by go_simp⟩, ⟨by first | (simp; done) | (simp; omega) | omega, by go_simp⟩, ⟨by first | (simp; done) | (simp; omega) | omega, by go_simp⟩, ⟨by first | (simp; done) | (simp; omega) | omega, by go_simp⟩, trivial⟩ ?_
  repeat (first
    | go_big_quiet_skip
    | (go_big_quiet_want
       go_big_quiet_op
       first
       | go_big_quiet_on
       | (refine ⟨_, fun _ _ => rfl, ?_⟩; go_big_quiet_on)
       | (refine ⟨.agg #[.int .i64 (f.fractionBits : Int), .int .i64 (f.exponentBits : Int)], fun w' hw' => ?_, ?_⟩
          · (obtain ⟨_, ⟨_, hc0⟩, ⟨_, hc1⟩, ⟨_, hc2⟩, ⟨_, hc3⟩, ⟨_, hc4⟩, _⟩ := hw'; go_simp; done)
          go_big_quiet_on)
       | (refine ⟨.int .u64 L, fun w' hw' => ?_, ?_⟩
          · (obtain ⟨_, ⟨_, hc0⟩, ⟨_, hc1⟩, ⟨_, hc2⟩, ⟨_, hc3⟩, ⟨_, hc4⟩, _⟩ := hw'; go_simp; done)
          go_big_quiet_on)
       | (apply Exists.intro
          refine ⟨fun w' hw' => ?_, ?_⟩
          · (first
          | (go_at_call 63; exact hw'.call (NX.out _))
          | (go_at_call 79; exact hw'.call (RD.out _)))
          go_big_quiet_on)))
  refine wpQuiet_nil ?_
  rintro w8 ⟨g8, ⟨b8_0, c8_0⟩, ⟨b8_1, c8_1⟩, ⟨b8_2, c8_2⟩, ⟨b8_3, c8_3⟩, ⟨b8_4, c8_4⟩, _⟩
  have n8_0 : w.heap.size < w8.heap.size := Nat.lt_of_lt_of_le b8_0 g8.2
  have n8_2 : w3.heap.size < w8.heap.size := Nat.lt_of_lt_of_le b8_2 g8.2
  go_wp2
  go_ret
  go_light
  refine ⟨by first | rfl | simp, ?_⟩
  have s1 := g1.2
  have s2 := g2.2
  have s3 := g3.2
  have s4 := g4.2
  simp at s1 s2 s3 s4
  repeat (first | exact Grew.refl _ | assumption | refine Grew.drew ?_ | refine Grew.drewN ?_ _ | refine Grew.alloc ?_ _ | refine Grew.set ?_ (by first | (simp; done) | (simp; omega) | omega) _ | refine Grew.trans ?_ (by assumption))
set_option maxRecDepth 100000 in
set_option maxHeartbeats 2000000 in
theorem whole_3a {f : Ieee.Format} (a m e x L Lh R : Int) (w : World) (p : Bool) (he : (decide (0 ≤ e)) = false) (e0 : -2000 ≤ e) (e1 : e ≤ -1) (x0 : (x == 0) = false)
    (PX : CG 80 #[.agg #[.int .i64 (f.fractionBits : Int), .int .i64 (f.exponentBits : Int)], .int .u64 a] (.tuple #[.int .u64 m, .int .i64 e]))
    (Za : CG 59 #[.agg #[.int .i64 (f.fractionBits : Int), .int .i64 (f.exponentBits : Int)], .int .u64 a] (.int .u64 x))
    (R1 : CG 93 #[.agg #[.int .u64 0, .int .u64 m, .bool false], .int .i64 (-e)] (.agg #[.int .u64 0, .int .u64 L, .bool false]))
    (NX : CG 63 #[.agg #[.int .i64 (f.fractionBits : Int), .int .i64 (f.exponentBits : Int)], .int .u64 a] (.bool p))
    (RD : CG 79 #[.agg #[.int .i64 (f.fractionBits : Int), .int .i64 (f.exponentBits : Int)], .bool p, .agg #[.int .u64 0, .int .u64 L, .bool false], .int .i64 0] (.int .u64 R)) :
    Calls Tryd.prog 66 #[.agg #[.int .i64 (f.fractionBits : Int), .int .i64 (f.exponentBits : Int)], .int .i64 3, .int .u64 a] w fun en w' => en = .returned (.int .u64 R) ∧ Grew w w' := by
  have w1e : IntKind.i64.wrap (-e) = -e := by rw [IntKind.wrap_i64]; omega
  have w2e : IntKind.i64.wrap (-e - 1) = -e - 1 := by rw [IntKind.wrap_i64]; omega
  go_enter Tryd.func66, Tryd.ntmps66
  go_wp2_with fail
  refine (PX.out _).mono ?_
  rintro en w1 ⟨rfl, g1⟩
  obtain ⟨l1_0, h1_0_0, h1_0_1⟩ := g1.c2 (w.heap.size) (.int .i64 (f.fractionBits : Int)) (.int .i64 (f.exponentBits : Int))
  go_wp2_with fail
  refine (Za.out _).mono ?_
  rintro en w2 ⟨rfl, g2⟩
  obtain ⟨l2_0, h2_0_0, h2_0_1⟩ := g2.c2 (w.heap.size) (.int .i64 (f.fractionBits : Int)) (.int .i64 (f.exponentBits : Int))
  go_wp2_with fail
  refine (R1.out _).mono ?_
  rintro en w3 ⟨rfl, g3⟩
  obtain ⟨l3_0, h3_0_0, h3_0_1⟩ := g3.c2 (w.heap.size) (.int .i64 (f.fractionBits : Int)) (.int .i64 (f.exponentBits : Int))
  go_wp2_with fail
  refine wp_region_ck [(w.heap.size, 0, .int .i64 (f.fractionBits : Int)), (w.heap.size, 1, .int .i64 (f.exponentBits : Int)), (w3.heap.size, 0, .int .u64 0), (w3.heap.size, 1, .int .u64 L), (w3.heap.size, 2, .bool false)] (by kernel_rfl) (by kernel_rfl) ⟨⟨by first | (simp; done) | (simp; omega) | omega, by go_simp⟩, ⟨by first | (simp; done) | (simp; omega) | omega, by go_simp⟩, ⟨by first | (simp; done) | (simp; omega) | omega, by go_simp⟩, ⟨by first | (simp; done) | (simp; omega) | omega, by go_simp⟩, ⟨by first | (simp; done) | (simp; omega) | omega, by go_simp⟩, trivial⟩ ?_
  repeat (first
    | go_big_quiet_skip
    | (go_big_quiet_want
       go_big_quiet_op
       first
       | go_big_quiet_on
       | (refine ⟨_, fun _ _ => rfl, ?_⟩; go_big_quiet_on)
       | (refine ⟨.agg #[.int .i64 (f.fractionBits : Int), .int .i64 (f.exponentBits : Int)], fun w' hw' => ?_, ?_⟩
          · (obtain ⟨_, ⟨_, hc0⟩, ⟨_, hc1⟩, ⟨_, hc2⟩, ⟨_, hc3⟩, ⟨_, hc4⟩, _⟩ := hw'; go_simp; done)
          go_big_quiet_on)
       | (refine ⟨.int .u64 L, fun w' hw' => ?_, ?_⟩
          · (obtain ⟨_, ⟨_, hc0⟩, ⟨_, hc1⟩, ⟨_, hc2⟩, ⟨_, hc3⟩, ⟨_, hc4⟩, _⟩ := hw'; go_simp; done)
          go_big_quiet_on)
       | (apply Exists.intro
          refine ⟨fun w' hw' => ?_, ?_⟩
          · (first
          | (go_at_call 63; exact hw'.call (NX.out _))
          | (go_at_call 79; exact hw'.call (RD.out _)))
          go_big_quiet_on)))
  refine wpQuiet_nil ?_
  rintro w8 ⟨g8, ⟨b8_0, c8_0⟩, ⟨b8_1, c8_1⟩, ⟨b8_2, c8_2⟩, ⟨b8_3, c8_3⟩, ⟨b8_4, c8_4⟩, _⟩
  have n8_0 : w.heap.size < w8.heap.size := Nat.lt_of_lt_of_le b8_0 g8.2
  have n8_2 : w3.heap.size < w8.heap.size := Nat.lt_of_lt_of_le b8_2 g8.2
  go_wp2
  go_ret
  go_light
  refine ⟨by first | rfl | simp, ?_⟩
  have s1 := g1.2
  have s2 := g2.2
  have s3 := g3.2
  simp at s1 s2 s3
  repeat (first | exact Grew.refl _ | assumption | refine Grew.drew ?_ | refine Grew.drewN ?_ _ | refine Grew.alloc ?_ _ | refine Grew.set ?_ (by first | (simp; done) | (simp; omega) | omega) _ | refine Grew.trans ?_ (by assumption))
set_option maxRecDepth 100000 in
set_option maxHeartbeats 2000000 in
theorem whole_3b {f : Ieee.Format} (a m e x L Lh R : Int) (w : World) (he : (decide (0 ≤ e)) = false) (e0 : -2000 ≤ e) (e1 : e ≤ -1) (x0 : (x == 0) = false) (wl : IntKind.u64.wrap (L + 1) = L + 1)
    (PX : CG 80 #[.agg #[.int .i64 (f.fractionBits : Int), .int .i64 (f.exponentBits : Int)], .int .u64 a] (.tuple #[.int .u64 m, .int .i64 e]))
    (Za : CG 59 #[.agg #[.int .i64 (f.fractionBits : Int), .int .i64 (f.exponentBits : Int)], .int .u64 a] (.int .u64 x))
    (R1 : CG 93 #[.agg #[.int .u64 0, .int .u64 m, .bool false], .int .i64 (-e)] (.agg #[.int .u64 0, .int .u64 L, .bool true]))
    (NX : CG 63 #[.agg #[.int .i64 (f.fractionBits : Int), .int .i64 (f.exponentBits : Int)], .int .u64 a] (.bool true))
    (RD : CG 79 #[.agg #[.int .i64 (f.fractionBits : Int), .int .i64 (f.exponentBits : Int)], .bool true, .agg #[.int .u64 0, .int .u64 (L + 1), .bool false], .int .i64 0] (.int .u64 R)) :
    Calls Tryd.prog 66 #[.agg #[.int .i64 (f.fractionBits : Int), .int .i64 (f.exponentBits : Int)], .int .i64 3, .int .u64 a] w fun en w' => en = .returned (.int .u64 R) ∧ Grew w w' := by
  have w1e : IntKind.i64.wrap (-e) = -e := by rw [IntKind.wrap_i64]; omega
  have w2e : IntKind.i64.wrap (-e - 1) = -e - 1 := by rw [IntKind.wrap_i64]; omega
  go_enter Tryd.func66, Tryd.ntmps66
  go_wp2_with fail
  refine (PX.out _).mono ?_
  rintro en w1 ⟨rfl, g1⟩
  obtain ⟨l1_0, h1_0_0, h1_0_1⟩ := g1.c2 (w.heap.size) (.int .i64 (f.fractionBits : Int)) (.int .i64 (f.exponentBits : Int))
  go_wp2_with fail
  refine (Za.out _).mono ?_
  rintro en w2 ⟨rfl, g2⟩
  obtain ⟨l2_0, h2_0_0, h2_0_1⟩ := g2.c2 (w.heap.size) (.int .i64 (f.fractionBits : Int)) (.int .i64 (f.exponentBits : Int))
  go_wp2_with fail
  refine (R1.out _).mono ?_
  rintro en w3 ⟨rfl, g3⟩
  obtain ⟨l3_0, h3_0_0, h3_0_1⟩ := g3.c2 (w.heap.size) (.int .i64 (f.fractionBits : Int)) (.int .i64 (f.exponentBits : Int))
  go_wp2_with fail
  refine (NX.out _).mono ?_
  rintro en w4 ⟨rfl, g4⟩
  obtain ⟨l4_0, h4_0_0, h4_0_1⟩ := g4.c2 (w.heap.size) (.int .i64 (f.fractionBits : Int)) (.int .i64 (f.exponentBits : Int))
  obtain ⟨l4_1, h4_1_0, h4_1_1, h4_1_2⟩ := g4.c3 (w3.heap.size) (.int .u64 0) (.int .u64 L) (.bool true)
  have fz : w4.frozen? ⟨w3.heap.size, 1, none⟩ = false := (by rw [g4.1.frozen (by first | (simp; done) | (simp; omega) | omega)]; go_simp)
  go_wp2_with fail
  refine wp_region_ck [(w.heap.size, 0, .int .i64 (f.fractionBits : Int)), (w.heap.size, 1, .int .i64 (f.exponentBits : Int)), (w3.heap.size, 0, .int .u64 0), (w3.heap.size, 1, .int .u64 (L + 1)), (w3.heap.size, 2, .bool true)] (by kernel_rfl) (by kernel_rfl) ⟨⟨by first | (simp; done) | (simp; omega) | omega, by go_simp⟩, ⟨by first | (simp; done) | (simp; omega) | omega, by go_simp⟩, ⟨by first | (simp; done) | (simp; omega) | omega, by go_simp⟩, ⟨by first | (simp; done) | (simp; omega) | omega, by go_simp⟩, ⟨by first | (simp; done) | (simp; omega) | omega, by go_simp⟩, trivial⟩ ?_
  repeat (first
    | go_big_quiet_skip
    | (go_big_quiet_want
       go_big_quiet_op
       first
       | go_big_quiet_on
       | (refine ⟨_, fun _ _ => rfl, ?_⟩; go_big_quiet_on)
       | (refine ⟨.agg #[.int .i64 (f.fractionBits : Int), .int .i64 (f.exponentBits : Int)], fun w' hw' => ?_, ?_⟩
          · (obtain ⟨_, ⟨_, hc0⟩, ⟨_, hc1⟩, ⟨_, hc2⟩, ⟨_, hc3⟩, ⟨_, hc4⟩, _⟩ := hw'; go_simp; done)
          go_big_quiet_on)
       | (refine ⟨.int .u64 (L + 1), fun w' hw' => ?_, ?_⟩
          · (obtain ⟨_, ⟨_, hc0⟩, ⟨_, hc1⟩, ⟨_, hc2⟩, ⟨_, hc3⟩, ⟨_, hc4⟩, _⟩ := hw'; go_simp; done)
          go_big_quiet_on)
       | (apply Exists.intro
          refine ⟨fun w' hw' => ?_, ?_⟩
          · (first
          | (go_at_call 63; exact hw'.call (NX.out _))
          | (go_at_call 79; exact hw'.call (RD.out _)))
          go_big_quiet_on)))
  refine wpQuiet_nil ?_
  rintro w8 ⟨g8, ⟨b8_0, c8_0⟩, ⟨b8_1, c8_1⟩, ⟨b8_2, c8_2⟩, ⟨b8_3, c8_3⟩, ⟨b8_4, c8_4⟩, _⟩
  have n8_0 : w.heap.size < w8.heap.size := Nat.lt_of_lt_of_le b8_0 g8.2
  have n8_2 : w3.heap.size < w8.heap.size := Nat.lt_of_lt_of_le b8_2 g8.2
  go_wp2
  go_ret
  go_light
  refine ⟨by first | rfl | simp, ?_⟩
  have s1 := g1.2
  have s2 := g2.2
  have s3 := g3.2
  have s4 := g4.2
  simp at s1 s2 s3 s4
  repeat (first | exact Grew.refl _ | assumption | refine Grew.drew ?_ | refine Grew.drewN ?_ _ | refine Grew.alloc ?_ _ | refine Grew.set ?_ (by first | (simp; done) | (simp; omega) | omega) _ | refine Grew.trans ?_ (by assumption))
set_option maxRecDepth 100000 in
set_option maxHeartbeats 2000000 in
theorem whole_3c {f : Ieee.Format} (a m e x L Lh R : Int) (w : World) (he : (decide (0 ≤ e)) = false) (e0 : -2000 ≤ e) (e1 : e ≤ -1) (x0 : (x == 0) = false)
    (PX : CG 80 #[.agg #[.int .i64 (f.fractionBits : Int), .int .i64 (f.exponentBits : Int)], .int .u64 a] (.tuple #[.int .u64 m, .int .i64 e]))
    (Za : CG 59 #[.agg #[.int .i64 (f.fractionBits : Int), .int .i64 (f.exponentBits : Int)], .int .u64 a] (.int .u64 x))
    (R1 : CG 93 #[.agg #[.int .u64 0, .int .u64 m, .bool false], .int .i64 (-e)] (.agg #[.int .u64 0, .int .u64 L, .bool true]))
    (NX : CG 63 #[.agg #[.int .i64 (f.fractionBits : Int), .int .i64 (f.exponentBits : Int)], .int .u64 a] (.bool false))
    (RD : CG 79 #[.agg #[.int .i64 (f.fractionBits : Int), .int .i64 (f.exponentBits : Int)], .bool false, .agg #[.int .u64 0, .int .u64 L, .bool false], .int .i64 0] (.int .u64 R)) :
    Calls Tryd.prog 66 #[.agg #[.int .i64 (f.fractionBits : Int), .int .i64 (f.exponentBits : Int)], .int .i64 3, .int .u64 a] w fun en w' => en = .returned (.int .u64 R) ∧ Grew w w' := by
  have w1e : IntKind.i64.wrap (-e) = -e := by rw [IntKind.wrap_i64]; omega
  have w2e : IntKind.i64.wrap (-e - 1) = -e - 1 := by rw [IntKind.wrap_i64]; omega
  go_enter Tryd.func66, Tryd.ntmps66
  go_wp2_with fail
  refine (PX.out _).mono ?_
  rintro en w1 ⟨rfl, g1⟩
  obtain ⟨l1_0, h1_0_0, h1_0_1⟩ := g1.c2 (w.heap.size) (.int .i64 (f.fractionBits : Int)) (.int .i64 (f.exponentBits : Int))
  go_wp2_with fail
  refine (Za.out _).mono ?_
  rintro en w2 ⟨rfl, g2⟩
  obtain ⟨l2_0, h2_0_0, h2_0_1⟩ := g2.c2 (w.heap.size) (.int .i64 (f.fractionBits : Int)) (.int .i64 (f.exponentBits : Int))
  go_wp2_with fail
  refine (R1.out _).mono ?_
  rintro en w3 ⟨rfl, g3⟩
  obtain ⟨l3_0, h3_0_0, h3_0_1⟩ := g3.c2 (w.heap.size) (.int .i64 (f.fractionBits : Int)) (.int .i64 (f.exponentBits : Int))
  go_wp2_with fail
  refine (NX.out _).mono ?_
  rintro en w4 ⟨rfl, g4⟩
  obtain ⟨l4_0, h4_0_0, h4_0_1⟩ := g4.c2 (w.heap.size) (.int .i64 (f.fractionBits : Int)) (.int .i64 (f.exponentBits : Int))
  obtain ⟨l4_1, h4_1_0, h4_1_1, h4_1_2⟩ := g4.c3 (w3.heap.size) (.int .u64 0) (.int .u64 L) (.bool true)
  go_wp2_with fail
  refine wp_region_ck [(w.heap.size, 0, .int .i64 (f.fractionBits : Int)), (w.heap.size, 1, .int .i64 (f.exponentBits : Int)), (w3.heap.size, 0, .int .u64 0), (w3.heap.size, 1, .int .u64 L), (w3.heap.size, 2, .bool true)] (by kernel_rfl) (by kernel_rfl) ⟨⟨by first | (simp; done) | (simp; omega) | omega, by go_simp⟩, ⟨by first | (simp; done) | (simp; omega) | omega, by go_simp⟩, ⟨by first | (simp; done) | (simp; omega) | omega, by go_simp⟩, ⟨by first | (simp; done) | (simp; omega) | omega, by go_simp⟩, ⟨by first | (simp; done) | (simp; omega) | omega, by go_simp⟩, trivial⟩ ?_
  repeat (first
    | go_big_quiet_skip
    | (go_big_quiet_want
       go_big_quiet_op
       first
       | go_big_quiet_on
       | (refine ⟨_, fun _ _ => rfl, ?_⟩; go_big_quiet_on)
       | (refine ⟨.agg #[.int .i64 (f.fractionBits : Int), .int .i64 (f.exponentBits : Int)], fun w' hw' => ?_, ?_⟩
          · (obtain ⟨_, ⟨_, hc0⟩, ⟨_, hc1⟩, ⟨_, hc2⟩, ⟨_, hc3⟩, ⟨_, hc4⟩, _⟩ := hw'; go_simp; done)
          go_big_quiet_on)
       | (refine ⟨.int .u64 L, fun w' hw' => ?_, ?_⟩
          · (obtain ⟨_, ⟨_, hc0⟩, ⟨_, hc1⟩, ⟨_, hc2⟩, ⟨_, hc3⟩, ⟨_, hc4⟩, _⟩ := hw'; go_simp; done)
          go_big_quiet_on)
       | (apply Exists.intro
          refine ⟨fun w' hw' => ?_, ?_⟩
          · (first
          | (go_at_call 63; exact hw'.call (NX.out _))
          | (go_at_call 79; exact hw'.call (RD.out _)))
          go_big_quiet_on)))
  refine wpQuiet_nil ?_
  rintro w8 ⟨g8, ⟨b8_0, c8_0⟩, ⟨b8_1, c8_1⟩, ⟨b8_2, c8_2⟩, ⟨b8_3, c8_3⟩, ⟨b8_4, c8_4⟩, _⟩
  have n8_0 : w.heap.size < w8.heap.size := Nat.lt_of_lt_of_le b8_0 g8.2
  have n8_2 : w3.heap.size < w8.heap.size := Nat.lt_of_lt_of_le b8_2 g8.2
  go_wp2
  go_ret
  go_light
  refine ⟨by first | rfl | simp, ?_⟩
  have s1 := g1.2
  have s2 := g2.2
  have s3 := g3.2
  have s4 := g4.2
  simp at s1 s2 s3 s4
  repeat (first | exact Grew.refl _ | assumption | refine Grew.drew ?_ | refine Grew.drewN ?_ _ | refine Grew.alloc ?_ _ | refine Grew.set ?_ (by first | (simp; done) | (simp; omega) | omega) _ | refine Grew.trans ?_ (by assumption))
set_option maxRecDepth 100000 in
set_option maxHeartbeats 2000000 in
theorem whole_5n {f : Ieee.Format} (a m e x L Lh R : Int) (w : World) (mh : Bool) (p : Bool) (mo : Bool) (he : (decide (0 ≤ e)) = false) (e0 : -2000 ≤ e) (e1 : e ≤ -1) (x0 : (x == 0) = false) (hb1 : (bits .and .u64 Lh 1 == 1) = false)
    (PX : CG 80 #[.agg #[.int .i64 (f.fractionBits : Int), .int .i64 (f.exponentBits : Int)], .int .u64 a] (.tuple #[.int .u64 m, .int .i64 e]))
    (Za : CG 59 #[.agg #[.int .i64 (f.fractionBits : Int), .int .i64 (f.exponentBits : Int)], .int .u64 a] (.int .u64 x))
    (R1 : CG 93 #[.agg #[.int .u64 0, .int .u64 m, .bool false], .int .i64 (-e)] (.agg #[.int .u64 0, .int .u64 L, .bool mo]))
    (R2 : CG 93 #[.agg #[.int .u64 0, .int .u64 m, .bool false], .int .i64 (-e - 1)] (.agg #[.int .u64 0, .int .u64 Lh, .bool mh]))
    (NX : CG 63 #[.agg #[.int .i64 (f.fractionBits : Int), .int .i64 (f.exponentBits : Int)], .int .u64 a] (.bool p))
    (RD : CG 79 #[.agg #[.int .i64 (f.fractionBits : Int), .int .i64 (f.exponentBits : Int)], .bool p, .agg #[.int .u64 0, .int .u64 L, .bool false], .int .i64 0] (.int .u64 R)) :
    Calls Tryd.prog 66 #[.agg #[.int .i64 (f.fractionBits : Int), .int .i64 (f.exponentBits : Int)], .int .i64 5, .int .u64 a] w fun en w' => en = .returned (.int .u64 R) ∧ Grew w w' := by
  have w1e : IntKind.i64.wrap (-e) = -e := by rw [IntKind.wrap_i64]; omega
  have w2e : IntKind.i64.wrap (-e - 1) = -e - 1 := by rw [IntKind.wrap_i64]; omega
  go_enter Tryd.func66, Tryd.ntmps66
  go_wp2_with fail
  refine (PX.out _).mono ?_
  rintro en w1 ⟨rfl, g1⟩
  obtain ⟨l1_0, h1_0_0, h1_0_1⟩ := g1.c2 (w.heap.size) (.int .i64 (f.fractionBits : Int)) (.int .i64 (f.exponentBits : Int))
  go_wp2_with fail
  refine (Za.out _).mono ?_
  rintro en w2 ⟨rfl, g2⟩
  obtain ⟨l2_0, h2_0_0, h2_0_1⟩ := g2.c2 (w.heap.size) (.int .i64 (f.fractionBits : Int)) (.int .i64 (f.exponentBits : Int))
  go_wp2_with fail
  refine (R1.out _).mono ?_
  rintro en w3 ⟨rfl, g3⟩
  obtain ⟨l3_0, h3_0_0, h3_0_1⟩ := g3.c2 (w.heap.size) (.int .i64 (f.fractionBits : Int)) (.int .i64 (f.exponentBits : Int))
  go_wp2_with fail
  refine (R2.out _).mono ?_
  rintro en w4 ⟨rfl, g4⟩
  obtain ⟨l4_0, h4_0_0, h4_0_1⟩ := g4.c2 (w.heap.size) (.int .i64 (f.fractionBits : Int)) (.int .i64 (f.exponentBits : Int))
  obtain ⟨l4_1, h4_1_0, h4_1_1, h4_1_2⟩ := g4.c3 (w3.heap.size) (.int .u64 0) (.int .u64 L) (.bool mo)
  go_wp2_with fail
  all_goals (first | (
    refine wp_region_ck [(w.heap.size, 0, .int .i64 (f.fractionBits : Int)), (w.heap.size, 1, .int .i64 (f.exponentBits : Int)), (w3.heap.size, 0, .int .u64 0), (w3.heap.size, 1, .int .u64 L), (w3.heap.size, 2, .bool mo), (w4.heap.size, 0, .int .u64 0), (w4.heap.size, 1, .int .u64 Lh), (w4.heap.size, 2, .bool mh)] (by kernel_rfl) (by kernel_rfl) ⟨⟨by first | (simp; done) | (simp; omega) | omega, by go_simp⟩, ⟨by first | (simp; done) | (simp; omega) | omega, by go_simp⟩, ⟨by first | (simp; done) | (simp; omega) | omega, by go_simp⟩, ⟨by first | (simp; done) | (simp; omega) | omega, by go_simp⟩, ⟨by first | (simp; done) | (simp; omega) | omega, by go_simp⟩, ⟨by first | (simp; done) | (simp; omega) | omega, by go_simp⟩, ⟨by first | (simp; done) | (simp; omega) | omega, by go_simp⟩, ⟨by first | (simp; done) | (simp; omega) | omega, by go_simp⟩, trivial⟩ ?_
    repeat (first
      | go_big_quiet_skip
      | (go_big_quiet_want
         go_big_quiet_op
         first
         | go_big_quiet_on
         | (refine ⟨_, fun _ _ => rfl, ?_⟩; go_big_quiet_on)
         | (refine ⟨.int .u64 Lh, fun w' hw' => ?_, ?_⟩
            · (obtain ⟨_, ⟨_, hc0⟩, ⟨_, hc1⟩, ⟨_, hc2⟩, ⟨_, hc3⟩, ⟨_, hc4⟩, ⟨_, hc5⟩, ⟨_, hc6⟩, ⟨_, hc7⟩, _⟩ := hw'; go_simp; done)
            go_big_quiet_on)
         | (refine ⟨.bool mh, fun w' hw' => ?_, ?_⟩
            · (obtain ⟨_, ⟨_, hc0⟩, ⟨_, hc1⟩, ⟨_, hc2⟩, ⟨_, hc3⟩, ⟨_, hc4⟩, ⟨_, hc5⟩, ⟨_, hc6⟩, ⟨_, hc7⟩, _⟩ := hw'; go_simp; done)
            go_big_quiet_on)
         | (refine ⟨.int .u64 L, fun w' hw' => ?_, ?_⟩
            · (obtain ⟨_, ⟨_, hc0⟩, ⟨_, hc1⟩, ⟨_, hc2⟩, ⟨_, hc3⟩, ⟨_, hc4⟩, ⟨_, hc5⟩, ⟨_, hc6⟩, ⟨_, hc7⟩, _⟩ := hw'; go_simp; done)
            go_big_quiet_on)
         | (apply Exists.intro
            refine ⟨fun w' hw' => ?_, ?_⟩
            · (first
            | fail)
            go_big_quiet_on)))
    refine wpQuiet_nil ?_
    rintro w7 ⟨g7, ⟨b7_0, c7_0⟩, ⟨b7_1, c7_1⟩, ⟨b7_2, c7_2⟩, ⟨b7_3, c7_3⟩, ⟨b7_4, c7_4⟩, ⟨b7_5, c7_5⟩, ⟨b7_6, c7_6⟩, ⟨b7_7, c7_7⟩, _⟩
    have n7_0 : w.heap.size < w7.heap.size := Nat.lt_of_lt_of_le b7_0 g7.2
    have n7_2 : w3.heap.size < w7.heap.size := Nat.lt_of_lt_of_le b7_2 g7.2
    have n7_5 : w4.heap.size < w7.heap.size := Nat.lt_of_lt_of_le b7_5 g7.2
    go_wp2_with fail) | skip)
  refine wp_region_ck [(w.heap.size, 0, .int .i64 (f.fractionBits : Int)), (w.heap.size, 1, .int .i64 (f.exponentBits : Int)), (w3.heap.size, 0, .int .u64 0), (w3.heap.size, 1, .int .u64 L), (w3.heap.size, 2, .bool mo)] (by kernel_rfl) (by kernel_rfl) ⟨⟨by first | (simp; done) | (simp; omega) | omega, by go_simp⟩, ⟨by first | (simp; done) | (simp; omega) | omega, by go_simp⟩, ⟨by first | (simp; done) | (simp; omega) | omega, by go_simp⟩, ⟨by first | (simp; done) | (simp; omega) | omega, by go_simp⟩, ⟨by first | (simp; done) | (simp; omega) | omega, by go_simp⟩, trivial⟩ ?_
  repeat (first
    | go_big_quiet_skip
    | (go_big_quiet_want
       go_big_quiet_op
       first
       | go_big_quiet_on
       | (refine ⟨_, fun _ _ => rfl, ?_⟩; go_big_quiet_on)
       | (refine ⟨.agg #[.int .i64 (f.fractionBits : Int), .int .i64 (f.exponentBits : Int)], fun w' hw' => ?_, ?_⟩
          · (obtain ⟨_, ⟨_, hc0⟩, ⟨_, hc1⟩, ⟨_, hc2⟩, ⟨_, hc3⟩, ⟨_, hc4⟩, _⟩ := hw'; go_simp; done)
          go_big_quiet_on)
       | (refine ⟨.int .u64 L, fun w' hw' => ?_, ?_⟩
          · (obtain ⟨_, ⟨_, hc0⟩, ⟨_, hc1⟩, ⟨_, hc2⟩, ⟨_, hc3⟩, ⟨_, hc4⟩, _⟩ := hw'; go_simp; done)
          go_big_quiet_on)
       | (apply Exists.intro
          refine ⟨fun w' hw' => ?_, ?_⟩
          · (first
          | (go_at_call 63; exact hw'.call (NX.out _))
          | (go_at_call 79; exact hw'.call (RD.out _)))
          go_big_quiet_on)))
  refine wpQuiet_nil ?_
  rintro w8 ⟨g8, ⟨b8_0, c8_0⟩, ⟨b8_1, c8_1⟩, ⟨b8_2, c8_2⟩, ⟨b8_3, c8_3⟩, ⟨b8_4, c8_4⟩, _⟩
  have n8_0 : w.heap.size < w8.heap.size := Nat.lt_of_lt_of_le b8_0 g8.2
  have n8_2 : w3.heap.size < w8.heap.size := Nat.lt_of_lt_of_le b8_2 g8.2
  go_wp2
  go_ret
  go_light
  refine ⟨by first | rfl | simp, ?_⟩
  have s1 := g1.2
  have s2 := g2.2
  have s3 := g3.2
  have s4 := g4.2
  simp at s1 s2 s3 s4
  repeat (first | exact Grew.refl _ | assumption | refine Grew.drew ?_ | refine Grew.drewN ?_ _ | refine Grew.alloc ?_ _ | refine Grew.set ?_ (by first | (simp; done) | (simp; omega) | omega) _ | refine Grew.trans ?_ (by assumption))
set_option maxRecDepth 100000 in
set_option maxHeartbeats 2000000 in
theorem whole_5u {f : Ieee.Format} (a m e x L Lh R : Int) (w : World) (p : Bool) (mo : Bool) (he : (decide (0 ≤ e)) = false) (e0 : -2000 ≤ e) (e1 : e ≤ -1) (x0 : (x == 0) = false) (wl : IntKind.u64.wrap (L + 1) = L + 1) (hb1 : (bits .and .u64 Lh 1 == 1) = true)
    (PX : CG 80 #[.agg #[.int .i64 (f.fractionBits : Int), .int .i64 (f.exponentBits : Int)], .int .u64 a] (.tuple #[.int .u64 m, .int .i64 e]))
    (Za : CG 59 #[.agg #[.int .i64 (f.fractionBits : Int), .int .i64 (f.exponentBits : Int)], .int .u64 a] (.int .u64 x))
    (R1 : CG 93 #[.agg #[.int .u64 0, .int .u64 m, .bool false], .int .i64 (-e)] (.agg #[.int .u64 0, .int .u64 L, .bool mo]))
    (R2 : CG 93 #[.agg #[.int .u64 0, .int .u64 m, .bool false], .int .i64 (-e - 1)] (.agg #[.int .u64 0, .int .u64 Lh, .bool true]))
    (NX : CG 63 #[.agg #[.int .i64 (f.fractionBits : Int), .int .i64 (f.exponentBits : Int)], .int .u64 a] (.bool p))
    (RD : CG 79 #[.agg #[.int .i64 (f.fractionBits : Int), .int .i64 (f.exponentBits : Int)], .bool p, .agg #[.int .u64 0, .int .u64 (L + 1), .bool false], .int .i64 0] (.int .u64 R)) :
    Calls Tryd.prog 66 #[.agg #[.int .i64 (f.fractionBits : Int), .int .i64 (f.exponentBits : Int)], .int .i64 5, .int .u64 a] w fun en w' => en = .returned (.int .u64 R) ∧ Grew w w' := by
  have w1e : IntKind.i64.wrap (-e) = -e := by rw [IntKind.wrap_i64]; omega
  have w2e : IntKind.i64.wrap (-e - 1) = -e - 1 := by rw [IntKind.wrap_i64]; omega
  go_enter Tryd.func66, Tryd.ntmps66
  go_wp2_with fail
  refine (PX.out _).mono ?_
  rintro en w1 ⟨rfl, g1⟩
  obtain ⟨l1_0, h1_0_0, h1_0_1⟩ := g1.c2 (w.heap.size) (.int .i64 (f.fractionBits : Int)) (.int .i64 (f.exponentBits : Int))
  go_wp2_with fail
  refine (Za.out _).mono ?_
  rintro en w2 ⟨rfl, g2⟩
  obtain ⟨l2_0, h2_0_0, h2_0_1⟩ := g2.c2 (w.heap.size) (.int .i64 (f.fractionBits : Int)) (.int .i64 (f.exponentBits : Int))
  go_wp2_with fail
  refine (R1.out _).mono ?_
  rintro en w3 ⟨rfl, g3⟩
  obtain ⟨l3_0, h3_0_0, h3_0_1⟩ := g3.c2 (w.heap.size) (.int .i64 (f.fractionBits : Int)) (.int .i64 (f.exponentBits : Int))
  go_wp2_with fail
  refine (R2.out _).mono ?_
  rintro en w4 ⟨rfl, g4⟩
  obtain ⟨l4_0, h4_0_0, h4_0_1⟩ := g4.c2 (w.heap.size) (.int .i64 (f.fractionBits : Int)) (.int .i64 (f.exponentBits : Int))
  obtain ⟨l4_1, h4_1_0, h4_1_1, h4_1_2⟩ := g4.c3 (w3.heap.size) (.int .u64 0) (.int .u64 L) (.bool mo)
  have fz : w4.frozen? ⟨w3.heap.size, 1, none⟩ = false := (by rw [g4.1.frozen (by first | (simp; done) | (simp; omega) | omega)]; go_simp)
  go_wp2_with fail
  all_goals (first | (
    refine wp_region_ck [(w.heap.size, 0, .int .i64 (f.fractionBits : Int)), (w.heap.size, 1, .int .i64 (f.exponentBits : Int)), (w3.heap.size, 0, .int .u64 0), (w3.heap.size, 1, .int .u64 L), (w3.heap.size, 2, .bool mo), (w4.heap.size, 0, .int .u64 0), (w4.heap.size, 1, .int .u64 Lh), (w4.heap.size, 2, .bool true)] (by kernel_rfl) (by kernel_rfl) ⟨⟨by first | (simp; done) | (simp; omega) | omega, by go_simp⟩, ⟨by first | (simp; done) | (simp; omega) | omega, by go_simp⟩, ⟨by first | (simp; done) | (simp; omega) | omega, by go_simp⟩, ⟨by first | (simp; done) | (simp; omega) | omega, by go_simp⟩, ⟨by first | (simp; done) | (simp; omega) | omega, by go_simp⟩, ⟨by first | (simp; done) | (simp; omega) | omega, by go_simp⟩, ⟨by first | (simp; done) | (simp; omega) | omega, by go_simp⟩, ⟨by first | (simp; done) | (simp; omega) | omega, by go_simp⟩, trivial⟩ ?_
    repeat (first
      | go_big_quiet_skip
      | (go_big_quiet_want
         go_big_quiet_op
         first
         | go_big_quiet_on
         | (refine ⟨_, fun _ _ => rfl, ?_⟩; go_big_quiet_on)
         | (refine ⟨.int .u64 Lh, fun w' hw' => ?_, ?_⟩
            · (obtain ⟨_, ⟨_, hc0⟩, ⟨_, hc1⟩, ⟨_, hc2⟩, ⟨_, hc3⟩, ⟨_, hc4⟩, ⟨_, hc5⟩, ⟨_, hc6⟩, ⟨_, hc7⟩, _⟩ := hw'; go_simp; done)
            go_big_quiet_on)
         | (refine ⟨.bool true, fun w' hw' => ?_, ?_⟩
            · (obtain ⟨_, ⟨_, hc0⟩, ⟨_, hc1⟩, ⟨_, hc2⟩, ⟨_, hc3⟩, ⟨_, hc4⟩, ⟨_, hc5⟩, ⟨_, hc6⟩, ⟨_, hc7⟩, _⟩ := hw'; go_simp; done)
            go_big_quiet_on)
         | (refine ⟨.int .u64 L, fun w' hw' => ?_, ?_⟩
            · (obtain ⟨_, ⟨_, hc0⟩, ⟨_, hc1⟩, ⟨_, hc2⟩, ⟨_, hc3⟩, ⟨_, hc4⟩, ⟨_, hc5⟩, ⟨_, hc6⟩, ⟨_, hc7⟩, _⟩ := hw'; go_simp; done)
            go_big_quiet_on)
         | (apply Exists.intro
            refine ⟨fun w' hw' => ?_, ?_⟩
            · (first
            | fail)
            go_big_quiet_on)))
    refine wpQuiet_nil ?_
    rintro w7 ⟨g7, ⟨b7_0, c7_0⟩, ⟨b7_1, c7_1⟩, ⟨b7_2, c7_2⟩, ⟨b7_3, c7_3⟩, ⟨b7_4, c7_4⟩, ⟨b7_5, c7_5⟩, ⟨b7_6, c7_6⟩, ⟨b7_7, c7_7⟩, _⟩
    have n7_0 : w.heap.size < w7.heap.size := Nat.lt_of_lt_of_le b7_0 g7.2
    have n7_2 : w3.heap.size < w7.heap.size := Nat.lt_of_lt_of_le b7_2 g7.2
    have n7_5 : w4.heap.size < w7.heap.size := Nat.lt_of_lt_of_le b7_5 g7.2
    go_wp2_with fail) | skip)
  refine wp_region_ck [(w.heap.size, 0, .int .i64 (f.fractionBits : Int)), (w.heap.size, 1, .int .i64 (f.exponentBits : Int)), (w3.heap.size, 0, .int .u64 0), (w3.heap.size, 1, .int .u64 (L + 1)), (w3.heap.size, 2, .bool mo)] (by kernel_rfl) (by kernel_rfl) ⟨⟨by first | (simp; done) | (simp; omega) | omega, by go_simp⟩, ⟨by first | (simp; done) | (simp; omega) | omega, by go_simp⟩, ⟨by first | (simp; done) | (simp; omega) | omega, by go_simp⟩, ⟨by first | (simp; done) | (simp; omega) | omega, by go_simp⟩, ⟨by first | (simp; done) | (simp; omega) | omega, by go_simp⟩, trivial⟩ ?_
  repeat (first
    | go_big_quiet_skip
    | (go_big_quiet_want
       go_big_quiet_op
       first
       | go_big_quiet_on
       | (refine ⟨_, fun _ _ => rfl, ?_⟩; go_big_quiet_on)
       | (refine ⟨.agg #[.int .i64 (f.fractionBits : Int), .int .i64 (f.exponentBits : Int)], fun w' hw' => ?_, ?_⟩
          · (obtain ⟨_, ⟨_, hc0⟩, ⟨_, hc1⟩, ⟨_, hc2⟩, ⟨_, hc3⟩, ⟨_, hc4⟩, _⟩ := hw'; go_simp; done)
          go_big_quiet_on)
       | (refine ⟨.int .u64 (L + 1), fun w' hw' => ?_, ?_⟩
          · (obtain ⟨_, ⟨_, hc0⟩, ⟨_, hc1⟩, ⟨_, hc2⟩, ⟨_, hc3⟩, ⟨_, hc4⟩, _⟩ := hw'; go_simp; done)
          go_big_quiet_on)
       | (apply Exists.intro
          refine ⟨fun w' hw' => ?_, ?_⟩
          · (first
          | (go_at_call 63; exact hw'.call (NX.out _))
          | (go_at_call 79; exact hw'.call (RD.out _)))
          go_big_quiet_on)))
  refine wpQuiet_nil ?_
  rintro w8 ⟨g8, ⟨b8_0, c8_0⟩, ⟨b8_1, c8_1⟩, ⟨b8_2, c8_2⟩, ⟨b8_3, c8_3⟩, ⟨b8_4, c8_4⟩, _⟩
  have n8_0 : w.heap.size < w8.heap.size := Nat.lt_of_lt_of_le b8_0 g8.2
  have n8_2 : w3.heap.size < w8.heap.size := Nat.lt_of_lt_of_le b8_2 g8.2
  go_wp2
  go_ret
  go_light
  refine ⟨by first | rfl | simp, ?_⟩
  have s1 := g1.2
  have s2 := g2.2
  have s3 := g3.2
  have s4 := g4.2
  simp at s1 s2 s3 s4
  repeat (first | exact Grew.refl _ | assumption | refine Grew.drew ?_ | refine Grew.drewN ?_ _ | refine Grew.alloc ?_ _ | refine Grew.set ?_ (by first | (simp; done) | (simp; omega) | omega) _ | refine Grew.trans ?_ (by assumption))
set_option maxRecDepth 100000 in
set_option maxHeartbeats 2000000 in
theorem whole_5v {f : Ieee.Format} (a m e x L Lh R : Int) (w : World) (p : Bool) (mo : Bool) (he : (decide (0 ≤ e)) = false) (e0 : -2000 ≤ e) (e1 : e ≤ -1) (x0 : (x == 0) = false) (wl : IntKind.u64.wrap (L + 1) = L + 1) (hb1 : (bits .and .u64 Lh 1 == 1) = true) (hb3 : (bits .and .u64 L 1 == 1) = true)
    (PX : CG 80 #[.agg #[.int .i64 (f.fractionBits : Int), .int .i64 (f.exponentBits : Int)], .int .u64 a] (.tuple #[.int .u64 m, .int .i64 e]))
    (Za : CG 59 #[.agg #[.int .i64 (f.fractionBits : Int), .int .i64 (f.exponentBits : Int)], .int .u64 a] (.int .u64 x))
    (R1 : CG 93 #[.agg #[.int .u64 0, .int .u64 m, .bool false], .int .i64 (-e)] (.agg #[.int .u64 0, .int .u64 L, .bool mo]))
    (R2 : CG 93 #[.agg #[.int .u64 0, .int .u64 m, .bool false], .int .i64 (-e - 1)] (.agg #[.int .u64 0, .int .u64 Lh, .bool false]))
    (NX : CG 63 #[.agg #[.int .i64 (f.fractionBits : Int), .int .i64 (f.exponentBits : Int)], .int .u64 a] (.bool p))
    (RD : CG 79 #[.agg #[.int .i64 (f.fractionBits : Int), .int .i64 (f.exponentBits : Int)], .bool p, .agg #[.int .u64 0, .int .u64 (L + 1), .bool false], .int .i64 0] (.int .u64 R)) :
    Calls Tryd.prog 66 #[.agg #[.int .i64 (f.fractionBits : Int), .int .i64 (f.exponentBits : Int)], .int .i64 5, .int .u64 a] w fun en w' => en = .returned (.int .u64 R) ∧ Grew w w' := by
  have w1e : IntKind.i64.wrap (-e) = -e := by rw [IntKind.wrap_i64]; omega
  have w2e : IntKind.i64.wrap (-e - 1) = -e - 1 := by rw [IntKind.wrap_i64]; omega
  go_enter Tryd.func66, Tryd.ntmps66
  go_wp2_with fail
  refine (PX.out _).mono ?_
  rintro en w1 ⟨rfl, g1⟩
  obtain ⟨l1_0, h1_0_0, h1_0_1⟩ := g1.c2 (w.heap.size) (.int .i64 (f.fractionBits : Int)) (.int .i64 (f.exponentBits : Int))
  go_wp2_with fail
  refine (Za.out _).mono ?_
  rintro en w2 ⟨rfl, g2⟩
  obtain ⟨l2_0, h2_0_0, h2_0_1⟩ := g2.c2 (w.heap.size) (.int .i64 (f.fractionBits : Int)) (.int .i64 (f.exponentBits : Int))
  go_wp2_with fail
  refine (R1.out _).mono ?_
  rintro en w3 ⟨rfl, g3⟩
  obtain ⟨l3_0, h3_0_0, h3_0_1⟩ := g3.c2 (w.heap.size) (.int .i64 (f.fractionBits : Int)) (.int .i64 (f.exponentBits : Int))
  go_wp2_with fail
  refine (R2.out _).mono ?_
  rintro en w4 ⟨rfl, g4⟩
  obtain ⟨l4_0, h4_0_0, h4_0_1⟩ := g4.c2 (w.heap.size) (.int .i64 (f.fractionBits : Int)) (.int .i64 (f.exponentBits : Int))
  obtain ⟨l4_1, h4_1_0, h4_1_1, h4_1_2⟩ := g4.c3 (w3.heap.size) (.int .u64 0) (.int .u64 L) (.bool mo)
  have fz : w4.frozen? ⟨w3.heap.size, 1, none⟩ = false := (by rw [g4.1.frozen (by first | (simp; done) | (simp; omega) | omega)]; go_simp)
  go_wp2_with fail
  all_goals (first | (
    refine wp_region_ck [(w.heap.size, 0, .int .i64 (f.fractionBits : Int)), (w.heap.size, 1, .int .i64 (f.exponentBits : Int)), (w3.heap.size, 0, .int .u64 0), (w3.heap.size, 1, .int .u64 L), (w3.heap.size, 2, .bool mo), (w4.heap.size, 0, .int .u64 0), (w4.heap.size, 1, .int .u64 Lh), (w4.heap.size, 2, .bool false)] (by kernel_rfl) (by kernel_rfl) ⟨⟨by first | (simp; done) | (simp; omega) | omega, by go_simp⟩, ⟨by first | (simp; done) | (simp; omega) | omega, by go_simp⟩, ⟨by first | (simp; done) | (simp; omega) | omega, by go_simp⟩, ⟨by first | (simp; done) | (simp; omega) | omega, by go_simp⟩, ⟨by first | (simp; done) | (simp; omega) | omega, by go_simp⟩, ⟨by first | (simp; done) | (simp; omega) | omega, by go_simp⟩, ⟨by first | (simp; done) | (simp; omega) | omega, by go_simp⟩, ⟨by first | (simp; done) | (simp; omega) | omega, by go_simp⟩, trivial⟩ ?_
    repeat (first
      | go_big_quiet_skip
      | (go_big_quiet_want
         go_big_quiet_op
         first
         | go_big_quiet_on
         | (refine ⟨_, fun _ _ => rfl, ?_⟩; go_big_quiet_on)
         | (refine ⟨.int .u64 Lh, fun w' hw' => ?_, ?_⟩
            · (obtain ⟨_, ⟨_, hc0⟩, ⟨_, hc1⟩, ⟨_, hc2⟩, ⟨_, hc3⟩, ⟨_, hc4⟩, ⟨_, hc5⟩, ⟨_, hc6⟩, ⟨_, hc7⟩, _⟩ := hw'; go_simp; done)
            go_big_quiet_on)
         | (refine ⟨.bool false, fun w' hw' => ?_, ?_⟩
            · (obtain ⟨_, ⟨_, hc0⟩, ⟨_, hc1⟩, ⟨_, hc2⟩, ⟨_, hc3⟩, ⟨_, hc4⟩, ⟨_, hc5⟩, ⟨_, hc6⟩, ⟨_, hc7⟩, _⟩ := hw'; go_simp; done)
            go_big_quiet_on)
         | (refine ⟨.int .u64 L, fun w' hw' => ?_, ?_⟩
            · (obtain ⟨_, ⟨_, hc0⟩, ⟨_, hc1⟩, ⟨_, hc2⟩, ⟨_, hc3⟩, ⟨_, hc4⟩, ⟨_, hc5⟩, ⟨_, hc6⟩, ⟨_, hc7⟩, _⟩ := hw'; go_simp; done)
            go_big_quiet_on)
         | (apply Exists.intro
            refine ⟨fun w' hw' => ?_, ?_⟩
            · (first
            | fail)
            go_big_quiet_on)))
    refine wpQuiet_nil ?_
    rintro w7 ⟨g7, ⟨b7_0, c7_0⟩, ⟨b7_1, c7_1⟩, ⟨b7_2, c7_2⟩, ⟨b7_3, c7_3⟩, ⟨b7_4, c7_4⟩, ⟨b7_5, c7_5⟩, ⟨b7_6, c7_6⟩, ⟨b7_7, c7_7⟩, _⟩
    have n7_0 : w.heap.size < w7.heap.size := Nat.lt_of_lt_of_le b7_0 g7.2
    have n7_2 : w3.heap.size < w7.heap.size := Nat.lt_of_lt_of_le b7_2 g7.2
    have n7_5 : w4.heap.size < w7.heap.size := Nat.lt_of_lt_of_le b7_5 g7.2
    go_wp2_with fail) | skip)
  refine wp_region_ck [(w.heap.size, 0, .int .i64 (f.fractionBits : Int)), (w.heap.size, 1, .int .i64 (f.exponentBits : Int)), (w3.heap.size, 0, .int .u64 0), (w3.heap.size, 1, .int .u64 (L + 1)), (w3.heap.size, 2, .bool mo)] (by kernel_rfl) (by kernel_rfl) ⟨⟨by first | (simp; done) | (simp; omega) | omega, by go_simp⟩, ⟨by first | (simp; done) | (simp; omega) | omega, by go_simp⟩, ⟨by first | (simp; done) | (simp; omega) | omega, by go_simp⟩, ⟨by first | (simp; done) | (simp; omega) | omega, by go_simp⟩, ⟨by first | (simp; done) | (simp; omega) | omega, by go_simp⟩, trivial⟩ ?_
  repeat (first
    | go_big_quiet_skip
    | (go_big_quiet_want
       go_big_quiet_op
       first
       | go_big_quiet_on
       | (refine ⟨_, fun _ _ => rfl, ?_⟩; go_big_quiet_on)
       | (refine ⟨.agg #[.int .i64 (f.fractionBits : Int), .int .i64 (f.exponentBits : Int)], fun w' hw' => ?_, ?_⟩
          · (obtain ⟨_, ⟨_, hc0⟩, ⟨_, hc1⟩, ⟨_, hc2⟩, ⟨_, hc3⟩, ⟨_, hc4⟩, _⟩ := hw'; go_simp; done)
          go_big_quiet_on)
       | (refine ⟨.int .u64 (L + 1), fun w' hw' => ?_, ?_⟩
          · (obtain ⟨_, ⟨_, hc0⟩, ⟨_, hc1⟩, ⟨_, hc2⟩, ⟨_, hc3⟩, ⟨_, hc4⟩, _⟩ := hw'; go_simp; done)
          go_big_quiet_on)
       | (apply Exists.intro
          refine ⟨fun w' hw' => ?_, ?_⟩
          · (first
          | (go_at_call 63; exact hw'.call (NX.out _))
          | (go_at_call 79; exact hw'.call (RD.out _)))
          go_big_quiet_on)))
  refine wpQuiet_nil ?_
  rintro w8 ⟨g8, ⟨b8_0, c8_0⟩, ⟨b8_1, c8_1⟩, ⟨b8_2, c8_2⟩, ⟨b8_3, c8_3⟩, ⟨b8_4, c8_4⟩, _⟩
  have n8_0 : w.heap.size < w8.heap.size := Nat.lt_of_lt_of_le b8_0 g8.2
  have n8_2 : w3.heap.size < w8.heap.size := Nat.lt_of_lt_of_le b8_2 g8.2
  go_wp2
  go_ret
  go_light
  refine ⟨by first | rfl | simp, ?_⟩
  have s1 := g1.2
  have s2 := g2.2
  have s3 := g3.2
  have s4 := g4.2
  simp at s1 s2 s3 s4
  repeat (first | exact Grew.refl _ | assumption | refine Grew.drew ?_ | refine Grew.drewN ?_ _ | refine Grew.alloc ?_ _ | refine Grew.set ?_ (by first | (simp; done) | (simp; omega) | omega) _ | refine Grew.trans ?_ (by assumption))
set_option maxRecDepth 100000 in
set_option maxHeartbeats 2000000 in
theorem whole_5m {f : Ieee.Format} (a m e x L Lh R : Int) (w : World) (p : Bool) (mo : Bool) (he : (decide (0 ≤ e)) = false) (e0 : -2000 ≤ e) (e1 : e ≤ -1) (x0 : (x == 0) = false) (hb1 : (bits .and .u64 Lh 1 == 1) = true) (hb3 : (bits .and .u64 L 1 == 1) = false)
    (PX : CG 80 #[.agg #[.int .i64 (f.fractionBits : Int), .int .i64 (f.exponentBits : Int)], .int .u64 a] (.tuple #[.int .u64 m, .int .i64 e]))
    (Za : CG 59 #[.agg #[.int .i64 (f.fractionBits : Int), .int .i64 (f.exponentBits : Int)], .int .u64 a] (.int .u64 x))
    (R1 : CG 93 #[.agg #[.int .u64 0, .int .u64 m, .bool false], .int .i64 (-e)] (.agg #[.int .u64 0, .int .u64 L, .bool mo]))
    (R2 : CG 93 #[.agg #[.int .u64 0, .int .u64 m, .bool false], .int .i64 (-e - 1)] (.agg #[.int .u64 0, .int .u64 Lh, .bool false]))
    (NX : CG 63 #[.agg #[.int .i64 (f.fractionBits : Int), .int .i64 (f.exponentBits : Int)], .int .u64 a] (.bool p))
    (RD : CG 79 #[.agg #[.int .i64 (f.fractionBits : Int), .int .i64 (f.exponentBits : Int)], .bool p, .agg #[.int .u64 0, .int .u64 L, .bool false], .int .i64 0] (.int .u64 R)) :
    Calls Tryd.prog 66 #[.agg #[.int .i64 (f.fractionBits : Int), .int .i64 (f.exponentBits : Int)], .int .i64 5, .int .u64 a] w fun en w' => en = .returned (.int .u64 R) ∧ Grew w w' := by
  have w1e : IntKind.i64.wrap (-e) = -e := by rw [IntKind.wrap_i64]; omega
  have w2e : IntKind.i64.wrap (-e - 1) = -e - 1 := by rw [IntKind.wrap_i64]; omega
  go_enter Tryd.func66, Tryd.ntmps66
  go_wp2_with fail
  refine (PX.out _).mono ?_
  rintro en w1 ⟨rfl, g1⟩
  obtain ⟨l1_0, h1_0_0, h1_0_1⟩ := g1.c2 (w.heap.size) (.int .i64 (f.fractionBits : Int)) (.int .i64 (f.exponentBits : Int))
  go_wp2_with fail
  refine (Za.out _).mono ?_
  rintro en w2 ⟨rfl, g2⟩
  obtain ⟨l2_0, h2_0_0, h2_0_1⟩ := g2.c2 (w.heap.size) (.int .i64 (f.fractionBits : Int)) (.int .i64 (f.exponentBits : Int))
  go_wp2_with fail
  refine (R1.out _).mono ?_
  rintro en w3 ⟨rfl, g3⟩
  obtain ⟨l3_0, h3_0_0, h3_0_1⟩ := g3.c2 (w.heap.size) (.int .i64 (f.fractionBits : Int)) (.int .i64 (f.exponentBits : Int))
  go_wp2_with fail
  refine (R2.out _).mono ?_
  rintro en w4 ⟨rfl, g4⟩
  obtain ⟨l4_0, h4_0_0, h4_0_1⟩ := g4.c2 (w.heap.size) (.int .i64 (f.fractionBits : Int)) (.int .i64 (f.exponentBits : Int))
  obtain ⟨l4_1, h4_1_0, h4_1_1, h4_1_2⟩ := g4.c3 (w3.heap.size) (.int .u64 0) (.int .u64 L) (.bool mo)
  go_wp2_with fail
  all_goals (first | (
    refine wp_region_ck [(w.heap.size, 0, .int .i64 (f.fractionBits : Int)), (w.heap.size, 1, .int .i64 (f.exponentBits : Int)), (w3.heap.size, 0, .int .u64 0), (w3.heap.size, 1, .int .u64 L), (w3.heap.size, 2, .bool mo), (w4.heap.size, 0, .int .u64 0), (w4.heap.size, 1, .int .u64 Lh), (w4.heap.size, 2, .bool false)] (by kernel_rfl) (by kernel_rfl) ⟨⟨by first | (simp; done) | (simp; omega) | omega, by go_simp⟩, ⟨by first | (simp; done) | (simp; omega) | omega, by go_simp⟩, ⟨by first | (simp; done) | (simp; omega) | omega, by go_simp⟩, ⟨by first | (simp; done) | (simp; omega) | omega, by go_simp⟩, ⟨by first | (simp; done) | (simp; omega) | omega, by go_simp⟩, ⟨by first | (simp; done) | (simp; omega) | omega, by go_simp⟩, ⟨by first | (simp; done) | (simp; omega) | omega, by go_simp⟩, ⟨by first | (simp; done) | (simp; omega) | omega, by go_simp⟩, trivial⟩ ?_
    repeat (first
      | go_big_quiet_skip
      | (go_big_quiet_want
         go_big_quiet_op
         first
         | go_big_quiet_on
         | (refine ⟨_, fun _ _ => rfl, ?_⟩; go_big_quiet_on)
         | (refine ⟨.int .u64 Lh, fun w' hw' => ?_, ?_⟩
            · (obtain ⟨_, ⟨_, hc0⟩, ⟨_, hc1⟩, ⟨_, hc2⟩, ⟨_, hc3⟩, ⟨_, hc4⟩, ⟨_, hc5⟩, ⟨_, hc6⟩, ⟨_, hc7⟩, _⟩ := hw'; go_simp; done)
            go_big_quiet_on)
         | (refine ⟨.bool false, fun w' hw' => ?_, ?_⟩
            · (obtain ⟨_, ⟨_, hc0⟩, ⟨_, hc1⟩, ⟨_, hc2⟩, ⟨_, hc3⟩, ⟨_, hc4⟩, ⟨_, hc5⟩, ⟨_, hc6⟩, ⟨_, hc7⟩, _⟩ := hw'; go_simp; done)
            go_big_quiet_on)
         | (refine ⟨.int .u64 L, fun w' hw' => ?_, ?_⟩
            · (obtain ⟨_, ⟨_, hc0⟩, ⟨_, hc1⟩, ⟨_, hc2⟩, ⟨_, hc3⟩, ⟨_, hc4⟩, ⟨_, hc5⟩, ⟨_, hc6⟩, ⟨_, hc7⟩, _⟩ := hw'; go_simp; done)
            go_big_quiet_on)
         | (apply Exists.intro
            refine ⟨fun w' hw' => ?_, ?_⟩
            · (first
            | fail)
            go_big_quiet_on)))
    refine wpQuiet_nil ?_
    rintro w7 ⟨g7, ⟨b7_0, c7_0⟩, ⟨b7_1, c7_1⟩, ⟨b7_2, c7_2⟩, ⟨b7_3, c7_3⟩, ⟨b7_4, c7_4⟩, ⟨b7_5, c7_5⟩, ⟨b7_6, c7_6⟩, ⟨b7_7, c7_7⟩, _⟩
    have n7_0 : w.heap.size < w7.heap.size := Nat.lt_of_lt_of_le b7_0 g7.2
    have n7_2 : w3.heap.size < w7.heap.size := Nat.lt_of_lt_of_le b7_2 g7.2
    have n7_5 : w4.heap.size < w7.heap.size := Nat.lt_of_lt_of_le b7_5 g7.2
    go_wp2_with fail) | skip)
  refine wp_region_ck [(w.heap.size, 0, .int .i64 (f.fractionBits : Int)), (w.heap.size, 1, .int .i64 (f.exponentBits : Int)), (w3.heap.size, 0, .int .u64 0), (w3.heap.size, 1, .int .u64 L), (w3.heap.size, 2, .bool mo)] (by kernel_rfl) (by kernel_rfl) ⟨⟨by first | (simp; done) | (simp; omega) | omega, by go_simp⟩, ⟨by first | (simp; done) | (simp; omega) | omega, by go_simp⟩, ⟨by first | (simp; done) | (simp; omega) | omega, by go_simp⟩, ⟨by first | (simp; done) | (simp; omega) | omega, by go_simp⟩, ⟨by first | (simp; done) | (simp; omega) | omega, by go_simp⟩, trivial⟩ ?_
  repeat (first
    | go_big_quiet_skip
    | (go_big_quiet_want
       go_big_quiet_op
       first
       | go_big_quiet_on
       | (refine ⟨_, fun _ _ => rfl, ?_⟩; go_big_quiet_on)
       | (refine ⟨.agg #[.int .i64 (f.fractionBits : Int), .int .i64 (f.exponentBits : Int)], fun w' hw' => ?_, ?_⟩
          · (obtain ⟨_, ⟨_, hc0⟩, ⟨_, hc1⟩, ⟨_, hc2⟩, ⟨_, hc3⟩, ⟨_, hc4⟩, _⟩ := hw'; go_simp; done)
          go_big_quiet_on)
       | (refine ⟨.int .u64 L, fun w' hw' => ?_, ?_⟩
          · (obtain ⟨_, ⟨_, hc0⟩, ⟨_, hc1⟩, ⟨_, hc2⟩, ⟨_, hc3⟩, ⟨_, hc4⟩, _⟩ := hw'; go_simp; done)
          go_big_quiet_on)
       | (apply Exists.intro
          refine ⟨fun w' hw' => ?_, ?_⟩
          · (first
          | (go_at_call 63; exact hw'.call (NX.out _))
          | (go_at_call 79; exact hw'.call (RD.out _)))
          go_big_quiet_on)))
  refine wpQuiet_nil ?_
  rintro w8 ⟨g8, ⟨b8_0, c8_0⟩, ⟨b8_1, c8_1⟩, ⟨b8_2, c8_2⟩, ⟨b8_3, c8_3⟩, ⟨b8_4, c8_4⟩, _⟩
  have n8_0 : w.heap.size < w8.heap.size := Nat.lt_of_lt_of_le b8_0 g8.2
  have n8_2 : w3.heap.size < w8.heap.size := Nat.lt_of_lt_of_le b8_2 g8.2
  go_wp2
  go_ret
  go_light
  refine ⟨by first | rfl | simp, ?_⟩
  have s1 := g1.2
  have s2 := g2.2
  have s3 := g3.2
  have s4 := g4.2
  simp at s1 s2 s3 s4
  repeat (first | exact Grew.refl _ | assumption | refine Grew.drew ?_ | refine Grew.drewN ?_ _ | refine Grew.alloc ?_ _ | refine Grew.set ?_ (by first | (simp; done) | (simp; omega) | omega) _ | refine Grew.trans ?_ (by assumption))
end Go.Proofs.YtjkebimmddlccaaDoor
