/-
  The walk of the document's Mul; no statement is proved here.
-/
import Derived.Test.YtjkebimmddlccaaDoorRefK
import Derived.Test.YtjkebimmddlccaaDoorClW
namespace Go.Proofs.YtjkebimmddlccaaDoor
open Go.RowKit
set_option linter.unusedVariables false
set_option linter.unusedSimpArgs false

set_option maxRecDepth 100000 in
set_option maxHeartbeats 16000000 in
theorem Mul_ii {f : Ieee.Format} (a b x y I S T R : Int) (w : World) (hi : (x == I) = true) (x0 : (x == 0) = false) (hk : (y == I) = true) (y0 : (y == 0) = false) (hT : bits .and .u64 (bits .xor .u64 a b) S = T) (hR : IntKind.u64.wrap (T + I) = R)
    (Za : CG 59 #[.agg #[.int .i64 (f.fractionBits : Int), .int .i64 (f.exponentBits : Int)], .int .u64 a] (.int .u64 x))
    (Zb : CG 59 #[.agg #[.int .i64 (f.fractionBits : Int), .int .i64 (f.exponentBits : Int)], .int .u64 b] (.int .u64 y))
    (If : CG 64 #[.agg #[.int .i64 (f.fractionBits : Int), .int .i64 (f.exponentBits : Int)]] (.int .u64 I))
    (Sg : CG 60 #[.agg #[.int .i64 (f.fractionBits : Int), .int .i64 (f.exponentBits : Int)]] (.int .u64 S)) :
    Calls Tryd.prog 68 #[.agg #[.int .i64 (f.fractionBits : Int), .int .i64 (f.exponentBits : Int)], .int .u64 a, .int .u64 b] w fun en w' => en = .returned (.int .u64 R) ∧ Grew w w' := by
  go_enter Tryd.func68, Tryd.ntmps68
  go_wp2_with (first
    | (go_at_call_of 59 (Value.int IntKind.u64 a); refine (Za.out _).mono ?_; rintro e w1 ⟨rfl, g1⟩; obtain ⟨l1_0, h1_0_0, h1_0_1⟩ := g1.c2 (w.heap.size) (.int .i64 (f.fractionBits : Int)) (.int .i64 (f.exponentBits : Int)))
    | (go_at_call_of 59 (Value.int IntKind.u64 b); refine (Zb.out _).mono ?_; rintro e w2 ⟨rfl, g2⟩; obtain ⟨l2_0, h2_0_0, h2_0_1⟩ := g2.c2 (w.heap.size) (.int .i64 (f.fractionBits : Int)) (.int .i64 (f.exponentBits : Int)))
    | (go_at_call 64; refine (If.out _).mono ?_; rintro e w3 ⟨rfl, g3⟩; obtain ⟨l3_0, h3_0_0, h3_0_1⟩ := g3.c2 (w.heap.size) (.int .i64 (f.fractionBits : Int)) (.int .i64 (f.exponentBits : Int)))
    | (go_at_call 60; refine (Sg.out _).mono ?_; rintro e w4 ⟨rfl, g4⟩; obtain ⟨l4_0, h4_0_0, h4_0_1⟩ := g4.c2 (w.heap.size) (.int .i64 (f.fractionBits : Int)) (.int .i64 (f.exponentBits : Int))))
  refine wp_region_cl (B := w.heap.size) (c0 := .int .i64 (f.fractionBits : Int)) (c1 := .int .i64 (f.exponentBits : Int)) (by kernel_rfl) (by kernel_rfl) (by first | assumption | (simp; omega) | omega) (by first | assumption | go_simp) (by first | assumption | go_simp) ?_
  repeat (first
    | go_big_quiet_skip
    | (go_big_quiet_want
       go_big_quiet_op
       first
       | go_big_quiet_on
       | (refine ⟨_, fun _ _ => rfl, ?_⟩; go_big_quiet_on)
       | (refine ⟨.agg #[.int .i64 (f.fractionBits : Int), .int .i64 (f.exponentBits : Int)], fun w' hw' => ?_, ?_⟩
          · (obtain ⟨_, _, hc0, hc1⟩ := hw'; go_simp; done)
          go_big_quiet_on)
       | (apply Exists.intro
          refine ⟨fun w' hw' => ?_, ?_⟩
          · (first
          | (go_at_call_of 59 (Value.int IntKind.u64 a); exact hw'.call (Za.out _))
          | (go_at_call_of 59 (Value.int IntKind.u64 b); exact hw'.call (Zb.out _))
          | (go_at_call 64; exact hw'.call (If.out _)))
          go_big_quiet_on)))
  refine wpQuiet_nil ?_
  rintro w90 ⟨l90b, g90, h90_0, h90_1⟩
  have l90 : w.heap.size < w90.heap.size := Nat.lt_of_lt_of_le l90b g90.2
  go_wp2_with (first
    | (go_at_call_of 59 (Value.int IntKind.u64 a); refine (Za.out _).mono ?_; rintro e w1 ⟨rfl, g1⟩; obtain ⟨l1_0, h1_0_0, h1_0_1⟩ := g1.c2 (w.heap.size) (.int .i64 (f.fractionBits : Int)) (.int .i64 (f.exponentBits : Int)))
    | (go_at_call_of 59 (Value.int IntKind.u64 b); refine (Zb.out _).mono ?_; rintro e w2 ⟨rfl, g2⟩; obtain ⟨l2_0, h2_0_0, h2_0_1⟩ := g2.c2 (w.heap.size) (.int .i64 (f.fractionBits : Int)) (.int .i64 (f.exponentBits : Int)))
    | (go_at_call 64; refine (If.out _).mono ?_; rintro e w3 ⟨rfl, g3⟩; obtain ⟨l3_0, h3_0_0, h3_0_1⟩ := g3.c2 (w.heap.size) (.int .i64 (f.fractionBits : Int)) (.int .i64 (f.exponentBits : Int)))
    | (go_at_call 60; refine (Sg.out _).mono ?_; rintro e w4 ⟨rfl, g4⟩; obtain ⟨l4_0, h4_0_0, h4_0_1⟩ := g4.c2 (w.heap.size) (.int .i64 (f.fractionBits : Int)) (.int .i64 (f.exponentBits : Int))))
  refine wp_region_cl (B := w.heap.size) (c0 := .int .i64 (f.fractionBits : Int)) (c1 := .int .i64 (f.exponentBits : Int)) (by kernel_rfl) (by kernel_rfl) (by first | assumption | (simp; omega) | omega) (by first | assumption | go_simp) (by first | assumption | go_simp) ?_
  repeat (first
    | go_big_quiet_skip
    | (go_big_quiet_want
       go_big_quiet_op
       first
       | go_big_quiet_on
       | (refine ⟨_, fun _ _ => rfl, ?_⟩; go_big_quiet_on)
       | (refine ⟨.agg #[.int .i64 (f.fractionBits : Int), .int .i64 (f.exponentBits : Int)], fun w' hw' => ?_, ?_⟩
          · (obtain ⟨_, _, hc0, hc1⟩ := hw'; go_simp; done)
          go_big_quiet_on)
       | (apply Exists.intro
          refine ⟨fun w' hw' => ?_, ?_⟩
          · (first
          | (go_at_call_of 59 (Value.int IntKind.u64 a); exact hw'.call (Za.out _))
          | (go_at_call_of 59 (Value.int IntKind.u64 b); exact hw'.call (Zb.out _))
          | (go_at_call 64; exact hw'.call (If.out _)))
          go_big_quiet_on)))
  refine wpQuiet_nil ?_
  rintro w91 ⟨l91b, g91, h91_0, h91_1⟩
  have l91 : w.heap.size < w91.heap.size := Nat.lt_of_lt_of_le l91b g91.2
  go_wp2_with (first
    | (go_at_call_of 59 (Value.int IntKind.u64 a); refine (Za.out _).mono ?_; rintro e w1 ⟨rfl, g1⟩; obtain ⟨l1_0, h1_0_0, h1_0_1⟩ := g1.c2 (w.heap.size) (.int .i64 (f.fractionBits : Int)) (.int .i64 (f.exponentBits : Int)))
    | (go_at_call_of 59 (Value.int IntKind.u64 b); refine (Zb.out _).mono ?_; rintro e w2 ⟨rfl, g2⟩; obtain ⟨l2_0, h2_0_0, h2_0_1⟩ := g2.c2 (w.heap.size) (.int .i64 (f.fractionBits : Int)) (.int .i64 (f.exponentBits : Int)))
    | (go_at_call 64; refine (If.out _).mono ?_; rintro e w3 ⟨rfl, g3⟩; obtain ⟨l3_0, h3_0_0, h3_0_1⟩ := g3.c2 (w.heap.size) (.int .i64 (f.fractionBits : Int)) (.int .i64 (f.exponentBits : Int)))
    | (go_at_call 60; refine (Sg.out _).mono ?_; rintro e w4 ⟨rfl, g4⟩; obtain ⟨l4_0, h4_0_0, h4_0_1⟩ := g4.c2 (w.heap.size) (.int .i64 (f.fractionBits : Int)) (.int .i64 (f.exponentBits : Int))))
  all_goals go_ret
  all_goals go_light
  all_goals refine ⟨by first | rfl | simp | (simp; omega), ?_⟩
  all_goals repeat (first | exact Grew.refl _ | assumption | refine Grew.drew ?_ | refine Grew.drewN ?_ _ | refine Grew.alloc ?_ _ | refine Grew.set ?_ (by first | (simp; done) | (simp; omega) | omega) _ | refine Grew.trans ?_ (by assumption))
set_option maxRecDepth 100000 in
set_option maxHeartbeats 16000000 in
theorem Mul_iz {f : Ieee.Format} (a b x y I S T R : Int) (w : World) (hi : (x == I) = true) (x0 : (x == 0) = false) (hk : (y == I) = false) (y0 : (y == 0) = true) (hT : bits .and .u64 (bits .xor .u64 a b) S = T)
    (Za : CG 59 #[.agg #[.int .i64 (f.fractionBits : Int), .int .i64 (f.exponentBits : Int)], .int .u64 a] (.int .u64 x))
    (Zb : CG 59 #[.agg #[.int .i64 (f.fractionBits : Int), .int .i64 (f.exponentBits : Int)], .int .u64 b] (.int .u64 y))
    (If : CG 64 #[.agg #[.int .i64 (f.fractionBits : Int), .int .i64 (f.exponentBits : Int)]] (.int .u64 I))
    (Sg : CG 60 #[.agg #[.int .i64 (f.fractionBits : Int), .int .i64 (f.exponentBits : Int)]] (.int .u64 S))
    (Nn : CG 62 #[.agg #[.int .i64 (f.fractionBits : Int), .int .i64 (f.exponentBits : Int)]] (.int .u64 R)) :
    Calls Tryd.prog 68 #[.agg #[.int .i64 (f.fractionBits : Int), .int .i64 (f.exponentBits : Int)], .int .u64 a, .int .u64 b] w fun en w' => en = .returned (.int .u64 R) ∧ Grew w w' := by
  go_enter Tryd.func68, Tryd.ntmps68
  go_wp2_with (first
    | (go_at_call_of 59 (Value.int IntKind.u64 a); refine (Za.out _).mono ?_; rintro e w1 ⟨rfl, g1⟩; obtain ⟨l1_0, h1_0_0, h1_0_1⟩ := g1.c2 (w.heap.size) (.int .i64 (f.fractionBits : Int)) (.int .i64 (f.exponentBits : Int)))
    | (go_at_call_of 59 (Value.int IntKind.u64 b); refine (Zb.out _).mono ?_; rintro e w2 ⟨rfl, g2⟩; obtain ⟨l2_0, h2_0_0, h2_0_1⟩ := g2.c2 (w.heap.size) (.int .i64 (f.fractionBits : Int)) (.int .i64 (f.exponentBits : Int)))
    | (go_at_call 64; refine (If.out _).mono ?_; rintro e w3 ⟨rfl, g3⟩; obtain ⟨l3_0, h3_0_0, h3_0_1⟩ := g3.c2 (w.heap.size) (.int .i64 (f.fractionBits : Int)) (.int .i64 (f.exponentBits : Int)))
    | (go_at_call 60; refine (Sg.out _).mono ?_; rintro e w4 ⟨rfl, g4⟩; obtain ⟨l4_0, h4_0_0, h4_0_1⟩ := g4.c2 (w.heap.size) (.int .i64 (f.fractionBits : Int)) (.int .i64 (f.exponentBits : Int)))
    | (go_at_call 62; refine (Nn.out _).mono ?_; rintro e w5 ⟨rfl, g5⟩; obtain ⟨l5_0, h5_0_0, h5_0_1⟩ := g5.c2 (w.heap.size) (.int .i64 (f.fractionBits : Int)) (.int .i64 (f.exponentBits : Int))))
  refine wp_region_cl (B := w.heap.size) (c0 := .int .i64 (f.fractionBits : Int)) (c1 := .int .i64 (f.exponentBits : Int)) (by kernel_rfl) (by kernel_rfl) (by first | assumption | (simp; omega) | omega) (by first | assumption | go_simp) (by first | assumption | go_simp) ?_
  repeat (first
    | go_big_quiet_skip
    | (go_big_quiet_want
       go_big_quiet_op
       first
       | go_big_quiet_on
       | (refine ⟨_, fun _ _ => rfl, ?_⟩; go_big_quiet_on)
       | (refine ⟨.agg #[.int .i64 (f.fractionBits : Int), .int .i64 (f.exponentBits : Int)], fun w' hw' => ?_, ?_⟩
          · (obtain ⟨_, _, hc0, hc1⟩ := hw'; go_simp; done)
          go_big_quiet_on)
       | (apply Exists.intro
          refine ⟨fun w' hw' => ?_, ?_⟩
          · (first
          | (go_at_call_of 59 (Value.int IntKind.u64 a); exact hw'.call (Za.out _))
          | (go_at_call_of 59 (Value.int IntKind.u64 b); exact hw'.call (Zb.out _))
          | (go_at_call 64; exact hw'.call (If.out _)))
          go_big_quiet_on)))
  refine wpQuiet_nil ?_
  rintro w90 ⟨l90b, g90, h90_0, h90_1⟩
  have l90 : w.heap.size < w90.heap.size := Nat.lt_of_lt_of_le l90b g90.2
  go_wp2_with (first
    | (go_at_call_of 59 (Value.int IntKind.u64 a); refine (Za.out _).mono ?_; rintro e w1 ⟨rfl, g1⟩; obtain ⟨l1_0, h1_0_0, h1_0_1⟩ := g1.c2 (w.heap.size) (.int .i64 (f.fractionBits : Int)) (.int .i64 (f.exponentBits : Int)))
    | (go_at_call_of 59 (Value.int IntKind.u64 b); refine (Zb.out _).mono ?_; rintro e w2 ⟨rfl, g2⟩; obtain ⟨l2_0, h2_0_0, h2_0_1⟩ := g2.c2 (w.heap.size) (.int .i64 (f.fractionBits : Int)) (.int .i64 (f.exponentBits : Int)))
    | (go_at_call 64; refine (If.out _).mono ?_; rintro e w3 ⟨rfl, g3⟩; obtain ⟨l3_0, h3_0_0, h3_0_1⟩ := g3.c2 (w.heap.size) (.int .i64 (f.fractionBits : Int)) (.int .i64 (f.exponentBits : Int)))
    | (go_at_call 60; refine (Sg.out _).mono ?_; rintro e w4 ⟨rfl, g4⟩; obtain ⟨l4_0, h4_0_0, h4_0_1⟩ := g4.c2 (w.heap.size) (.int .i64 (f.fractionBits : Int)) (.int .i64 (f.exponentBits : Int)))
    | (go_at_call 62; refine (Nn.out _).mono ?_; rintro e w5 ⟨rfl, g5⟩; obtain ⟨l5_0, h5_0_0, h5_0_1⟩ := g5.c2 (w.heap.size) (.int .i64 (f.fractionBits : Int)) (.int .i64 (f.exponentBits : Int))))
  all_goals go_ret
  all_goals go_light
  all_goals refine ⟨by first | rfl | simp | (simp; omega), ?_⟩
  all_goals repeat (first | exact Grew.refl _ | assumption | refine Grew.drew ?_ | refine Grew.drewN ?_ _ | refine Grew.alloc ?_ _ | refine Grew.set ?_ (by first | (simp; done) | (simp; omega) | omega) _ | refine Grew.trans ?_ (by assumption))
set_option maxRecDepth 100000 in
set_option maxHeartbeats 16000000 in
theorem Mul_io {f : Ieee.Format} (a b x y I S T R : Int) (w : World) (hi : (x == I) = true) (x0 : (x == 0) = false) (hk : (y == I) = false) (y0 : (y == 0) = false) (hT : bits .and .u64 (bits .xor .u64 a b) S = T) (hR : IntKind.u64.wrap (T + I) = R)
    (Za : CG 59 #[.agg #[.int .i64 (f.fractionBits : Int), .int .i64 (f.exponentBits : Int)], .int .u64 a] (.int .u64 x))
    (Zb : CG 59 #[.agg #[.int .i64 (f.fractionBits : Int), .int .i64 (f.exponentBits : Int)], .int .u64 b] (.int .u64 y))
    (If : CG 64 #[.agg #[.int .i64 (f.fractionBits : Int), .int .i64 (f.exponentBits : Int)]] (.int .u64 I))
    (Sg : CG 60 #[.agg #[.int .i64 (f.fractionBits : Int), .int .i64 (f.exponentBits : Int)]] (.int .u64 S)) :
    Calls Tryd.prog 68 #[.agg #[.int .i64 (f.fractionBits : Int), .int .i64 (f.exponentBits : Int)], .int .u64 a, .int .u64 b] w fun en w' => en = .returned (.int .u64 R) ∧ Grew w w' := by
  go_enter Tryd.func68, Tryd.ntmps68
  go_wp2_with (first
    | (go_at_call_of 59 (Value.int IntKind.u64 a); refine (Za.out _).mono ?_; rintro e w1 ⟨rfl, g1⟩; obtain ⟨l1_0, h1_0_0, h1_0_1⟩ := g1.c2 (w.heap.size) (.int .i64 (f.fractionBits : Int)) (.int .i64 (f.exponentBits : Int)))
    | (go_at_call_of 59 (Value.int IntKind.u64 b); refine (Zb.out _).mono ?_; rintro e w2 ⟨rfl, g2⟩; obtain ⟨l2_0, h2_0_0, h2_0_1⟩ := g2.c2 (w.heap.size) (.int .i64 (f.fractionBits : Int)) (.int .i64 (f.exponentBits : Int)))
    | (go_at_call 64; refine (If.out _).mono ?_; rintro e w3 ⟨rfl, g3⟩; obtain ⟨l3_0, h3_0_0, h3_0_1⟩ := g3.c2 (w.heap.size) (.int .i64 (f.fractionBits : Int)) (.int .i64 (f.exponentBits : Int)))
    | (go_at_call 60; refine (Sg.out _).mono ?_; rintro e w4 ⟨rfl, g4⟩; obtain ⟨l4_0, h4_0_0, h4_0_1⟩ := g4.c2 (w.heap.size) (.int .i64 (f.fractionBits : Int)) (.int .i64 (f.exponentBits : Int))))
  refine wp_region_cl (B := w.heap.size) (c0 := .int .i64 (f.fractionBits : Int)) (c1 := .int .i64 (f.exponentBits : Int)) (by kernel_rfl) (by kernel_rfl) (by first | assumption | (simp; omega) | omega) (by first | assumption | go_simp) (by first | assumption | go_simp) ?_
  repeat (first
    | go_big_quiet_skip
    | (go_big_quiet_want
       go_big_quiet_op
       first
       | go_big_quiet_on
       | (refine ⟨_, fun _ _ => rfl, ?_⟩; go_big_quiet_on)
       | (refine ⟨.agg #[.int .i64 (f.fractionBits : Int), .int .i64 (f.exponentBits : Int)], fun w' hw' => ?_, ?_⟩
          · (obtain ⟨_, _, hc0, hc1⟩ := hw'; go_simp; done)
          go_big_quiet_on)
       | (apply Exists.intro
          refine ⟨fun w' hw' => ?_, ?_⟩
          · (first
          | (go_at_call_of 59 (Value.int IntKind.u64 a); exact hw'.call (Za.out _))
          | (go_at_call_of 59 (Value.int IntKind.u64 b); exact hw'.call (Zb.out _))
          | (go_at_call 64; exact hw'.call (If.out _)))
          go_big_quiet_on)))
  refine wpQuiet_nil ?_
  rintro w90 ⟨l90b, g90, h90_0, h90_1⟩
  have l90 : w.heap.size < w90.heap.size := Nat.lt_of_lt_of_le l90b g90.2
  go_wp2_with (first
    | (go_at_call_of 59 (Value.int IntKind.u64 a); refine (Za.out _).mono ?_; rintro e w1 ⟨rfl, g1⟩; obtain ⟨l1_0, h1_0_0, h1_0_1⟩ := g1.c2 (w.heap.size) (.int .i64 (f.fractionBits : Int)) (.int .i64 (f.exponentBits : Int)))
    | (go_at_call_of 59 (Value.int IntKind.u64 b); refine (Zb.out _).mono ?_; rintro e w2 ⟨rfl, g2⟩; obtain ⟨l2_0, h2_0_0, h2_0_1⟩ := g2.c2 (w.heap.size) (.int .i64 (f.fractionBits : Int)) (.int .i64 (f.exponentBits : Int)))
    | (go_at_call 64; refine (If.out _).mono ?_; rintro e w3 ⟨rfl, g3⟩; obtain ⟨l3_0, h3_0_0, h3_0_1⟩ := g3.c2 (w.heap.size) (.int .i64 (f.fractionBits : Int)) (.int .i64 (f.exponentBits : Int)))
    | (go_at_call 60; refine (Sg.out _).mono ?_; rintro e w4 ⟨rfl, g4⟩; obtain ⟨l4_0, h4_0_0, h4_0_1⟩ := g4.c2 (w.heap.size) (.int .i64 (f.fractionBits : Int)) (.int .i64 (f.exponentBits : Int))))
  refine wp_region_cl (B := w.heap.size) (c0 := .int .i64 (f.fractionBits : Int)) (c1 := .int .i64 (f.exponentBits : Int)) (by kernel_rfl) (by kernel_rfl) (by first | assumption | (simp; omega) | omega) (by first | assumption | go_simp) (by first | assumption | go_simp) ?_
  repeat (first
    | go_big_quiet_skip
    | (go_big_quiet_want
       go_big_quiet_op
       first
       | go_big_quiet_on
       | (refine ⟨_, fun _ _ => rfl, ?_⟩; go_big_quiet_on)
       | (refine ⟨.agg #[.int .i64 (f.fractionBits : Int), .int .i64 (f.exponentBits : Int)], fun w' hw' => ?_, ?_⟩
          · (obtain ⟨_, _, hc0, hc1⟩ := hw'; go_simp; done)
          go_big_quiet_on)
       | (apply Exists.intro
          refine ⟨fun w' hw' => ?_, ?_⟩
          · (first
          | (go_at_call_of 59 (Value.int IntKind.u64 a); exact hw'.call (Za.out _))
          | (go_at_call_of 59 (Value.int IntKind.u64 b); exact hw'.call (Zb.out _))
          | (go_at_call 64; exact hw'.call (If.out _)))
          go_big_quiet_on)))
  refine wpQuiet_nil ?_
  rintro w91 ⟨l91b, g91, h91_0, h91_1⟩
  have l91 : w.heap.size < w91.heap.size := Nat.lt_of_lt_of_le l91b g91.2
  go_wp2_with (first
    | (go_at_call_of 59 (Value.int IntKind.u64 a); refine (Za.out _).mono ?_; rintro e w1 ⟨rfl, g1⟩; obtain ⟨l1_0, h1_0_0, h1_0_1⟩ := g1.c2 (w.heap.size) (.int .i64 (f.fractionBits : Int)) (.int .i64 (f.exponentBits : Int)))
    | (go_at_call_of 59 (Value.int IntKind.u64 b); refine (Zb.out _).mono ?_; rintro e w2 ⟨rfl, g2⟩; obtain ⟨l2_0, h2_0_0, h2_0_1⟩ := g2.c2 (w.heap.size) (.int .i64 (f.fractionBits : Int)) (.int .i64 (f.exponentBits : Int)))
    | (go_at_call 64; refine (If.out _).mono ?_; rintro e w3 ⟨rfl, g3⟩; obtain ⟨l3_0, h3_0_0, h3_0_1⟩ := g3.c2 (w.heap.size) (.int .i64 (f.fractionBits : Int)) (.int .i64 (f.exponentBits : Int)))
    | (go_at_call 60; refine (Sg.out _).mono ?_; rintro e w4 ⟨rfl, g4⟩; obtain ⟨l4_0, h4_0_0, h4_0_1⟩ := g4.c2 (w.heap.size) (.int .i64 (f.fractionBits : Int)) (.int .i64 (f.exponentBits : Int))))
  all_goals go_ret
  all_goals go_light
  all_goals refine ⟨by first | rfl | simp | (simp; omega), ?_⟩
  all_goals repeat (first | exact Grew.refl _ | assumption | refine Grew.drew ?_ | refine Grew.drewN ?_ _ | refine Grew.alloc ?_ _ | refine Grew.set ?_ (by first | (simp; done) | (simp; omega) | omega) _ | refine Grew.trans ?_ (by assumption))
set_option maxRecDepth 100000 in
set_option maxHeartbeats 16000000 in
theorem Mul_zi {f : Ieee.Format} (a b x y I S T R : Int) (w : World) (hi : (x == I) = false) (x0 : (x == 0) = true) (hk : (y == I) = true) (y0 : (y == 0) = false) (hT : bits .and .u64 (bits .xor .u64 a b) S = T)
    (Za : CG 59 #[.agg #[.int .i64 (f.fractionBits : Int), .int .i64 (f.exponentBits : Int)], .int .u64 a] (.int .u64 x))
    (Zb : CG 59 #[.agg #[.int .i64 (f.fractionBits : Int), .int .i64 (f.exponentBits : Int)], .int .u64 b] (.int .u64 y))
    (If : CG 64 #[.agg #[.int .i64 (f.fractionBits : Int), .int .i64 (f.exponentBits : Int)]] (.int .u64 I))
    (Sg : CG 60 #[.agg #[.int .i64 (f.fractionBits : Int), .int .i64 (f.exponentBits : Int)]] (.int .u64 S))
    (Nn : CG 62 #[.agg #[.int .i64 (f.fractionBits : Int), .int .i64 (f.exponentBits : Int)]] (.int .u64 R)) :
    Calls Tryd.prog 68 #[.agg #[.int .i64 (f.fractionBits : Int), .int .i64 (f.exponentBits : Int)], .int .u64 a, .int .u64 b] w fun en w' => en = .returned (.int .u64 R) ∧ Grew w w' := by
  go_enter Tryd.func68, Tryd.ntmps68
  go_wp2_with (first
    | (go_at_call_of 59 (Value.int IntKind.u64 a); refine (Za.out _).mono ?_; rintro e w1 ⟨rfl, g1⟩; obtain ⟨l1_0, h1_0_0, h1_0_1⟩ := g1.c2 (w.heap.size) (.int .i64 (f.fractionBits : Int)) (.int .i64 (f.exponentBits : Int)))
    | (go_at_call_of 59 (Value.int IntKind.u64 b); refine (Zb.out _).mono ?_; rintro e w2 ⟨rfl, g2⟩; obtain ⟨l2_0, h2_0_0, h2_0_1⟩ := g2.c2 (w.heap.size) (.int .i64 (f.fractionBits : Int)) (.int .i64 (f.exponentBits : Int)))
    | (go_at_call 64; refine (If.out _).mono ?_; rintro e w3 ⟨rfl, g3⟩; obtain ⟨l3_0, h3_0_0, h3_0_1⟩ := g3.c2 (w.heap.size) (.int .i64 (f.fractionBits : Int)) (.int .i64 (f.exponentBits : Int)))
    | (go_at_call 60; refine (Sg.out _).mono ?_; rintro e w4 ⟨rfl, g4⟩; obtain ⟨l4_0, h4_0_0, h4_0_1⟩ := g4.c2 (w.heap.size) (.int .i64 (f.fractionBits : Int)) (.int .i64 (f.exponentBits : Int)))
    | (go_at_call 62; refine (Nn.out _).mono ?_; rintro e w5 ⟨rfl, g5⟩; obtain ⟨l5_0, h5_0_0, h5_0_1⟩ := g5.c2 (w.heap.size) (.int .i64 (f.fractionBits : Int)) (.int .i64 (f.exponentBits : Int))))
  refine wp_region_cl (B := w.heap.size) (c0 := .int .i64 (f.fractionBits : Int)) (c1 := .int .i64 (f.exponentBits : Int)) (by kernel_rfl) (by kernel_rfl) (by first | assumption | (simp; omega) | omega) (by first | assumption | go_simp) (by first | assumption | go_simp) ?_
  repeat (first
    | go_big_quiet_skip
    | (go_big_quiet_want
       go_big_quiet_op
       first
       | go_big_quiet_on
       | (refine ⟨_, fun _ _ => rfl, ?_⟩; go_big_quiet_on)
       | (refine ⟨.agg #[.int .i64 (f.fractionBits : Int), .int .i64 (f.exponentBits : Int)], fun w' hw' => ?_, ?_⟩
          · (obtain ⟨_, _, hc0, hc1⟩ := hw'; go_simp; done)
          go_big_quiet_on)
       | (apply Exists.intro
          refine ⟨fun w' hw' => ?_, ?_⟩
          · (first
          | (go_at_call_of 59 (Value.int IntKind.u64 a); exact hw'.call (Za.out _))
          | (go_at_call_of 59 (Value.int IntKind.u64 b); exact hw'.call (Zb.out _))
          | (go_at_call 64; exact hw'.call (If.out _)))
          go_big_quiet_on)))
  refine wpQuiet_nil ?_
  rintro w90 ⟨l90b, g90, h90_0, h90_1⟩
  have l90 : w.heap.size < w90.heap.size := Nat.lt_of_lt_of_le l90b g90.2
  go_wp2_with (first
    | (go_at_call_of 59 (Value.int IntKind.u64 a); refine (Za.out _).mono ?_; rintro e w1 ⟨rfl, g1⟩; obtain ⟨l1_0, h1_0_0, h1_0_1⟩ := g1.c2 (w.heap.size) (.int .i64 (f.fractionBits : Int)) (.int .i64 (f.exponentBits : Int)))
    | (go_at_call_of 59 (Value.int IntKind.u64 b); refine (Zb.out _).mono ?_; rintro e w2 ⟨rfl, g2⟩; obtain ⟨l2_0, h2_0_0, h2_0_1⟩ := g2.c2 (w.heap.size) (.int .i64 (f.fractionBits : Int)) (.int .i64 (f.exponentBits : Int)))
    | (go_at_call 64; refine (If.out _).mono ?_; rintro e w3 ⟨rfl, g3⟩; obtain ⟨l3_0, h3_0_0, h3_0_1⟩ := g3.c2 (w.heap.size) (.int .i64 (f.fractionBits : Int)) (.int .i64 (f.exponentBits : Int)))
    | (go_at_call 60; refine (Sg.out _).mono ?_; rintro e w4 ⟨rfl, g4⟩; obtain ⟨l4_0, h4_0_0, h4_0_1⟩ := g4.c2 (w.heap.size) (.int .i64 (f.fractionBits : Int)) (.int .i64 (f.exponentBits : Int)))
    | (go_at_call 62; refine (Nn.out _).mono ?_; rintro e w5 ⟨rfl, g5⟩; obtain ⟨l5_0, h5_0_0, h5_0_1⟩ := g5.c2 (w.heap.size) (.int .i64 (f.fractionBits : Int)) (.int .i64 (f.exponentBits : Int))))
  all_goals go_ret
  all_goals go_light
  all_goals refine ⟨by first | rfl | simp | (simp; omega), ?_⟩
  all_goals repeat (first | exact Grew.refl _ | assumption | refine Grew.drew ?_ | refine Grew.drewN ?_ _ | refine Grew.alloc ?_ _ | refine Grew.set ?_ (by first | (simp; done) | (simp; omega) | omega) _ | refine Grew.trans ?_ (by assumption))
set_option maxRecDepth 100000 in
set_option maxHeartbeats 16000000 in
theorem Mul_zz {f : Ieee.Format} (a b x y I S T R : Int) (w : World) (hi : (x == I) = false) (x0 : (x == 0) = true) (hk : (y == I) = false) (y0 : (y == 0) = true) (hT : bits .and .u64 (bits .xor .u64 a b) S = T)
    (Za : CG 59 #[.agg #[.int .i64 (f.fractionBits : Int), .int .i64 (f.exponentBits : Int)], .int .u64 a] (.int .u64 x))
    (Zb : CG 59 #[.agg #[.int .i64 (f.fractionBits : Int), .int .i64 (f.exponentBits : Int)], .int .u64 b] (.int .u64 y))
    (If : CG 64 #[.agg #[.int .i64 (f.fractionBits : Int), .int .i64 (f.exponentBits : Int)]] (.int .u64 I))
    (Sg : CG 60 #[.agg #[.int .i64 (f.fractionBits : Int), .int .i64 (f.exponentBits : Int)]] (.int .u64 S))
    (Pd : CG 95 #[.agg #[.int .i64 (f.fractionBits : Int), .int .i64 (f.exponentBits : Int)], .int .u64 a, .int .u64 b] (.int .u64 R)) :
    Calls Tryd.prog 68 #[.agg #[.int .i64 (f.fractionBits : Int), .int .i64 (f.exponentBits : Int)], .int .u64 a, .int .u64 b] w fun en w' => en = .returned (.int .u64 R) ∧ Grew w w' := by
  go_enter Tryd.func68, Tryd.ntmps68
  go_wp2_with (first
    | (go_at_call_of 59 (Value.int IntKind.u64 a); refine (Za.out _).mono ?_; rintro e w1 ⟨rfl, g1⟩; obtain ⟨l1_0, h1_0_0, h1_0_1⟩ := g1.c2 (w.heap.size) (.int .i64 (f.fractionBits : Int)) (.int .i64 (f.exponentBits : Int)))
    | (go_at_call_of 59 (Value.int IntKind.u64 b); refine (Zb.out _).mono ?_; rintro e w2 ⟨rfl, g2⟩; obtain ⟨l2_0, h2_0_0, h2_0_1⟩ := g2.c2 (w.heap.size) (.int .i64 (f.fractionBits : Int)) (.int .i64 (f.exponentBits : Int)))
    | (go_at_call 64; refine (If.out _).mono ?_; rintro e w3 ⟨rfl, g3⟩; obtain ⟨l3_0, h3_0_0, h3_0_1⟩ := g3.c2 (w.heap.size) (.int .i64 (f.fractionBits : Int)) (.int .i64 (f.exponentBits : Int)))
    | (go_at_call 60; refine (Sg.out _).mono ?_; rintro e w4 ⟨rfl, g4⟩; obtain ⟨l4_0, h4_0_0, h4_0_1⟩ := g4.c2 (w.heap.size) (.int .i64 (f.fractionBits : Int)) (.int .i64 (f.exponentBits : Int)))
    | (go_at_call 95; refine (Pd.out _).mono ?_; rintro e w5 ⟨rfl, g5⟩; obtain ⟨l5_0, h5_0_0, h5_0_1⟩ := g5.c2 (w.heap.size) (.int .i64 (f.fractionBits : Int)) (.int .i64 (f.exponentBits : Int))))
  refine wp_region_cl (B := w.heap.size) (c0 := .int .i64 (f.fractionBits : Int)) (c1 := .int .i64 (f.exponentBits : Int)) (by kernel_rfl) (by kernel_rfl) (by first | assumption | (simp; omega) | omega) (by first | assumption | go_simp) (by first | assumption | go_simp) ?_
  repeat (first
    | go_big_quiet_skip
    | (go_big_quiet_want
       go_big_quiet_op
       first
       | go_big_quiet_on
       | (refine ⟨_, fun _ _ => rfl, ?_⟩; go_big_quiet_on)
       | (refine ⟨.agg #[.int .i64 (f.fractionBits : Int), .int .i64 (f.exponentBits : Int)], fun w' hw' => ?_, ?_⟩
          · (obtain ⟨_, _, hc0, hc1⟩ := hw'; go_simp; done)
          go_big_quiet_on)
       | (apply Exists.intro
          refine ⟨fun w' hw' => ?_, ?_⟩
          · (first
          | (go_at_call_of 59 (Value.int IntKind.u64 a); exact hw'.call (Za.out _))
          | (go_at_call_of 59 (Value.int IntKind.u64 b); exact hw'.call (Zb.out _))
          | (go_at_call 64; exact hw'.call (If.out _)))
          go_big_quiet_on)))
  refine wpQuiet_nil ?_
  rintro w90 ⟨l90b, g90, h90_0, h90_1⟩
  have l90 : w.heap.size < w90.heap.size := Nat.lt_of_lt_of_le l90b g90.2
  go_wp2_with (first
    | (go_at_call_of 59 (Value.int IntKind.u64 a); refine (Za.out _).mono ?_; rintro e w1 ⟨rfl, g1⟩; obtain ⟨l1_0, h1_0_0, h1_0_1⟩ := g1.c2 (w.heap.size) (.int .i64 (f.fractionBits : Int)) (.int .i64 (f.exponentBits : Int)))
    | (go_at_call_of 59 (Value.int IntKind.u64 b); refine (Zb.out _).mono ?_; rintro e w2 ⟨rfl, g2⟩; obtain ⟨l2_0, h2_0_0, h2_0_1⟩ := g2.c2 (w.heap.size) (.int .i64 (f.fractionBits : Int)) (.int .i64 (f.exponentBits : Int)))
    | (go_at_call 64; refine (If.out _).mono ?_; rintro e w3 ⟨rfl, g3⟩; obtain ⟨l3_0, h3_0_0, h3_0_1⟩ := g3.c2 (w.heap.size) (.int .i64 (f.fractionBits : Int)) (.int .i64 (f.exponentBits : Int)))
    | (go_at_call 60; refine (Sg.out _).mono ?_; rintro e w4 ⟨rfl, g4⟩; obtain ⟨l4_0, h4_0_0, h4_0_1⟩ := g4.c2 (w.heap.size) (.int .i64 (f.fractionBits : Int)) (.int .i64 (f.exponentBits : Int)))
    | (go_at_call 95; refine (Pd.out _).mono ?_; rintro e w5 ⟨rfl, g5⟩; obtain ⟨l5_0, h5_0_0, h5_0_1⟩ := g5.c2 (w.heap.size) (.int .i64 (f.fractionBits : Int)) (.int .i64 (f.exponentBits : Int))))
  refine wp_region_cl (B := w.heap.size) (c0 := .int .i64 (f.fractionBits : Int)) (c1 := .int .i64 (f.exponentBits : Int)) (by kernel_rfl) (by kernel_rfl) (by first | assumption | (simp; omega) | omega) (by first | assumption | go_simp) (by first | assumption | go_simp) ?_
  repeat (first
    | go_big_quiet_skip
    | (go_big_quiet_want
       go_big_quiet_op
       first
       | go_big_quiet_on
       | (refine ⟨_, fun _ _ => rfl, ?_⟩; go_big_quiet_on)
       | (refine ⟨.agg #[.int .i64 (f.fractionBits : Int), .int .i64 (f.exponentBits : Int)], fun w' hw' => ?_, ?_⟩
          · (obtain ⟨_, _, hc0, hc1⟩ := hw'; go_simp; done)
          go_big_quiet_on)
       | (apply Exists.intro
          refine ⟨fun w' hw' => ?_, ?_⟩
          · (first
          | (go_at_call_of 59 (Value.int IntKind.u64 a); exact hw'.call (Za.out _))
          | (go_at_call_of 59 (Value.int IntKind.u64 b); exact hw'.call (Zb.out _))
          | (go_at_call 64; exact hw'.call (If.out _)))
          go_big_quiet_on)))
  refine wpQuiet_nil ?_
  rintro w91 ⟨l91b, g91, h91_0, h91_1⟩
  have l91 : w.heap.size < w91.heap.size := Nat.lt_of_lt_of_le l91b g91.2
  go_wp2_with (first
    | (go_at_call_of 59 (Value.int IntKind.u64 a); refine (Za.out _).mono ?_; rintro e w1 ⟨rfl, g1⟩; obtain ⟨l1_0, h1_0_0, h1_0_1⟩ := g1.c2 (w.heap.size) (.int .i64 (f.fractionBits : Int)) (.int .i64 (f.exponentBits : Int)))
    | (go_at_call_of 59 (Value.int IntKind.u64 b); refine (Zb.out _).mono ?_; rintro e w2 ⟨rfl, g2⟩; obtain ⟨l2_0, h2_0_0, h2_0_1⟩ := g2.c2 (w.heap.size) (.int .i64 (f.fractionBits : Int)) (.int .i64 (f.exponentBits : Int)))
    | (go_at_call 64; refine (If.out _).mono ?_; rintro e w3 ⟨rfl, g3⟩; obtain ⟨l3_0, h3_0_0, h3_0_1⟩ := g3.c2 (w.heap.size) (.int .i64 (f.fractionBits : Int)) (.int .i64 (f.exponentBits : Int)))
    | (go_at_call 60; refine (Sg.out _).mono ?_; rintro e w4 ⟨rfl, g4⟩; obtain ⟨l4_0, h4_0_0, h4_0_1⟩ := g4.c2 (w.heap.size) (.int .i64 (f.fractionBits : Int)) (.int .i64 (f.exponentBits : Int)))
    | (go_at_call 95; refine (Pd.out _).mono ?_; rintro e w5 ⟨rfl, g5⟩; obtain ⟨l5_0, h5_0_0, h5_0_1⟩ := g5.c2 (w.heap.size) (.int .i64 (f.fractionBits : Int)) (.int .i64 (f.exponentBits : Int))))
  all_goals go_ret
  all_goals go_light
  all_goals refine ⟨by first | rfl | simp | (simp; omega), ?_⟩
  all_goals repeat (first | exact Grew.refl _ | assumption | refine Grew.drew ?_ | refine Grew.drewN ?_ _ | refine Grew.alloc ?_ _ | refine Grew.set ?_ (by first | (simp; done) | (simp; omega) | omega) _ | refine Grew.trans ?_ (by assumption))
set_option maxRecDepth 100000 in
set_option maxHeartbeats 16000000 in
theorem Mul_zo {f : Ieee.Format} (a b x y I S T R : Int) (w : World) (hi : (x == I) = false) (x0 : (x == 0) = true) (hk : (y == I) = false) (y0 : (y == 0) = false) (hT : bits .and .u64 (bits .xor .u64 a b) S = T)
    (Za : CG 59 #[.agg #[.int .i64 (f.fractionBits : Int), .int .i64 (f.exponentBits : Int)], .int .u64 a] (.int .u64 x))
    (Zb : CG 59 #[.agg #[.int .i64 (f.fractionBits : Int), .int .i64 (f.exponentBits : Int)], .int .u64 b] (.int .u64 y))
    (If : CG 64 #[.agg #[.int .i64 (f.fractionBits : Int), .int .i64 (f.exponentBits : Int)]] (.int .u64 I))
    (Sg : CG 60 #[.agg #[.int .i64 (f.fractionBits : Int), .int .i64 (f.exponentBits : Int)]] (.int .u64 S))
    (Pd : CG 95 #[.agg #[.int .i64 (f.fractionBits : Int), .int .i64 (f.exponentBits : Int)], .int .u64 a, .int .u64 b] (.int .u64 R)) :
    Calls Tryd.prog 68 #[.agg #[.int .i64 (f.fractionBits : Int), .int .i64 (f.exponentBits : Int)], .int .u64 a, .int .u64 b] w fun en w' => en = .returned (.int .u64 R) ∧ Grew w w' := by
  go_enter Tryd.func68, Tryd.ntmps68
  go_wp2_with (first
    | (go_at_call_of 59 (Value.int IntKind.u64 a); refine (Za.out _).mono ?_; rintro e w1 ⟨rfl, g1⟩; obtain ⟨l1_0, h1_0_0, h1_0_1⟩ := g1.c2 (w.heap.size) (.int .i64 (f.fractionBits : Int)) (.int .i64 (f.exponentBits : Int)))
    | (go_at_call_of 59 (Value.int IntKind.u64 b); refine (Zb.out _).mono ?_; rintro e w2 ⟨rfl, g2⟩; obtain ⟨l2_0, h2_0_0, h2_0_1⟩ := g2.c2 (w.heap.size) (.int .i64 (f.fractionBits : Int)) (.int .i64 (f.exponentBits : Int)))
    | (go_at_call 64; refine (If.out _).mono ?_; rintro e w3 ⟨rfl, g3⟩; obtain ⟨l3_0, h3_0_0, h3_0_1⟩ := g3.c2 (w.heap.size) (.int .i64 (f.fractionBits : Int)) (.int .i64 (f.exponentBits : Int)))
    | (go_at_call 60; refine (Sg.out _).mono ?_; rintro e w4 ⟨rfl, g4⟩; obtain ⟨l4_0, h4_0_0, h4_0_1⟩ := g4.c2 (w.heap.size) (.int .i64 (f.fractionBits : Int)) (.int .i64 (f.exponentBits : Int)))
    | (go_at_call 95; refine (Pd.out _).mono ?_; rintro e w5 ⟨rfl, g5⟩; obtain ⟨l5_0, h5_0_0, h5_0_1⟩ := g5.c2 (w.heap.size) (.int .i64 (f.fractionBits : Int)) (.int .i64 (f.exponentBits : Int))))
  refine wp_region_cl (B := w.heap.size) (c0 := .int .i64 (f.fractionBits : Int)) (c1 := .int .i64 (f.exponentBits : Int)) (by kernel_rfl) (by kernel_rfl) (by first | assumption | (simp; omega) | omega) (by first | assumption | go_simp) (by first | assumption | go_simp) ?_
  repeat (first
    | go_big_quiet_skip
    | (go_big_quiet_want
       go_big_quiet_op
       first
       | go_big_quiet_on
       | (refine ⟨_, fun _ _ => rfl, ?_⟩; go_big_quiet_on)
       | (refine ⟨.agg #[.int .i64 (f.fractionBits : Int), .int .i64 (f.exponentBits : Int)], fun w' hw' => ?_, ?_⟩
          · (obtain ⟨_, _, hc0, hc1⟩ := hw'; go_simp; done)
          go_big_quiet_on)
       | (apply Exists.intro
          refine ⟨fun w' hw' => ?_, ?_⟩
          · (first
          | (go_at_call_of 59 (Value.int IntKind.u64 a); exact hw'.call (Za.out _))
          | (go_at_call_of 59 (Value.int IntKind.u64 b); exact hw'.call (Zb.out _))
          | (go_at_call 64; exact hw'.call (If.out _)))
          go_big_quiet_on)))
  refine wpQuiet_nil ?_
  rintro w90 ⟨l90b, g90, h90_0, h90_1⟩
  have l90 : w.heap.size < w90.heap.size := Nat.lt_of_lt_of_le l90b g90.2
  go_wp2_with (first
    | (go_at_call_of 59 (Value.int IntKind.u64 a); refine (Za.out _).mono ?_; rintro e w1 ⟨rfl, g1⟩; obtain ⟨l1_0, h1_0_0, h1_0_1⟩ := g1.c2 (w.heap.size) (.int .i64 (f.fractionBits : Int)) (.int .i64 (f.exponentBits : Int)))
    | (go_at_call_of 59 (Value.int IntKind.u64 b); refine (Zb.out _).mono ?_; rintro e w2 ⟨rfl, g2⟩; obtain ⟨l2_0, h2_0_0, h2_0_1⟩ := g2.c2 (w.heap.size) (.int .i64 (f.fractionBits : Int)) (.int .i64 (f.exponentBits : Int)))
    | (go_at_call 64; refine (If.out _).mono ?_; rintro e w3 ⟨rfl, g3⟩; obtain ⟨l3_0, h3_0_0, h3_0_1⟩ := g3.c2 (w.heap.size) (.int .i64 (f.fractionBits : Int)) (.int .i64 (f.exponentBits : Int)))
    | (go_at_call 60; refine (Sg.out _).mono ?_; rintro e w4 ⟨rfl, g4⟩; obtain ⟨l4_0, h4_0_0, h4_0_1⟩ := g4.c2 (w.heap.size) (.int .i64 (f.fractionBits : Int)) (.int .i64 (f.exponentBits : Int)))
    | (go_at_call 95; refine (Pd.out _).mono ?_; rintro e w5 ⟨rfl, g5⟩; obtain ⟨l5_0, h5_0_0, h5_0_1⟩ := g5.c2 (w.heap.size) (.int .i64 (f.fractionBits : Int)) (.int .i64 (f.exponentBits : Int))))
  refine wp_region_cl (B := w.heap.size) (c0 := .int .i64 (f.fractionBits : Int)) (c1 := .int .i64 (f.exponentBits : Int)) (by kernel_rfl) (by kernel_rfl) (by first | assumption | (simp; omega) | omega) (by first | assumption | go_simp) (by first | assumption | go_simp) ?_
  repeat (first
    | go_big_quiet_skip
    | (go_big_quiet_want
       go_big_quiet_op
       first
       | go_big_quiet_on
       | (refine ⟨_, fun _ _ => rfl, ?_⟩; go_big_quiet_on)
       | (refine ⟨.agg #[.int .i64 (f.fractionBits : Int), .int .i64 (f.exponentBits : Int)], fun w' hw' => ?_, ?_⟩
          · (obtain ⟨_, _, hc0, hc1⟩ := hw'; go_simp; done)
          go_big_quiet_on)
       | (apply Exists.intro
          refine ⟨fun w' hw' => ?_, ?_⟩
          · (first
          | (go_at_call_of 59 (Value.int IntKind.u64 a); exact hw'.call (Za.out _))
          | (go_at_call_of 59 (Value.int IntKind.u64 b); exact hw'.call (Zb.out _))
          | (go_at_call 64; exact hw'.call (If.out _)))
          go_big_quiet_on)))
  refine wpQuiet_nil ?_
  rintro w91 ⟨l91b, g91, h91_0, h91_1⟩
  have l91 : w.heap.size < w91.heap.size := Nat.lt_of_lt_of_le l91b g91.2
  go_wp2_with (first
    | (go_at_call_of 59 (Value.int IntKind.u64 a); refine (Za.out _).mono ?_; rintro e w1 ⟨rfl, g1⟩; obtain ⟨l1_0, h1_0_0, h1_0_1⟩ := g1.c2 (w.heap.size) (.int .i64 (f.fractionBits : Int)) (.int .i64 (f.exponentBits : Int)))
    | (go_at_call_of 59 (Value.int IntKind.u64 b); refine (Zb.out _).mono ?_; rintro e w2 ⟨rfl, g2⟩; obtain ⟨l2_0, h2_0_0, h2_0_1⟩ := g2.c2 (w.heap.size) (.int .i64 (f.fractionBits : Int)) (.int .i64 (f.exponentBits : Int)))
    | (go_at_call 64; refine (If.out _).mono ?_; rintro e w3 ⟨rfl, g3⟩; obtain ⟨l3_0, h3_0_0, h3_0_1⟩ := g3.c2 (w.heap.size) (.int .i64 (f.fractionBits : Int)) (.int .i64 (f.exponentBits : Int)))
    | (go_at_call 60; refine (Sg.out _).mono ?_; rintro e w4 ⟨rfl, g4⟩; obtain ⟨l4_0, h4_0_0, h4_0_1⟩ := g4.c2 (w.heap.size) (.int .i64 (f.fractionBits : Int)) (.int .i64 (f.exponentBits : Int)))
    | (go_at_call 95; refine (Pd.out _).mono ?_; rintro e w5 ⟨rfl, g5⟩; obtain ⟨l5_0, h5_0_0, h5_0_1⟩ := g5.c2 (w.heap.size) (.int .i64 (f.fractionBits : Int)) (.int .i64 (f.exponentBits : Int))))
  all_goals go_ret
  all_goals go_light
  all_goals refine ⟨by first | rfl | simp | (simp; omega), ?_⟩
  all_goals repeat (first | exact Grew.refl _ | assumption | refine Grew.drew ?_ | refine Grew.drewN ?_ _ | refine Grew.alloc ?_ _ | refine Grew.set ?_ (by first | (simp; done) | (simp; omega) | omega) _ | refine Grew.trans ?_ (by assumption))
set_option maxRecDepth 100000 in
set_option maxHeartbeats 16000000 in
theorem Mul_oi {f : Ieee.Format} (a b x y I S T R : Int) (w : World) (hi : (x == I) = false) (x0 : (x == 0) = false) (hk : (y == I) = true) (y0 : (y == 0) = false) (hT : bits .and .u64 (bits .xor .u64 a b) S = T) (hR : IntKind.u64.wrap (T + I) = R)
    (Za : CG 59 #[.agg #[.int .i64 (f.fractionBits : Int), .int .i64 (f.exponentBits : Int)], .int .u64 a] (.int .u64 x))
    (Zb : CG 59 #[.agg #[.int .i64 (f.fractionBits : Int), .int .i64 (f.exponentBits : Int)], .int .u64 b] (.int .u64 y))
    (If : CG 64 #[.agg #[.int .i64 (f.fractionBits : Int), .int .i64 (f.exponentBits : Int)]] (.int .u64 I))
    (Sg : CG 60 #[.agg #[.int .i64 (f.fractionBits : Int), .int .i64 (f.exponentBits : Int)]] (.int .u64 S)) :
    Calls Tryd.prog 68 #[.agg #[.int .i64 (f.fractionBits : Int), .int .i64 (f.exponentBits : Int)], .int .u64 a, .int .u64 b] w fun en w' => en = .returned (.int .u64 R) ∧ Grew w w' := by
  go_enter Tryd.func68, Tryd.ntmps68
  go_wp2_with (first
    | (go_at_call_of 59 (Value.int IntKind.u64 a); refine (Za.out _).mono ?_; rintro e w1 ⟨rfl, g1⟩; obtain ⟨l1_0, h1_0_0, h1_0_1⟩ := g1.c2 (w.heap.size) (.int .i64 (f.fractionBits : Int)) (.int .i64 (f.exponentBits : Int)))
    | (go_at_call_of 59 (Value.int IntKind.u64 b); refine (Zb.out _).mono ?_; rintro e w2 ⟨rfl, g2⟩; obtain ⟨l2_0, h2_0_0, h2_0_1⟩ := g2.c2 (w.heap.size) (.int .i64 (f.fractionBits : Int)) (.int .i64 (f.exponentBits : Int)))
    | (go_at_call 64; refine (If.out _).mono ?_; rintro e w3 ⟨rfl, g3⟩; obtain ⟨l3_0, h3_0_0, h3_0_1⟩ := g3.c2 (w.heap.size) (.int .i64 (f.fractionBits : Int)) (.int .i64 (f.exponentBits : Int)))
    | (go_at_call 60; refine (Sg.out _).mono ?_; rintro e w4 ⟨rfl, g4⟩; obtain ⟨l4_0, h4_0_0, h4_0_1⟩ := g4.c2 (w.heap.size) (.int .i64 (f.fractionBits : Int)) (.int .i64 (f.exponentBits : Int))))
  refine wp_region_cl (B := w.heap.size) (c0 := .int .i64 (f.fractionBits : Int)) (c1 := .int .i64 (f.exponentBits : Int)) (by kernel_rfl) (by kernel_rfl) (by first | assumption | (simp; omega) | omega) (by first | assumption | go_simp) (by first | assumption | go_simp) ?_
  repeat (first
    | go_big_quiet_skip
    | (go_big_quiet_want
       go_big_quiet_op
       first
       | go_big_quiet_on
       | (refine ⟨_, fun _ _ => rfl, ?_⟩; go_big_quiet_on)
       | (refine ⟨.agg #[.int .i64 (f.fractionBits : Int), .int .i64 (f.exponentBits : Int)], fun w' hw' => ?_, ?_⟩
          · (obtain ⟨_, _, hc0, hc1⟩ := hw'; go_simp; done)
          go_big_quiet_on)
       | (apply Exists.intro
          refine ⟨fun w' hw' => ?_, ?_⟩
          · (first
          | (go_at_call_of 59 (Value.int IntKind.u64 a); exact hw'.call (Za.out _))
          | (go_at_call_of 59 (Value.int IntKind.u64 b); exact hw'.call (Zb.out _))
          | (go_at_call 64; exact hw'.call (If.out _)))
          go_big_quiet_on)))
  refine wpQuiet_nil ?_
  rintro w90 ⟨l90b, g90, h90_0, h90_1⟩
  have l90 : w.heap.size < w90.heap.size := Nat.lt_of_lt_of_le l90b g90.2
  go_wp2_with (first
    | (go_at_call_of 59 (Value.int IntKind.u64 a); refine (Za.out _).mono ?_; rintro e w1 ⟨rfl, g1⟩; obtain ⟨l1_0, h1_0_0, h1_0_1⟩ := g1.c2 (w.heap.size) (.int .i64 (f.fractionBits : Int)) (.int .i64 (f.exponentBits : Int)))
    | (go_at_call_of 59 (Value.int IntKind.u64 b); refine (Zb.out _).mono ?_; rintro e w2 ⟨rfl, g2⟩; obtain ⟨l2_0, h2_0_0, h2_0_1⟩ := g2.c2 (w.heap.size) (.int .i64 (f.fractionBits : Int)) (.int .i64 (f.exponentBits : Int)))
    | (go_at_call 64; refine (If.out _).mono ?_; rintro e w3 ⟨rfl, g3⟩; obtain ⟨l3_0, h3_0_0, h3_0_1⟩ := g3.c2 (w.heap.size) (.int .i64 (f.fractionBits : Int)) (.int .i64 (f.exponentBits : Int)))
    | (go_at_call 60; refine (Sg.out _).mono ?_; rintro e w4 ⟨rfl, g4⟩; obtain ⟨l4_0, h4_0_0, h4_0_1⟩ := g4.c2 (w.heap.size) (.int .i64 (f.fractionBits : Int)) (.int .i64 (f.exponentBits : Int))))
  refine wp_region_cl (B := w.heap.size) (c0 := .int .i64 (f.fractionBits : Int)) (c1 := .int .i64 (f.exponentBits : Int)) (by kernel_rfl) (by kernel_rfl) (by first | assumption | (simp; omega) | omega) (by first | assumption | go_simp) (by first | assumption | go_simp) ?_
  repeat (first
    | go_big_quiet_skip
    | (go_big_quiet_want
       go_big_quiet_op
       first
       | go_big_quiet_on
       | (refine ⟨_, fun _ _ => rfl, ?_⟩; go_big_quiet_on)
       | (refine ⟨.agg #[.int .i64 (f.fractionBits : Int), .int .i64 (f.exponentBits : Int)], fun w' hw' => ?_, ?_⟩
          · (obtain ⟨_, _, hc0, hc1⟩ := hw'; go_simp; done)
          go_big_quiet_on)
       | (apply Exists.intro
          refine ⟨fun w' hw' => ?_, ?_⟩
          · (first
          | (go_at_call_of 59 (Value.int IntKind.u64 a); exact hw'.call (Za.out _))
          | (go_at_call_of 59 (Value.int IntKind.u64 b); exact hw'.call (Zb.out _))
          | (go_at_call 64; exact hw'.call (If.out _)))
          go_big_quiet_on)))
  refine wpQuiet_nil ?_
  rintro w91 ⟨l91b, g91, h91_0, h91_1⟩
  have l91 : w.heap.size < w91.heap.size := Nat.lt_of_lt_of_le l91b g91.2
  go_wp2_with (first
    | (go_at_call_of 59 (Value.int IntKind.u64 a); refine (Za.out _).mono ?_; rintro e w1 ⟨rfl, g1⟩; obtain ⟨l1_0, h1_0_0, h1_0_1⟩ := g1.c2 (w.heap.size) (.int .i64 (f.fractionBits : Int)) (.int .i64 (f.exponentBits : Int)))
    | (go_at_call_of 59 (Value.int IntKind.u64 b); refine (Zb.out _).mono ?_; rintro e w2 ⟨rfl, g2⟩; obtain ⟨l2_0, h2_0_0, h2_0_1⟩ := g2.c2 (w.heap.size) (.int .i64 (f.fractionBits : Int)) (.int .i64 (f.exponentBits : Int)))
    | (go_at_call 64; refine (If.out _).mono ?_; rintro e w3 ⟨rfl, g3⟩; obtain ⟨l3_0, h3_0_0, h3_0_1⟩ := g3.c2 (w.heap.size) (.int .i64 (f.fractionBits : Int)) (.int .i64 (f.exponentBits : Int)))
    | (go_at_call 60; refine (Sg.out _).mono ?_; rintro e w4 ⟨rfl, g4⟩; obtain ⟨l4_0, h4_0_0, h4_0_1⟩ := g4.c2 (w.heap.size) (.int .i64 (f.fractionBits : Int)) (.int .i64 (f.exponentBits : Int))))
  all_goals go_ret
  all_goals go_light
  all_goals refine ⟨by first | rfl | simp | (simp; omega), ?_⟩
  all_goals repeat (first | exact Grew.refl _ | assumption | refine Grew.drew ?_ | refine Grew.drewN ?_ _ | refine Grew.alloc ?_ _ | refine Grew.set ?_ (by first | (simp; done) | (simp; omega) | omega) _ | refine Grew.trans ?_ (by assumption))
set_option maxRecDepth 100000 in
set_option maxHeartbeats 16000000 in
theorem Mul_oz {f : Ieee.Format} (a b x y I S T R : Int) (w : World) (hi : (x == I) = false) (x0 : (x == 0) = false) (hk : (y == I) = false) (y0 : (y == 0) = true) (hT : bits .and .u64 (bits .xor .u64 a b) S = T)
    (Za : CG 59 #[.agg #[.int .i64 (f.fractionBits : Int), .int .i64 (f.exponentBits : Int)], .int .u64 a] (.int .u64 x))
    (Zb : CG 59 #[.agg #[.int .i64 (f.fractionBits : Int), .int .i64 (f.exponentBits : Int)], .int .u64 b] (.int .u64 y))
    (If : CG 64 #[.agg #[.int .i64 (f.fractionBits : Int), .int .i64 (f.exponentBits : Int)]] (.int .u64 I))
    (Sg : CG 60 #[.agg #[.int .i64 (f.fractionBits : Int), .int .i64 (f.exponentBits : Int)]] (.int .u64 S))
    (Pd : CG 95 #[.agg #[.int .i64 (f.fractionBits : Int), .int .i64 (f.exponentBits : Int)], .int .u64 a, .int .u64 b] (.int .u64 R)) :
    Calls Tryd.prog 68 #[.agg #[.int .i64 (f.fractionBits : Int), .int .i64 (f.exponentBits : Int)], .int .u64 a, .int .u64 b] w fun en w' => en = .returned (.int .u64 R) ∧ Grew w w' := by
  go_enter Tryd.func68, Tryd.ntmps68
  go_wp2_with (first
    | (go_at_call_of 59 (Value.int IntKind.u64 a); refine (Za.out _).mono ?_; rintro e w1 ⟨rfl, g1⟩; obtain ⟨l1_0, h1_0_0, h1_0_1⟩ := g1.c2 (w.heap.size) (.int .i64 (f.fractionBits : Int)) (.int .i64 (f.exponentBits : Int)))
    | (go_at_call_of 59 (Value.int IntKind.u64 b); refine (Zb.out _).mono ?_; rintro e w2 ⟨rfl, g2⟩; obtain ⟨l2_0, h2_0_0, h2_0_1⟩ := g2.c2 (w.heap.size) (.int .i64 (f.fractionBits : Int)) (.int .i64 (f.exponentBits : Int)))
    | (go_at_call 64; refine (If.out _).mono ?_; rintro e w3 ⟨rfl, g3⟩; obtain ⟨l3_0, h3_0_0, h3_0_1⟩ := g3.c2 (w.heap.size) (.int .i64 (f.fractionBits : Int)) (.int .i64 (f.exponentBits : Int)))
    | (go_at_call 60; refine (Sg.out _).mono ?_; rintro e w4 ⟨rfl, g4⟩; obtain ⟨l4_0, h4_0_0, h4_0_1⟩ := g4.c2 (w.heap.size) (.int .i64 (f.fractionBits : Int)) (.int .i64 (f.exponentBits : Int)))
    | (go_at_call 95; refine (Pd.out _).mono ?_; rintro e w5 ⟨rfl, g5⟩; obtain ⟨l5_0, h5_0_0, h5_0_1⟩ := g5.c2 (w.heap.size) (.int .i64 (f.fractionBits : Int)) (.int .i64 (f.exponentBits : Int))))
  refine wp_region_cl (B := w.heap.size) (c0 := .int .i64 (f.fractionBits : Int)) (c1 := .int .i64 (f.exponentBits : Int)) (by kernel_rfl) (by kernel_rfl) (by first | assumption | (simp; omega) | omega) (by first | assumption | go_simp) (by first | assumption | go_simp) ?_
  repeat (first
    | go_big_quiet_skip
    | (go_big_quiet_want
       go_big_quiet_op
       first
       | go_big_quiet_on
       | (refine ⟨_, fun _ _ => rfl, ?_⟩; go_big_quiet_on)
       | (refine ⟨.agg #[.int .i64 (f.fractionBits : Int), .int .i64 (f.exponentBits : Int)], fun w' hw' => ?_, ?_⟩
          · (obtain ⟨_, _, hc0, hc1⟩ := hw'; go_simp; done)
          go_big_quiet_on)
       | (apply Exists.intro
          refine ⟨fun w' hw' => ?_, ?_⟩
          · (first
          | (go_at_call_of 59 (Value.int IntKind.u64 a); exact hw'.call (Za.out _))
          | (go_at_call_of 59 (Value.int IntKind.u64 b); exact hw'.call (Zb.out _))
          | (go_at_call 64; exact hw'.call (If.out _)))
          go_big_quiet_on)))
  refine wpQuiet_nil ?_
  rintro w90 ⟨l90b, g90, h90_0, h90_1⟩
  have l90 : w.heap.size < w90.heap.size := Nat.lt_of_lt_of_le l90b g90.2
  go_wp2_with (first
    | (go_at_call_of 59 (Value.int IntKind.u64 a); refine (Za.out _).mono ?_; rintro e w1 ⟨rfl, g1⟩; obtain ⟨l1_0, h1_0_0, h1_0_1⟩ := g1.c2 (w.heap.size) (.int .i64 (f.fractionBits : Int)) (.int .i64 (f.exponentBits : Int)))
    | (go_at_call_of 59 (Value.int IntKind.u64 b); refine (Zb.out _).mono ?_; rintro e w2 ⟨rfl, g2⟩; obtain ⟨l2_0, h2_0_0, h2_0_1⟩ := g2.c2 (w.heap.size) (.int .i64 (f.fractionBits : Int)) (.int .i64 (f.exponentBits : Int)))
    | (go_at_call 64; refine (If.out _).mono ?_; rintro e w3 ⟨rfl, g3⟩; obtain ⟨l3_0, h3_0_0, h3_0_1⟩ := g3.c2 (w.heap.size) (.int .i64 (f.fractionBits : Int)) (.int .i64 (f.exponentBits : Int)))
    | (go_at_call 60; refine (Sg.out _).mono ?_; rintro e w4 ⟨rfl, g4⟩; obtain ⟨l4_0, h4_0_0, h4_0_1⟩ := g4.c2 (w.heap.size) (.int .i64 (f.fractionBits : Int)) (.int .i64 (f.exponentBits : Int)))
    | (go_at_call 95; refine (Pd.out _).mono ?_; rintro e w5 ⟨rfl, g5⟩; obtain ⟨l5_0, h5_0_0, h5_0_1⟩ := g5.c2 (w.heap.size) (.int .i64 (f.fractionBits : Int)) (.int .i64 (f.exponentBits : Int))))
  refine wp_region_cl (B := w.heap.size) (c0 := .int .i64 (f.fractionBits : Int)) (c1 := .int .i64 (f.exponentBits : Int)) (by kernel_rfl) (by kernel_rfl) (by first | assumption | (simp; omega) | omega) (by first | assumption | go_simp) (by first | assumption | go_simp) ?_
  repeat (first
    | go_big_quiet_skip
    | (go_big_quiet_want
       go_big_quiet_op
       first
       | go_big_quiet_on
       | (refine ⟨_, fun _ _ => rfl, ?_⟩; go_big_quiet_on)
       | (refine ⟨.agg #[.int .i64 (f.fractionBits : Int), .int .i64 (f.exponentBits : Int)], fun w' hw' => ?_, ?_⟩
          · (obtain ⟨_, _, hc0, hc1⟩ := hw'; go_simp; done)
          go_big_quiet_on)
       | (apply Exists.intro
          refine ⟨fun w' hw' => ?_, ?_⟩
          · (first
          | (go_at_call_of 59 (Value.int IntKind.u64 a); exact hw'.call (Za.out _))
          | (go_at_call_of 59 (Value.int IntKind.u64 b); exact hw'.call (Zb.out _))
          | (go_at_call 64; exact hw'.call (If.out _)))
          go_big_quiet_on)))
  refine wpQuiet_nil ?_
  rintro w91 ⟨l91b, g91, h91_0, h91_1⟩
  have l91 : w.heap.size < w91.heap.size := Nat.lt_of_lt_of_le l91b g91.2
  go_wp2_with (first
    | (go_at_call_of 59 (Value.int IntKind.u64 a); refine (Za.out _).mono ?_; rintro e w1 ⟨rfl, g1⟩; obtain ⟨l1_0, h1_0_0, h1_0_1⟩ := g1.c2 (w.heap.size) (.int .i64 (f.fractionBits : Int)) (.int .i64 (f.exponentBits : Int)))
    | (go_at_call_of 59 (Value.int IntKind.u64 b); refine (Zb.out _).mono ?_; rintro e w2 ⟨rfl, g2⟩; obtain ⟨l2_0, h2_0_0, h2_0_1⟩ := g2.c2 (w.heap.size) (.int .i64 (f.fractionBits : Int)) (.int .i64 (f.exponentBits : Int)))
    | (go_at_call 64; refine (If.out _).mono ?_; rintro e w3 ⟨rfl, g3⟩; obtain ⟨l3_0, h3_0_0, h3_0_1⟩ := g3.c2 (w.heap.size) (.int .i64 (f.fractionBits : Int)) (.int .i64 (f.exponentBits : Int)))
    | (go_at_call 60; refine (Sg.out _).mono ?_; rintro e w4 ⟨rfl, g4⟩; obtain ⟨l4_0, h4_0_0, h4_0_1⟩ := g4.c2 (w.heap.size) (.int .i64 (f.fractionBits : Int)) (.int .i64 (f.exponentBits : Int)))
    | (go_at_call 95; refine (Pd.out _).mono ?_; rintro e w5 ⟨rfl, g5⟩; obtain ⟨l5_0, h5_0_0, h5_0_1⟩ := g5.c2 (w.heap.size) (.int .i64 (f.fractionBits : Int)) (.int .i64 (f.exponentBits : Int))))
  all_goals go_ret
  all_goals go_light
  all_goals refine ⟨by first | rfl | simp | (simp; omega), ?_⟩
  all_goals repeat (first | exact Grew.refl _ | assumption | refine Grew.drew ?_ | refine Grew.drewN ?_ _ | refine Grew.alloc ?_ _ | refine Grew.set ?_ (by first | (simp; done) | (simp; omega) | omega) _ | refine Grew.trans ?_ (by assumption))
set_option maxRecDepth 100000 in
set_option maxHeartbeats 16000000 in
theorem Mul_oo {f : Ieee.Format} (a b x y I S T R : Int) (w : World) (hi : (x == I) = false) (x0 : (x == 0) = false) (hk : (y == I) = false) (y0 : (y == 0) = false) (hT : bits .and .u64 (bits .xor .u64 a b) S = T)
    (Za : CG 59 #[.agg #[.int .i64 (f.fractionBits : Int), .int .i64 (f.exponentBits : Int)], .int .u64 a] (.int .u64 x))
    (Zb : CG 59 #[.agg #[.int .i64 (f.fractionBits : Int), .int .i64 (f.exponentBits : Int)], .int .u64 b] (.int .u64 y))
    (If : CG 64 #[.agg #[.int .i64 (f.fractionBits : Int), .int .i64 (f.exponentBits : Int)]] (.int .u64 I))
    (Sg : CG 60 #[.agg #[.int .i64 (f.fractionBits : Int), .int .i64 (f.exponentBits : Int)]] (.int .u64 S))
    (Pd : CG 95 #[.agg #[.int .i64 (f.fractionBits : Int), .int .i64 (f.exponentBits : Int)], .int .u64 a, .int .u64 b] (.int .u64 R)) :
    Calls Tryd.prog 68 #[.agg #[.int .i64 (f.fractionBits : Int), .int .i64 (f.exponentBits : Int)], .int .u64 a, .int .u64 b] w fun en w' => en = .returned (.int .u64 R) ∧ Grew w w' := by
  go_enter Tryd.func68, Tryd.ntmps68
  go_wp2_with (first
    | (go_at_call_of 59 (Value.int IntKind.u64 a); refine (Za.out _).mono ?_; rintro e w1 ⟨rfl, g1⟩; obtain ⟨l1_0, h1_0_0, h1_0_1⟩ := g1.c2 (w.heap.size) (.int .i64 (f.fractionBits : Int)) (.int .i64 (f.exponentBits : Int)))
    | (go_at_call_of 59 (Value.int IntKind.u64 b); refine (Zb.out _).mono ?_; rintro e w2 ⟨rfl, g2⟩; obtain ⟨l2_0, h2_0_0, h2_0_1⟩ := g2.c2 (w.heap.size) (.int .i64 (f.fractionBits : Int)) (.int .i64 (f.exponentBits : Int)))
    | (go_at_call 64; refine (If.out _).mono ?_; rintro e w3 ⟨rfl, g3⟩; obtain ⟨l3_0, h3_0_0, h3_0_1⟩ := g3.c2 (w.heap.size) (.int .i64 (f.fractionBits : Int)) (.int .i64 (f.exponentBits : Int)))
    | (go_at_call 60; refine (Sg.out _).mono ?_; rintro e w4 ⟨rfl, g4⟩; obtain ⟨l4_0, h4_0_0, h4_0_1⟩ := g4.c2 (w.heap.size) (.int .i64 (f.fractionBits : Int)) (.int .i64 (f.exponentBits : Int)))
    | (go_at_call 95; refine (Pd.out _).mono ?_; rintro e w5 ⟨rfl, g5⟩; obtain ⟨l5_0, h5_0_0, h5_0_1⟩ := g5.c2 (w.heap.size) (.int .i64 (f.fractionBits : Int)) (.int .i64 (f.exponentBits : Int))))
  refine wp_region_cl (B := w.heap.size) (c0 := .int .i64 (f.fractionBits : Int)) (c1 := .int .i64 (f.exponentBits : Int)) (by kernel_rfl) (by kernel_rfl) (by first | assumption | (simp; omega) | omega) (by first | assumption | go_simp) (by first | assumption | go_simp) ?_
  repeat (first
    | go_big_quiet_skip
    | (go_big_quiet_want
       go_big_quiet_op
       first
       | go_big_quiet_on
       | (refine ⟨_, fun _ _ => rfl, ?_⟩; go_big_quiet_on)
       | (refine ⟨.agg #[.int .i64 (f.fractionBits : Int), .int .i64 (f.exponentBits : Int)], fun w' hw' => ?_, ?_⟩
          · (obtain ⟨_, _, hc0, hc1⟩ := hw'; go_simp; done)
          go_big_quiet_on)
       | (apply Exists.intro
          refine ⟨fun w' hw' => ?_, ?_⟩
          · (first
          | (go_at_call_of 59 (Value.int IntKind.u64 a); exact hw'.call (Za.out _))
          | (go_at_call_of 59 (Value.int IntKind.u64 b); exact hw'.call (Zb.out _))
          | (go_at_call 64; exact hw'.call (If.out _)))
          go_big_quiet_on)))
  refine wpQuiet_nil ?_
  rintro w90 ⟨l90b, g90, h90_0, h90_1⟩
  have l90 : w.heap.size < w90.heap.size := Nat.lt_of_lt_of_le l90b g90.2
  go_wp2_with (first
    | (go_at_call_of 59 (Value.int IntKind.u64 a); refine (Za.out _).mono ?_; rintro e w1 ⟨rfl, g1⟩; obtain ⟨l1_0, h1_0_0, h1_0_1⟩ := g1.c2 (w.heap.size) (.int .i64 (f.fractionBits : Int)) (.int .i64 (f.exponentBits : Int)))
    | (go_at_call_of 59 (Value.int IntKind.u64 b); refine (Zb.out _).mono ?_; rintro e w2 ⟨rfl, g2⟩; obtain ⟨l2_0, h2_0_0, h2_0_1⟩ := g2.c2 (w.heap.size) (.int .i64 (f.fractionBits : Int)) (.int .i64 (f.exponentBits : Int)))
    | (go_at_call 64; refine (If.out _).mono ?_; rintro e w3 ⟨rfl, g3⟩; obtain ⟨l3_0, h3_0_0, h3_0_1⟩ := g3.c2 (w.heap.size) (.int .i64 (f.fractionBits : Int)) (.int .i64 (f.exponentBits : Int)))
    | (go_at_call 60; refine (Sg.out _).mono ?_; rintro e w4 ⟨rfl, g4⟩; obtain ⟨l4_0, h4_0_0, h4_0_1⟩ := g4.c2 (w.heap.size) (.int .i64 (f.fractionBits : Int)) (.int .i64 (f.exponentBits : Int)))
    | (go_at_call 95; refine (Pd.out _).mono ?_; rintro e w5 ⟨rfl, g5⟩; obtain ⟨l5_0, h5_0_0, h5_0_1⟩ := g5.c2 (w.heap.size) (.int .i64 (f.fractionBits : Int)) (.int .i64 (f.exponentBits : Int))))
  refine wp_region_cl (B := w.heap.size) (c0 := .int .i64 (f.fractionBits : Int)) (c1 := .int .i64 (f.exponentBits : Int)) (by kernel_rfl) (by kernel_rfl) (by first | assumption | (simp; omega) | omega) (by first | assumption | go_simp) (by first | assumption | go_simp) ?_
  repeat (first
    | go_big_quiet_skip
    | (go_big_quiet_want
       go_big_quiet_op
       first
       | go_big_quiet_on
       | (refine ⟨_, fun _ _ => rfl, ?_⟩; go_big_quiet_on)
       | (refine ⟨.agg #[.int .i64 (f.fractionBits : Int), .int .i64 (f.exponentBits : Int)], fun w' hw' => ?_, ?_⟩
          · (obtain ⟨_, _, hc0, hc1⟩ := hw'; go_simp; done)
          go_big_quiet_on)
       | (apply Exists.intro
          refine ⟨fun w' hw' => ?_, ?_⟩
          · (first
          | (go_at_call_of 59 (Value.int IntKind.u64 a); exact hw'.call (Za.out _))
          | (go_at_call_of 59 (Value.int IntKind.u64 b); exact hw'.call (Zb.out _))
          | (go_at_call 64; exact hw'.call (If.out _)))
          go_big_quiet_on)))
  refine wpQuiet_nil ?_
  rintro w91 ⟨l91b, g91, h91_0, h91_1⟩
  have l91 : w.heap.size < w91.heap.size := Nat.lt_of_lt_of_le l91b g91.2
  go_wp2_with (first
    | (go_at_call_of 59 (Value.int IntKind.u64 a); refine (Za.out _).mono ?_; rintro e w1 ⟨rfl, g1⟩; obtain ⟨l1_0, h1_0_0, h1_0_1⟩ := g1.c2 (w.heap.size) (.int .i64 (f.fractionBits : Int)) (.int .i64 (f.exponentBits : Int)))
    | (go_at_call_of 59 (Value.int IntKind.u64 b); refine (Zb.out _).mono ?_; rintro e w2 ⟨rfl, g2⟩; obtain ⟨l2_0, h2_0_0, h2_0_1⟩ := g2.c2 (w.heap.size) (.int .i64 (f.fractionBits : Int)) (.int .i64 (f.exponentBits : Int)))
    | (go_at_call 64; refine (If.out _).mono ?_; rintro e w3 ⟨rfl, g3⟩; obtain ⟨l3_0, h3_0_0, h3_0_1⟩ := g3.c2 (w.heap.size) (.int .i64 (f.fractionBits : Int)) (.int .i64 (f.exponentBits : Int)))
    | (go_at_call 60; refine (Sg.out _).mono ?_; rintro e w4 ⟨rfl, g4⟩; obtain ⟨l4_0, h4_0_0, h4_0_1⟩ := g4.c2 (w.heap.size) (.int .i64 (f.fractionBits : Int)) (.int .i64 (f.exponentBits : Int)))
    | (go_at_call 95; refine (Pd.out _).mono ?_; rintro e w5 ⟨rfl, g5⟩; obtain ⟨l5_0, h5_0_0, h5_0_1⟩ := g5.c2 (w.heap.size) (.int .i64 (f.fractionBits : Int)) (.int .i64 (f.exponentBits : Int))))
  all_goals go_ret
  all_goals go_light
  all_goals refine ⟨by first | rfl | simp | (simp; omega), ?_⟩
  all_goals repeat (first | exact Grew.refl _ | assumption | refine Grew.drew ?_ | refine Grew.drewN ?_ _ | refine Grew.alloc ?_ _ | refine Grew.set ?_ (by first | (simp; done) | (simp; omega) | omega) _ | refine Grew.trans ?_ (by assumption))
end Go.Proofs.YtjkebimmddlccaaDoor
