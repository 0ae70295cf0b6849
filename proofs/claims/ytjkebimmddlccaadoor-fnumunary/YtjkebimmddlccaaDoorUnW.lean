/-
  The walks of the document's Unary; no statement is proved here.
-/
import Derived.Test.YtjkebimmddlccaaDoorCkW
import Derived.Test.YtjkebimmddlccaaDoorRefK
namespace Go.Proofs.YtjkebimmddlccaaDoor
open Go.RowKit
set_option linter.unusedVariables false
set_option linter.unusedSimpArgs false

set_option maxRecDepth 100000 in
set_option maxHeartbeats 2000000 in
theorem Un_0 {f : Ieee.Format} (k a A x I S R : Int) (w : World) 
    (U1 : CG 58 #[.agg #[.int .i64 (f.fractionBits : Int), .int .i64 (f.exponentBits : Int)], .int .u64 a] (.int .u64 A))
    (Za : CG 59 #[.agg #[.int .i64 (f.fractionBits : Int), .int .i64 (f.exponentBits : Int)], .int .u64 A] (.int .u64 x)) :
    Calls Tryd.prog 29 #[.agg #[.int .i64 (f.fractionBits : Int), .int .i64 (f.exponentBits : Int)], .int .i64 0, .int .u64 a] w fun en w' => en = .returned (.int .u64 x) ∧ Grew w w' := by
  go_enter Tryd.func29, Tryd.ntmps29
  go_wp2_with (first
    | (go_at_call 58; refine (U1.out _).mono ?_; rintro en wq ⟨rfl, gq⟩; obtain ⟨lq_0, hq_0_0, hq_0_1⟩ := gq.c2 (w.heap.size) (.int .i64 (f.fractionBits : Int)) (.int .i64 (f.exponentBits : Int)))
    | (go_at_call 59; refine (Za.out _).mono ?_; rintro en wq ⟨rfl, gq⟩; obtain ⟨lq_0, hq_0_0, hq_0_1⟩ := gq.c2 (w.heap.size) (.int .i64 (f.fractionBits : Int)) (.int .i64 (f.exponentBits : Int))))
  all_goals (first | (
    refine wp_region_ck [(w.heap.size, 0, .int .i64 (f.fractionBits : Int)), (w.heap.size, 1, .int .i64 (f.exponentBits : Int))] (by kernel_rfl) (by kernel_rfl) ⟨⟨by first | (simp; done) | (simp; omega) | omega, by go_simp⟩, ⟨by first | (simp; done) | (simp; omega) | omega, by go_simp⟩, trivial⟩ ?_
    repeat (first
      | go_big_quiet_skip
      | (go_big_quiet_want
         go_big_quiet_op
         first
         | go_big_quiet_on
         | (refine ⟨_, fun _ _ => rfl, ?_⟩; go_big_quiet_on)
         | (refine ⟨.agg #[.int .i64 (f.fractionBits : Int), .int .i64 (f.exponentBits : Int)], fun w' hw' => ?_, ?_⟩
            · (obtain ⟨_, ⟨_, hc0⟩, ⟨_, hc1⟩, _⟩ := hw'; go_simp; done)
            go_big_quiet_on)
         | (apply Exists.intro
            refine ⟨fun w' hw' => ?_, ?_⟩
            · (first
            | (go_at_call 58; exact hw'.call (U1.out _))
            | (go_at_call 59; exact hw'.call (Za.out _)))
            go_big_quiet_on)))
    refine wpQuiet_nil ?_
    rintro w80 ⟨g80, ⟨b80_0, c80_0⟩, ⟨b80_1, c80_1⟩, _⟩
    have n80_0 : w.heap.size < w80.heap.size := Nat.lt_of_lt_of_le b80_0 g80.2
    go_wp2_with (first
    | (go_at_call 58; refine (U1.out _).mono ?_; rintro en wq ⟨rfl, gq⟩; obtain ⟨lq_0, hq_0_0, hq_0_1⟩ := gq.c2 (w.heap.size) (.int .i64 (f.fractionBits : Int)) (.int .i64 (f.exponentBits : Int)))
    | (go_at_call 59; refine (Za.out _).mono ?_; rintro en wq ⟨rfl, gq⟩; obtain ⟨lq_0, hq_0_0, hq_0_1⟩ := gq.c2 (w.heap.size) (.int .i64 (f.fractionBits : Int)) (.int .i64 (f.exponentBits : Int))))) | skip)
  all_goals (first | (
    refine wp_region_ck [(w.heap.size, 0, .int .i64 (f.fractionBits : Int)), (w.heap.size, 1, .int .i64 (f.exponentBits : Int))] (by kernel_rfl) (by kernel_rfl) ⟨⟨by first | (simp; done) | (simp; omega) | omega, by go_simp⟩, ⟨by first | (simp; done) | (simp; omega) | omega, by go_simp⟩, trivial⟩ ?_
    repeat (first
      | go_big_quiet_skip
      | (go_big_quiet_want
         go_big_quiet_op
         first
         | go_big_quiet_on
         | (refine ⟨_, fun _ _ => rfl, ?_⟩; go_big_quiet_on)
         | (refine ⟨.agg #[.int .i64 (f.fractionBits : Int), .int .i64 (f.exponentBits : Int)], fun w' hw' => ?_, ?_⟩
            · (obtain ⟨_, ⟨_, hc0⟩, ⟨_, hc1⟩, _⟩ := hw'; go_simp; done)
            go_big_quiet_on)
         | (apply Exists.intro
            refine ⟨fun w' hw' => ?_, ?_⟩
            · (first
            | (go_at_call 58; exact hw'.call (U1.out _))
            | (go_at_call 59; exact hw'.call (Za.out _)))
            go_big_quiet_on)))
    refine wpQuiet_nil ?_
    rintro w81 ⟨g81, ⟨b81_0, c81_0⟩, ⟨b81_1, c81_1⟩, _⟩
    have n81_0 : w.heap.size < w81.heap.size := Nat.lt_of_lt_of_le b81_0 g81.2
    go_wp2_with (first
    | (go_at_call 58; refine (U1.out _).mono ?_; rintro en wq ⟨rfl, gq⟩; obtain ⟨lq_0, hq_0_0, hq_0_1⟩ := gq.c2 (w.heap.size) (.int .i64 (f.fractionBits : Int)) (.int .i64 (f.exponentBits : Int)))
    | (go_at_call 59; refine (Za.out _).mono ?_; rintro en wq ⟨rfl, gq⟩; obtain ⟨lq_0, hq_0_0, hq_0_1⟩ := gq.c2 (w.heap.size) (.int .i64 (f.fractionBits : Int)) (.int .i64 (f.exponentBits : Int))))) | skip)
  all_goals (first | (
    refine wp_region_ck [(w.heap.size, 0, .int .i64 (f.fractionBits : Int)), (w.heap.size, 1, .int .i64 (f.exponentBits : Int))] (by kernel_rfl) (by kernel_rfl) ⟨⟨by first | (simp; done) | (simp; omega) | omega, by go_simp⟩, ⟨by first | (simp; done) | (simp; omega) | omega, by go_simp⟩, trivial⟩ ?_
    repeat (first
      | go_big_quiet_skip
      | (go_big_quiet_want
         go_big_quiet_op
         first
         | go_big_quiet_on
         | (refine ⟨_, fun _ _ => rfl, ?_⟩; go_big_quiet_on)
         | (refine ⟨.agg #[.int .i64 (f.fractionBits : Int), .int .i64 (f.exponentBits : Int)], fun w' hw' => ?_, ?_⟩
            · (obtain ⟨_, ⟨_, hc0⟩, ⟨_, hc1⟩, _⟩ := hw'; go_simp; done)
            go_big_quiet_on)
         | (apply Exists.intro
            refine ⟨fun w' hw' => ?_, ?_⟩
            · (first
            | (go_at_call 58; exact hw'.call (U1.out _))
            | (go_at_call 59; exact hw'.call (Za.out _)))
            go_big_quiet_on)))
    refine wpQuiet_nil ?_
    rintro w82 ⟨g82, ⟨b82_0, c82_0⟩, ⟨b82_1, c82_1⟩, _⟩
    have n82_0 : w.heap.size < w82.heap.size := Nat.lt_of_lt_of_le b82_0 g82.2
    go_wp2_with (first
    | (go_at_call 58; refine (U1.out _).mono ?_; rintro en wq ⟨rfl, gq⟩; obtain ⟨lq_0, hq_0_0, hq_0_1⟩ := gq.c2 (w.heap.size) (.int .i64 (f.fractionBits : Int)) (.int .i64 (f.exponentBits : Int)))
    | (go_at_call 59; refine (Za.out _).mono ?_; rintro en wq ⟨rfl, gq⟩; obtain ⟨lq_0, hq_0_0, hq_0_1⟩ := gq.c2 (w.heap.size) (.int .i64 (f.fractionBits : Int)) (.int .i64 (f.exponentBits : Int))))) | skip)
  all_goals go_ret
  all_goals go_light
  all_goals refine ⟨by first | rfl | simp, ?_⟩
  all_goals repeat (first | exact Grew.refl _ | assumption | refine Grew.drew ?_ | refine Grew.drewN ?_ _ | refine Grew.alloc ?_ _ | refine Grew.trans ?_ (by assumption))
set_option maxRecDepth 100000 in
set_option maxHeartbeats 2000000 in
theorem Un_1 {f : Ieee.Format} (k a A x I S R : Int) (w : World) 
    (U1 : CG 58 #[.agg #[.int .i64 (f.fractionBits : Int), .int .i64 (f.exponentBits : Int)], .int .u64 a] (.int .u64 A))
    (Sg : CG 60 #[.agg #[.int .i64 (f.fractionBits : Int), .int .i64 (f.exponentBits : Int)]] (.int .u64 S)) :
    Calls Tryd.prog 29 #[.agg #[.int .i64 (f.fractionBits : Int), .int .i64 (f.exponentBits : Int)], .int .i64 1, .int .u64 a] w fun en w' => en = .returned (.int .u64 (bits .xor .u64 A S)) ∧ Grew w w' := by
  go_enter Tryd.func29, Tryd.ntmps29
  go_wp2_with (first
    | (go_at_call 58; refine (U1.out _).mono ?_; rintro en wq ⟨rfl, gq⟩; obtain ⟨lq_0, hq_0_0, hq_0_1⟩ := gq.c2 (w.heap.size) (.int .i64 (f.fractionBits : Int)) (.int .i64 (f.exponentBits : Int)))
    | (go_at_call 60; refine (Sg.out _).mono ?_; rintro en wq ⟨rfl, gq⟩; obtain ⟨lq_0, hq_0_0, hq_0_1⟩ := gq.c2 (w.heap.size) (.int .i64 (f.fractionBits : Int)) (.int .i64 (f.exponentBits : Int))))
  all_goals (first | (
    refine wp_region_ck [(w.heap.size, 0, .int .i64 (f.fractionBits : Int)), (w.heap.size, 1, .int .i64 (f.exponentBits : Int))] (by kernel_rfl) (by kernel_rfl) ⟨⟨by first | (simp; done) | (simp; omega) | omega, by go_simp⟩, ⟨by first | (simp; done) | (simp; omega) | omega, by go_simp⟩, trivial⟩ ?_
    repeat (first
      | go_big_quiet_skip
      | (go_big_quiet_want
         go_big_quiet_op
         first
         | go_big_quiet_on
         | (refine ⟨_, fun _ _ => rfl, ?_⟩; go_big_quiet_on)
         | (refine ⟨.agg #[.int .i64 (f.fractionBits : Int), .int .i64 (f.exponentBits : Int)], fun w' hw' => ?_, ?_⟩
            · (obtain ⟨_, ⟨_, hc0⟩, ⟨_, hc1⟩, _⟩ := hw'; go_simp; done)
            go_big_quiet_on)
         | (apply Exists.intro
            refine ⟨fun w' hw' => ?_, ?_⟩
            · (first
            | (go_at_call 58; exact hw'.call (U1.out _))
            | (go_at_call 60; exact hw'.call (Sg.out _)))
            go_big_quiet_on)))
    refine wpQuiet_nil ?_
    rintro w80 ⟨g80, ⟨b80_0, c80_0⟩, ⟨b80_1, c80_1⟩, _⟩
    have n80_0 : w.heap.size < w80.heap.size := Nat.lt_of_lt_of_le b80_0 g80.2
    go_wp2_with (first
    | (go_at_call 58; refine (U1.out _).mono ?_; rintro en wq ⟨rfl, gq⟩; obtain ⟨lq_0, hq_0_0, hq_0_1⟩ := gq.c2 (w.heap.size) (.int .i64 (f.fractionBits : Int)) (.int .i64 (f.exponentBits : Int)))
    | (go_at_call 60; refine (Sg.out _).mono ?_; rintro en wq ⟨rfl, gq⟩; obtain ⟨lq_0, hq_0_0, hq_0_1⟩ := gq.c2 (w.heap.size) (.int .i64 (f.fractionBits : Int)) (.int .i64 (f.exponentBits : Int))))) | skip)
  all_goals (first | (
    refine wp_region_ck [(w.heap.size, 0, .int .i64 (f.fractionBits : Int)), (w.heap.size, 1, .int .i64 (f.exponentBits : Int))] (by kernel_rfl) (by kernel_rfl) ⟨⟨by first | (simp; done) | (simp; omega) | omega, by go_simp⟩, ⟨by first | (simp; done) | (simp; omega) | omega, by go_simp⟩, trivial⟩ ?_
    repeat (first
      | go_big_quiet_skip
      | (go_big_quiet_want
         go_big_quiet_op
         first
         | go_big_quiet_on
         | (refine ⟨_, fun _ _ => rfl, ?_⟩; go_big_quiet_on)
         | (refine ⟨.agg #[.int .i64 (f.fractionBits : Int), .int .i64 (f.exponentBits : Int)], fun w' hw' => ?_, ?_⟩
            · (obtain ⟨_, ⟨_, hc0⟩, ⟨_, hc1⟩, _⟩ := hw'; go_simp; done)
            go_big_quiet_on)
         | (apply Exists.intro
            refine ⟨fun w' hw' => ?_, ?_⟩
            · (first
            | (go_at_call 58; exact hw'.call (U1.out _))
            | (go_at_call 60; exact hw'.call (Sg.out _)))
            go_big_quiet_on)))
    refine wpQuiet_nil ?_
    rintro w81 ⟨g81, ⟨b81_0, c81_0⟩, ⟨b81_1, c81_1⟩, _⟩
    have n81_0 : w.heap.size < w81.heap.size := Nat.lt_of_lt_of_le b81_0 g81.2
    go_wp2_with (first
    | (go_at_call 58; refine (U1.out _).mono ?_; rintro en wq ⟨rfl, gq⟩; obtain ⟨lq_0, hq_0_0, hq_0_1⟩ := gq.c2 (w.heap.size) (.int .i64 (f.fractionBits : Int)) (.int .i64 (f.exponentBits : Int)))
    | (go_at_call 60; refine (Sg.out _).mono ?_; rintro en wq ⟨rfl, gq⟩; obtain ⟨lq_0, hq_0_0, hq_0_1⟩ := gq.c2 (w.heap.size) (.int .i64 (f.fractionBits : Int)) (.int .i64 (f.exponentBits : Int))))) | skip)
  all_goals (first | (
    refine wp_region_ck [(w.heap.size, 0, .int .i64 (f.fractionBits : Int)), (w.heap.size, 1, .int .i64 (f.exponentBits : Int))] (by kernel_rfl) (by kernel_rfl) ⟨⟨by first | (simp; done) | (simp; omega) | omega, by go_simp⟩, ⟨by first | (simp; done) | (simp; omega) | omega, by go_simp⟩, trivial⟩ ?_
    repeat (first
      | go_big_quiet_skip
      | (go_big_quiet_want
         go_big_quiet_op
         first
         | go_big_quiet_on
         | (refine ⟨_, fun _ _ => rfl, ?_⟩; go_big_quiet_on)
         | (refine ⟨.agg #[.int .i64 (f.fractionBits : Int), .int .i64 (f.exponentBits : Int)], fun w' hw' => ?_, ?_⟩
            · (obtain ⟨_, ⟨_, hc0⟩, ⟨_, hc1⟩, _⟩ := hw'; go_simp; done)
            go_big_quiet_on)
         | (apply Exists.intro
            refine ⟨fun w' hw' => ?_, ?_⟩
            · (first
            | (go_at_call 58; exact hw'.call (U1.out _))
            | (go_at_call 60; exact hw'.call (Sg.out _)))
            go_big_quiet_on)))
    refine wpQuiet_nil ?_
    rintro w82 ⟨g82, ⟨b82_0, c82_0⟩, ⟨b82_1, c82_1⟩, _⟩
    have n82_0 : w.heap.size < w82.heap.size := Nat.lt_of_lt_of_le b82_0 g82.2
    go_wp2_with (first
    | (go_at_call 58; refine (U1.out _).mono ?_; rintro en wq ⟨rfl, gq⟩; obtain ⟨lq_0, hq_0_0, hq_0_1⟩ := gq.c2 (w.heap.size) (.int .i64 (f.fractionBits : Int)) (.int .i64 (f.exponentBits : Int)))
    | (go_at_call 60; refine (Sg.out _).mono ?_; rintro en wq ⟨rfl, gq⟩; obtain ⟨lq_0, hq_0_0, hq_0_1⟩ := gq.c2 (w.heap.size) (.int .i64 (f.fractionBits : Int)) (.int .i64 (f.exponentBits : Int))))) | skip)
  all_goals go_ret
  all_goals go_light
  all_goals refine ⟨by first | rfl | simp, ?_⟩
  all_goals repeat (first | exact Grew.refl _ | assumption | refine Grew.drew ?_ | refine Grew.drewN ?_ _ | refine Grew.alloc ?_ _ | refine Grew.trans ?_ (by assumption))
set_option maxRecDepth 100000 in
set_option maxHeartbeats 2000000 in
theorem Un_nan {f : Ieee.Format} (k a A x I S R : Int) (w : World) (k0 : (k == 0) = false) (k1 : (k == 1) = false)
    (U1 : CG 58 #[.agg #[.int .i64 (f.fractionBits : Int), .int .i64 (f.exponentBits : Int)], .int .u64 a] (.int .u64 A))
    (N1 : CG 61 #[.agg #[.int .i64 (f.fractionBits : Int), .int .i64 (f.exponentBits : Int)], .int .u64 A] (.bool true))
    (Nn : CG 62 #[.agg #[.int .i64 (f.fractionBits : Int), .int .i64 (f.exponentBits : Int)]] (.int .u64 R)) :
    Calls Tryd.prog 29 #[.agg #[.int .i64 (f.fractionBits : Int), .int .i64 (f.exponentBits : Int)], .int .i64 k, .int .u64 a] w fun en w' => en = .returned (.int .u64 R) ∧ Grew w w' := by
  go_enter Tryd.func29, Tryd.ntmps29
  go_wp2_with (first
    | (go_at_call 58; refine (U1.out _).mono ?_; rintro en wq ⟨rfl, gq⟩; obtain ⟨lq_0, hq_0_0, hq_0_1⟩ := gq.c2 (w.heap.size) (.int .i64 (f.fractionBits : Int)) (.int .i64 (f.exponentBits : Int)))
    | (go_at_call 61; refine (N1.out _).mono ?_; rintro en wq ⟨rfl, gq⟩; obtain ⟨lq_0, hq_0_0, hq_0_1⟩ := gq.c2 (w.heap.size) (.int .i64 (f.fractionBits : Int)) (.int .i64 (f.exponentBits : Int)))
    | (go_at_call 62; refine (Nn.out _).mono ?_; rintro en wq ⟨rfl, gq⟩; obtain ⟨lq_0, hq_0_0, hq_0_1⟩ := gq.c2 (w.heap.size) (.int .i64 (f.fractionBits : Int)) (.int .i64 (f.exponentBits : Int))))
  all_goals (first | (
    refine wp_region_ck [(w.heap.size, 0, .int .i64 (f.fractionBits : Int)), (w.heap.size, 1, .int .i64 (f.exponentBits : Int))] (by kernel_rfl) (by kernel_rfl) ⟨⟨by first | (simp; done) | (simp; omega) | omega, by go_simp⟩, ⟨by first | (simp; done) | (simp; omega) | omega, by go_simp⟩, trivial⟩ ?_
    repeat (first
      | go_big_quiet_skip
      | (go_big_quiet_want
         go_big_quiet_op
         first
         | go_big_quiet_on
         | (refine ⟨_, fun _ _ => rfl, ?_⟩; go_big_quiet_on)
         | (refine ⟨.agg #[.int .i64 (f.fractionBits : Int), .int .i64 (f.exponentBits : Int)], fun w' hw' => ?_, ?_⟩
            · (obtain ⟨_, ⟨_, hc0⟩, ⟨_, hc1⟩, _⟩ := hw'; go_simp; done)
            go_big_quiet_on)
         | (apply Exists.intro
            refine ⟨fun w' hw' => ?_, ?_⟩
            · (first
            | (go_at_call 58; exact hw'.call (U1.out _))
            | (go_at_call 61; exact hw'.call (N1.out _))
            | (go_at_call 62; exact hw'.call (Nn.out _)))
            go_big_quiet_on)))
    refine wpQuiet_nil ?_
    rintro w80 ⟨g80, ⟨b80_0, c80_0⟩, ⟨b80_1, c80_1⟩, _⟩
    have n80_0 : w.heap.size < w80.heap.size := Nat.lt_of_lt_of_le b80_0 g80.2
    go_wp2_with (first
    | (go_at_call 58; refine (U1.out _).mono ?_; rintro en wq ⟨rfl, gq⟩; obtain ⟨lq_0, hq_0_0, hq_0_1⟩ := gq.c2 (w.heap.size) (.int .i64 (f.fractionBits : Int)) (.int .i64 (f.exponentBits : Int)))
    | (go_at_call 61; refine (N1.out _).mono ?_; rintro en wq ⟨rfl, gq⟩; obtain ⟨lq_0, hq_0_0, hq_0_1⟩ := gq.c2 (w.heap.size) (.int .i64 (f.fractionBits : Int)) (.int .i64 (f.exponentBits : Int)))
    | (go_at_call 62; refine (Nn.out _).mono ?_; rintro en wq ⟨rfl, gq⟩; obtain ⟨lq_0, hq_0_0, hq_0_1⟩ := gq.c2 (w.heap.size) (.int .i64 (f.fractionBits : Int)) (.int .i64 (f.exponentBits : Int))))) | skip)
  all_goals (first | (
    refine wp_region_ck [(w.heap.size, 0, .int .i64 (f.fractionBits : Int)), (w.heap.size, 1, .int .i64 (f.exponentBits : Int))] (by kernel_rfl) (by kernel_rfl) ⟨⟨by first | (simp; done) | (simp; omega) | omega, by go_simp⟩, ⟨by first | (simp; done) | (simp; omega) | omega, by go_simp⟩, trivial⟩ ?_
    repeat (first
      | go_big_quiet_skip
      | (go_big_quiet_want
         go_big_quiet_op
         first
         | go_big_quiet_on
         | (refine ⟨_, fun _ _ => rfl, ?_⟩; go_big_quiet_on)
         | (refine ⟨.agg #[.int .i64 (f.fractionBits : Int), .int .i64 (f.exponentBits : Int)], fun w' hw' => ?_, ?_⟩
            · (obtain ⟨_, ⟨_, hc0⟩, ⟨_, hc1⟩, _⟩ := hw'; go_simp; done)
            go_big_quiet_on)
         | (apply Exists.intro
            refine ⟨fun w' hw' => ?_, ?_⟩
            · (first
            | (go_at_call 58; exact hw'.call (U1.out _))
            | (go_at_call 61; exact hw'.call (N1.out _))
            | (go_at_call 62; exact hw'.call (Nn.out _)))
            go_big_quiet_on)))
    refine wpQuiet_nil ?_
    rintro w81 ⟨g81, ⟨b81_0, c81_0⟩, ⟨b81_1, c81_1⟩, _⟩
    have n81_0 : w.heap.size < w81.heap.size := Nat.lt_of_lt_of_le b81_0 g81.2
    go_wp2_with (first
    | (go_at_call 58; refine (U1.out _).mono ?_; rintro en wq ⟨rfl, gq⟩; obtain ⟨lq_0, hq_0_0, hq_0_1⟩ := gq.c2 (w.heap.size) (.int .i64 (f.fractionBits : Int)) (.int .i64 (f.exponentBits : Int)))
    | (go_at_call 61; refine (N1.out _).mono ?_; rintro en wq ⟨rfl, gq⟩; obtain ⟨lq_0, hq_0_0, hq_0_1⟩ := gq.c2 (w.heap.size) (.int .i64 (f.fractionBits : Int)) (.int .i64 (f.exponentBits : Int)))
    | (go_at_call 62; refine (Nn.out _).mono ?_; rintro en wq ⟨rfl, gq⟩; obtain ⟨lq_0, hq_0_0, hq_0_1⟩ := gq.c2 (w.heap.size) (.int .i64 (f.fractionBits : Int)) (.int .i64 (f.exponentBits : Int))))) | skip)
  all_goals (first | (
    refine wp_region_ck [(w.heap.size, 0, .int .i64 (f.fractionBits : Int)), (w.heap.size, 1, .int .i64 (f.exponentBits : Int))] (by kernel_rfl) (by kernel_rfl) ⟨⟨by first | (simp; done) | (simp; omega) | omega, by go_simp⟩, ⟨by first | (simp; done) | (simp; omega) | omega, by go_simp⟩, trivial⟩ ?_
    repeat (first
      | go_big_quiet_skip
      | (go_big_quiet_want
         go_big_quiet_op
         first
         | go_big_quiet_on
         | (refine ⟨_, fun _ _ => rfl, ?_⟩; go_big_quiet_on)
         | (refine ⟨.agg #[.int .i64 (f.fractionBits : Int), .int .i64 (f.exponentBits : Int)], fun w' hw' => ?_, ?_⟩
            · (obtain ⟨_, ⟨_, hc0⟩, ⟨_, hc1⟩, _⟩ := hw'; go_simp; done)
            go_big_quiet_on)
         | (apply Exists.intro
            refine ⟨fun w' hw' => ?_, ?_⟩
            · (first
            | (go_at_call 58; exact hw'.call (U1.out _))
            | (go_at_call 61; exact hw'.call (N1.out _))
            | (go_at_call 62; exact hw'.call (Nn.out _)))
            go_big_quiet_on)))
    refine wpQuiet_nil ?_
    rintro w82 ⟨g82, ⟨b82_0, c82_0⟩, ⟨b82_1, c82_1⟩, _⟩
    have n82_0 : w.heap.size < w82.heap.size := Nat.lt_of_lt_of_le b82_0 g82.2
    go_wp2_with (first
    | (go_at_call 58; refine (U1.out _).mono ?_; rintro en wq ⟨rfl, gq⟩; obtain ⟨lq_0, hq_0_0, hq_0_1⟩ := gq.c2 (w.heap.size) (.int .i64 (f.fractionBits : Int)) (.int .i64 (f.exponentBits : Int)))
    | (go_at_call 61; refine (N1.out _).mono ?_; rintro en wq ⟨rfl, gq⟩; obtain ⟨lq_0, hq_0_0, hq_0_1⟩ := gq.c2 (w.heap.size) (.int .i64 (f.fractionBits : Int)) (.int .i64 (f.exponentBits : Int)))
    | (go_at_call 62; refine (Nn.out _).mono ?_; rintro en wq ⟨rfl, gq⟩; obtain ⟨lq_0, hq_0_0, hq_0_1⟩ := gq.c2 (w.heap.size) (.int .i64 (f.fractionBits : Int)) (.int .i64 (f.exponentBits : Int))))) | skip)
  all_goals go_ret
  all_goals go_light
  all_goals refine ⟨by first | rfl | simp, ?_⟩
  all_goals repeat (first | exact Grew.refl _ | assumption | refine Grew.drew ?_ | refine Grew.drewN ?_ _ | refine Grew.alloc ?_ _ | refine Grew.trans ?_ (by assumption))
set_option maxRecDepth 100000 in
set_option maxHeartbeats 2000000 in
theorem Un_zero {f : Ieee.Format} (k a A x I S R : Int) (w : World) (k0 : (k == 0) = false) (k1 : (k == 1) = false) (x0 : (x == 0) = true)
    (U1 : CG 58 #[.agg #[.int .i64 (f.fractionBits : Int), .int .i64 (f.exponentBits : Int)], .int .u64 a] (.int .u64 A))
    (N1 : CG 61 #[.agg #[.int .i64 (f.fractionBits : Int), .int .i64 (f.exponentBits : Int)], .int .u64 A] (.bool false))
    (Za : CG 59 #[.agg #[.int .i64 (f.fractionBits : Int), .int .i64 (f.exponentBits : Int)], .int .u64 A] (.int .u64 x)) :
    Calls Tryd.prog 29 #[.agg #[.int .i64 (f.fractionBits : Int), .int .i64 (f.exponentBits : Int)], .int .i64 k, .int .u64 a] w fun en w' => en = .returned (.int .u64 A) ∧ Grew w w' := by
  go_enter Tryd.func29, Tryd.ntmps29
  go_wp2_with (first
    | (go_at_call 58; refine (U1.out _).mono ?_; rintro en wq ⟨rfl, gq⟩; obtain ⟨lq_0, hq_0_0, hq_0_1⟩ := gq.c2 (w.heap.size) (.int .i64 (f.fractionBits : Int)) (.int .i64 (f.exponentBits : Int)))
    | (go_at_call 61; refine (N1.out _).mono ?_; rintro en wq ⟨rfl, gq⟩; obtain ⟨lq_0, hq_0_0, hq_0_1⟩ := gq.c2 (w.heap.size) (.int .i64 (f.fractionBits : Int)) (.int .i64 (f.exponentBits : Int)))
    | (go_at_call 59; refine (Za.out _).mono ?_; rintro en wq ⟨rfl, gq⟩; obtain ⟨lq_0, hq_0_0, hq_0_1⟩ := gq.c2 (w.heap.size) (.int .i64 (f.fractionBits : Int)) (.int .i64 (f.exponentBits : Int))))
  all_goals (first | (
    refine wp_region_ck [(w.heap.size, 0, .int .i64 (f.fractionBits : Int)), (w.heap.size, 1, .int .i64 (f.exponentBits : Int))] (by kernel_rfl) (by kernel_rfl) ⟨⟨by first | (simp; done) | (simp; omega) | omega, by go_simp⟩, ⟨by first | (simp; done) | (simp; omega) | omega, by go_simp⟩, trivial⟩ ?_
    repeat (first
      | go_big_quiet_skip
      | (go_big_quiet_want
         go_big_quiet_op
         first
         | go_big_quiet_on
         | (refine ⟨_, fun _ _ => rfl, ?_⟩; go_big_quiet_on)
         | (refine ⟨.agg #[.int .i64 (f.fractionBits : Int), .int .i64 (f.exponentBits : Int)], fun w' hw' => ?_, ?_⟩
            · (obtain ⟨_, ⟨_, hc0⟩, ⟨_, hc1⟩, _⟩ := hw'; go_simp; done)
            go_big_quiet_on)
         | (apply Exists.intro
            refine ⟨fun w' hw' => ?_, ?_⟩
            · (first
            | (go_at_call 58; exact hw'.call (U1.out _))
            | (go_at_call 61; exact hw'.call (N1.out _))
            | (go_at_call 59; exact hw'.call (Za.out _)))
            go_big_quiet_on)))
    refine wpQuiet_nil ?_
    rintro w80 ⟨g80, ⟨b80_0, c80_0⟩, ⟨b80_1, c80_1⟩, _⟩
    have n80_0 : w.heap.size < w80.heap.size := Nat.lt_of_lt_of_le b80_0 g80.2
    go_wp2_with (first
    | (go_at_call 58; refine (U1.out _).mono ?_; rintro en wq ⟨rfl, gq⟩; obtain ⟨lq_0, hq_0_0, hq_0_1⟩ := gq.c2 (w.heap.size) (.int .i64 (f.fractionBits : Int)) (.int .i64 (f.exponentBits : Int)))
    | (go_at_call 61; refine (N1.out _).mono ?_; rintro en wq ⟨rfl, gq⟩; obtain ⟨lq_0, hq_0_0, hq_0_1⟩ := gq.c2 (w.heap.size) (.int .i64 (f.fractionBits : Int)) (.int .i64 (f.exponentBits : Int)))
    | (go_at_call 59; refine (Za.out _).mono ?_; rintro en wq ⟨rfl, gq⟩; obtain ⟨lq_0, hq_0_0, hq_0_1⟩ := gq.c2 (w.heap.size) (.int .i64 (f.fractionBits : Int)) (.int .i64 (f.exponentBits : Int))))) | skip)
  all_goals (first | (
    refine wp_region_ck [(w.heap.size, 0, .int .i64 (f.fractionBits : Int)), (w.heap.size, 1, .int .i64 (f.exponentBits : Int))] (by kernel_rfl) (by kernel_rfl) ⟨⟨by first | (simp; done) | (simp; omega) | omega, by go_simp⟩, ⟨by first | (simp; done) | (simp; omega) | omega, by go_simp⟩, trivial⟩ ?_
    repeat (first
      | go_big_quiet_skip
      | (go_big_quiet_want
         go_big_quiet_op
         first
         | go_big_quiet_on
         | (refine ⟨_, fun _ _ => rfl, ?_⟩; go_big_quiet_on)
         | (refine ⟨.agg #[.int .i64 (f.fractionBits : Int), .int .i64 (f.exponentBits : Int)], fun w' hw' => ?_, ?_⟩
            · (obtain ⟨_, ⟨_, hc0⟩, ⟨_, hc1⟩, _⟩ := hw'; go_simp; done)
            go_big_quiet_on)
         | (apply Exists.intro
            refine ⟨fun w' hw' => ?_, ?_⟩
            · (first
            | (go_at_call 58; exact hw'.call (U1.out _))
            | (go_at_call 61; exact hw'.call (N1.out _))
            | (go_at_call 59; exact hw'.call (Za.out _)))
            go_big_quiet_on)))
    refine wpQuiet_nil ?_
    rintro w81 ⟨g81, ⟨b81_0, c81_0⟩, ⟨b81_1, c81_1⟩, _⟩
    have n81_0 : w.heap.size < w81.heap.size := Nat.lt_of_lt_of_le b81_0 g81.2
    go_wp2_with (first
    | (go_at_call 58; refine (U1.out _).mono ?_; rintro en wq ⟨rfl, gq⟩; obtain ⟨lq_0, hq_0_0, hq_0_1⟩ := gq.c2 (w.heap.size) (.int .i64 (f.fractionBits : Int)) (.int .i64 (f.exponentBits : Int)))
    | (go_at_call 61; refine (N1.out _).mono ?_; rintro en wq ⟨rfl, gq⟩; obtain ⟨lq_0, hq_0_0, hq_0_1⟩ := gq.c2 (w.heap.size) (.int .i64 (f.fractionBits : Int)) (.int .i64 (f.exponentBits : Int)))
    | (go_at_call 59; refine (Za.out _).mono ?_; rintro en wq ⟨rfl, gq⟩; obtain ⟨lq_0, hq_0_0, hq_0_1⟩ := gq.c2 (w.heap.size) (.int .i64 (f.fractionBits : Int)) (.int .i64 (f.exponentBits : Int))))) | skip)
  all_goals (first | (
    refine wp_region_ck [(w.heap.size, 0, .int .i64 (f.fractionBits : Int)), (w.heap.size, 1, .int .i64 (f.exponentBits : Int))] (by kernel_rfl) (by kernel_rfl) ⟨⟨by first | (simp; done) | (simp; omega) | omega, by go_simp⟩, ⟨by first | (simp; done) | (simp; omega) | omega, by go_simp⟩, trivial⟩ ?_
    repeat (first
      | go_big_quiet_skip
      | (go_big_quiet_want
         go_big_quiet_op
         first
         | go_big_quiet_on
         | (refine ⟨_, fun _ _ => rfl, ?_⟩; go_big_quiet_on)
         | (refine ⟨.agg #[.int .i64 (f.fractionBits : Int), .int .i64 (f.exponentBits : Int)], fun w' hw' => ?_, ?_⟩
            · (obtain ⟨_, ⟨_, hc0⟩, ⟨_, hc1⟩, _⟩ := hw'; go_simp; done)
            go_big_quiet_on)
         | (apply Exists.intro
            refine ⟨fun w' hw' => ?_, ?_⟩
            · (first
            | (go_at_call 58; exact hw'.call (U1.out _))
            | (go_at_call 61; exact hw'.call (N1.out _))
            | (go_at_call 59; exact hw'.call (Za.out _)))
            go_big_quiet_on)))
    refine wpQuiet_nil ?_
    rintro w82 ⟨g82, ⟨b82_0, c82_0⟩, ⟨b82_1, c82_1⟩, _⟩
    have n82_0 : w.heap.size < w82.heap.size := Nat.lt_of_lt_of_le b82_0 g82.2
    go_wp2_with (first
    | (go_at_call 58; refine (U1.out _).mono ?_; rintro en wq ⟨rfl, gq⟩; obtain ⟨lq_0, hq_0_0, hq_0_1⟩ := gq.c2 (w.heap.size) (.int .i64 (f.fractionBits : Int)) (.int .i64 (f.exponentBits : Int)))
    | (go_at_call 61; refine (N1.out _).mono ?_; rintro en wq ⟨rfl, gq⟩; obtain ⟨lq_0, hq_0_0, hq_0_1⟩ := gq.c2 (w.heap.size) (.int .i64 (f.fractionBits : Int)) (.int .i64 (f.exponentBits : Int)))
    | (go_at_call 59; refine (Za.out _).mono ?_; rintro en wq ⟨rfl, gq⟩; obtain ⟨lq_0, hq_0_0, hq_0_1⟩ := gq.c2 (w.heap.size) (.int .i64 (f.fractionBits : Int)) (.int .i64 (f.exponentBits : Int))))) | skip)
  all_goals go_ret
  all_goals go_light
  all_goals refine ⟨by first | rfl | simp, ?_⟩
  all_goals repeat (first | exact Grew.refl _ | assumption | refine Grew.drew ?_ | refine Grew.drewN ?_ _ | refine Grew.alloc ?_ _ | refine Grew.trans ?_ (by assumption))
set_option maxRecDepth 100000 in
set_option maxHeartbeats 2000000 in
theorem Un_neg {f : Ieee.Format} (k a A x I S R : Int) (w : World) (x0 : (x == 0) = false)
    (U1 : CG 58 #[.agg #[.int .i64 (f.fractionBits : Int), .int .i64 (f.exponentBits : Int)], .int .u64 a] (.int .u64 A))
    (N1 : CG 61 #[.agg #[.int .i64 (f.fractionBits : Int), .int .i64 (f.exponentBits : Int)], .int .u64 A] (.bool false))
    (Za : CG 59 #[.agg #[.int .i64 (f.fractionBits : Int), .int .i64 (f.exponentBits : Int)], .int .u64 A] (.int .u64 x))
    (NX : CG 63 #[.agg #[.int .i64 (f.fractionBits : Int), .int .i64 (f.exponentBits : Int)], .int .u64 A] (.bool true))
    (Nn : CG 62 #[.agg #[.int .i64 (f.fractionBits : Int), .int .i64 (f.exponentBits : Int)]] (.int .u64 R)) :
    Calls Tryd.prog 29 #[.agg #[.int .i64 (f.fractionBits : Int), .int .i64 (f.exponentBits : Int)], .int .i64 6, .int .u64 a] w fun en w' => en = .returned (.int .u64 R) ∧ Grew w w' := by
  go_enter Tryd.func29, Tryd.ntmps29
  go_wp2_with (first
    | (go_at_call 58; refine (U1.out _).mono ?_; rintro en wq ⟨rfl, gq⟩; obtain ⟨lq_0, hq_0_0, hq_0_1⟩ := gq.c2 (w.heap.size) (.int .i64 (f.fractionBits : Int)) (.int .i64 (f.exponentBits : Int)))
    | (go_at_call 61; refine (N1.out _).mono ?_; rintro en wq ⟨rfl, gq⟩; obtain ⟨lq_0, hq_0_0, hq_0_1⟩ := gq.c2 (w.heap.size) (.int .i64 (f.fractionBits : Int)) (.int .i64 (f.exponentBits : Int)))
    | (go_at_call 59; refine (Za.out _).mono ?_; rintro en wq ⟨rfl, gq⟩; obtain ⟨lq_0, hq_0_0, hq_0_1⟩ := gq.c2 (w.heap.size) (.int .i64 (f.fractionBits : Int)) (.int .i64 (f.exponentBits : Int)))
    | (go_at_call 63; refine (NX.out _).mono ?_; rintro en wq ⟨rfl, gq⟩; obtain ⟨lq_0, hq_0_0, hq_0_1⟩ := gq.c2 (w.heap.size) (.int .i64 (f.fractionBits : Int)) (.int .i64 (f.exponentBits : Int)))
    | (go_at_call 62; refine (Nn.out _).mono ?_; rintro en wq ⟨rfl, gq⟩; obtain ⟨lq_0, hq_0_0, hq_0_1⟩ := gq.c2 (w.heap.size) (.int .i64 (f.fractionBits : Int)) (.int .i64 (f.exponentBits : Int))))
  all_goals (first | (
    refine wp_region_ck [(w.heap.size, 0, .int .i64 (f.fractionBits : Int)), (w.heap.size, 1, .int .i64 (f.exponentBits : Int))] (by kernel_rfl) (by kernel_rfl) ⟨⟨by first | (simp; done) | (simp; omega) | omega, by go_simp⟩, ⟨by first | (simp; done) | (simp; omega) | omega, by go_simp⟩, trivial⟩ ?_
    repeat (first
      | go_big_quiet_skip
      | (go_big_quiet_want
         go_big_quiet_op
         first
         | go_big_quiet_on
         | (refine ⟨_, fun _ _ => rfl, ?_⟩; go_big_quiet_on)
         | (refine ⟨.agg #[.int .i64 (f.fractionBits : Int), .int .i64 (f.exponentBits : Int)], fun w' hw' => ?_, ?_⟩
            · (obtain ⟨_, ⟨_, hc0⟩, ⟨_, hc1⟩, _⟩ := hw'; go_simp; done)
            go_big_quiet_on)
         | (apply Exists.intro
            refine ⟨fun w' hw' => ?_, ?_⟩
            · (first
            | (go_at_call 58; exact hw'.call (U1.out _))
            | (go_at_call 61; exact hw'.call (N1.out _))
            | (go_at_call 59; exact hw'.call (Za.out _))
            | (go_at_call 63; exact hw'.call (NX.out _))
            | (go_at_call 62; exact hw'.call (Nn.out _)))
            go_big_quiet_on)))
    refine wpQuiet_nil ?_
    rintro w80 ⟨g80, ⟨b80_0, c80_0⟩, ⟨b80_1, c80_1⟩, _⟩
    have n80_0 : w.heap.size < w80.heap.size := Nat.lt_of_lt_of_le b80_0 g80.2
    go_wp2_with (first
    | (go_at_call 58; refine (U1.out _).mono ?_; rintro en wq ⟨rfl, gq⟩; obtain ⟨lq_0, hq_0_0, hq_0_1⟩ := gq.c2 (w.heap.size) (.int .i64 (f.fractionBits : Int)) (.int .i64 (f.exponentBits : Int)))
    | (go_at_call 61; refine (N1.out _).mono ?_; rintro en wq ⟨rfl, gq⟩; obtain ⟨lq_0, hq_0_0, hq_0_1⟩ := gq.c2 (w.heap.size) (.int .i64 (f.fractionBits : Int)) (.int .i64 (f.exponentBits : Int)))
    | (go_at_call 59; refine (Za.out _).mono ?_; rintro en wq ⟨rfl, gq⟩; obtain ⟨lq_0, hq_0_0, hq_0_1⟩ := gq.c2 (w.heap.size) (.int .i64 (f.fractionBits : Int)) (.int .i64 (f.exponentBits : Int)))
    | (go_at_call 63; refine (NX.out _).mono ?_; rintro en wq ⟨rfl, gq⟩; obtain ⟨lq_0, hq_0_0, hq_0_1⟩ := gq.c2 (w.heap.size) (.int .i64 (f.fractionBits : Int)) (.int .i64 (f.exponentBits : Int)))
    | (go_at_call 62; refine (Nn.out _).mono ?_; rintro en wq ⟨rfl, gq⟩; obtain ⟨lq_0, hq_0_0, hq_0_1⟩ := gq.c2 (w.heap.size) (.int .i64 (f.fractionBits : Int)) (.int .i64 (f.exponentBits : Int))))) | skip)
  all_goals (first | (
    refine wp_region_ck [(w.heap.size, 0, .int .i64 (f.fractionBits : Int)), (w.heap.size, 1, .int .i64 (f.exponentBits : Int))] (by kernel_rfl) (by kernel_rfl) ⟨⟨by first | (simp; done) | (simp; omega) | omega, by go_simp⟩, ⟨by first | (simp; done) | (simp; omega) | omega, by go_simp⟩, trivial⟩ ?_
    repeat (first
      | go_big_quiet_skip
      | (go_big_quiet_want
         go_big_quiet_op
         first
         | go_big_quiet_on
         | (refine ⟨_, fun _ _ => rfl, ?_⟩; go_big_quiet_on)
         | (refine ⟨.agg #[.int .i64 (f.fractionBits : Int), .int .i64 (f.exponentBits : Int)], fun w' hw' => ?_, ?_⟩
            · (obtain ⟨_, ⟨_, hc0⟩, ⟨_, hc1⟩, _⟩ := hw'; go_simp; done)
            go_big_quiet_on)
         | (apply Exists.intro
            refine ⟨fun w' hw' => ?_, ?_⟩
            · (first
            | (go_at_call 58; exact hw'.call (U1.out _))
            | (go_at_call 61; exact hw'.call (N1.out _))
            | (go_at_call 59; exact hw'.call (Za.out _))
            | (go_at_call 63; exact hw'.call (NX.out _))
            | (go_at_call 62; exact hw'.call (Nn.out _)))
            go_big_quiet_on)))
    refine wpQuiet_nil ?_
    rintro w81 ⟨g81, ⟨b81_0, c81_0⟩, ⟨b81_1, c81_1⟩, _⟩
    have n81_0 : w.heap.size < w81.heap.size := Nat.lt_of_lt_of_le b81_0 g81.2
    go_wp2_with (first
    | (go_at_call 58; refine (U1.out _).mono ?_; rintro en wq ⟨rfl, gq⟩; obtain ⟨lq_0, hq_0_0, hq_0_1⟩ := gq.c2 (w.heap.size) (.int .i64 (f.fractionBits : Int)) (.int .i64 (f.exponentBits : Int)))
    | (go_at_call 61; refine (N1.out _).mono ?_; rintro en wq ⟨rfl, gq⟩; obtain ⟨lq_0, hq_0_0, hq_0_1⟩ := gq.c2 (w.heap.size) (.int .i64 (f.fractionBits : Int)) (.int .i64 (f.exponentBits : Int)))
    | (go_at_call 59; refine (Za.out _).mono ?_; rintro en wq ⟨rfl, gq⟩; obtain ⟨lq_0, hq_0_0, hq_0_1⟩ := gq.c2 (w.heap.size) (.int .i64 (f.fractionBits : Int)) (.int .i64 (f.exponentBits : Int)))
    | (go_at_call 63; refine (NX.out _).mono ?_; rintro en wq ⟨rfl, gq⟩; obtain ⟨lq_0, hq_0_0, hq_0_1⟩ := gq.c2 (w.heap.size) (.int .i64 (f.fractionBits : Int)) (.int .i64 (f.exponentBits : Int)))
    | (go_at_call 62; refine (Nn.out _).mono ?_; rintro en wq ⟨rfl, gq⟩; obtain ⟨lq_0, hq_0_0, hq_0_1⟩ := gq.c2 (w.heap.size) (.int .i64 (f.fractionBits : Int)) (.int .i64 (f.exponentBits : Int))))) | skip)
  all_goals (first | (
    refine wp_region_ck [(w.heap.size, 0, .int .i64 (f.fractionBits : Int)), (w.heap.size, 1, .int .i64 (f.exponentBits : Int))] (by kernel_rfl) (by kernel_rfl) ⟨⟨by first | (simp; done) | (simp; omega) | omega, by go_simp⟩, ⟨by first | (simp; done) | (simp; omega) | omega, by go_simp⟩, trivial⟩ ?_
    repeat (first
      | go_big_quiet_skip
      | (go_big_quiet_want
         go_big_quiet_op
         first
         | go_big_quiet_on
         | (refine ⟨_, fun _ _ => rfl, ?_⟩; go_big_quiet_on)
         | (refine ⟨.agg #[.int .i64 (f.fractionBits : Int), .int .i64 (f.exponentBits : Int)], fun w' hw' => ?_, ?_⟩
            · (obtain ⟨_, ⟨_, hc0⟩, ⟨_, hc1⟩, _⟩ := hw'; go_simp; done)
            go_big_quiet_on)
         | (apply Exists.intro
            refine ⟨fun w' hw' => ?_, ?_⟩
            · (first
            | (go_at_call 58; exact hw'.call (U1.out _))
            | (go_at_call 61; exact hw'.call (N1.out _))
            | (go_at_call 59; exact hw'.call (Za.out _))
            | (go_at_call 63; exact hw'.call (NX.out _))
            | (go_at_call 62; exact hw'.call (Nn.out _)))
            go_big_quiet_on)))
    refine wpQuiet_nil ?_
    rintro w82 ⟨g82, ⟨b82_0, c82_0⟩, ⟨b82_1, c82_1⟩, _⟩
    have n82_0 : w.heap.size < w82.heap.size := Nat.lt_of_lt_of_le b82_0 g82.2
    go_wp2_with (first
    | (go_at_call 58; refine (U1.out _).mono ?_; rintro en wq ⟨rfl, gq⟩; obtain ⟨lq_0, hq_0_0, hq_0_1⟩ := gq.c2 (w.heap.size) (.int .i64 (f.fractionBits : Int)) (.int .i64 (f.exponentBits : Int)))
    | (go_at_call 61; refine (N1.out _).mono ?_; rintro en wq ⟨rfl, gq⟩; obtain ⟨lq_0, hq_0_0, hq_0_1⟩ := gq.c2 (w.heap.size) (.int .i64 (f.fractionBits : Int)) (.int .i64 (f.exponentBits : Int)))
    | (go_at_call 59; refine (Za.out _).mono ?_; rintro en wq ⟨rfl, gq⟩; obtain ⟨lq_0, hq_0_0, hq_0_1⟩ := gq.c2 (w.heap.size) (.int .i64 (f.fractionBits : Int)) (.int .i64 (f.exponentBits : Int)))
    | (go_at_call 63; refine (NX.out _).mono ?_; rintro en wq ⟨rfl, gq⟩; obtain ⟨lq_0, hq_0_0, hq_0_1⟩ := gq.c2 (w.heap.size) (.int .i64 (f.fractionBits : Int)) (.int .i64 (f.exponentBits : Int)))
    | (go_at_call 62; refine (Nn.out _).mono ?_; rintro en wq ⟨rfl, gq⟩; obtain ⟨lq_0, hq_0_0, hq_0_1⟩ := gq.c2 (w.heap.size) (.int .i64 (f.fractionBits : Int)) (.int .i64 (f.exponentBits : Int))))) | skip)
  all_goals go_ret
  all_goals go_light
  all_goals refine ⟨by first | rfl | simp, ?_⟩
  all_goals repeat (first | exact Grew.refl _ | assumption | refine Grew.drew ?_ | refine Grew.drewN ?_ _ | refine Grew.alloc ?_ _ | refine Grew.trans ?_ (by assumption))
set_option maxRecDepth 100000 in
set_option maxHeartbeats 2000000 in
theorem Un_inf6 {f : Ieee.Format} (k a A x I S R : Int) (w : World) (x0 : (x == 0) = false) (hi : (x == I) = true)
    (U1 : CG 58 #[.agg #[.int .i64 (f.fractionBits : Int), .int .i64 (f.exponentBits : Int)], .int .u64 a] (.int .u64 A))
    (N1 : CG 61 #[.agg #[.int .i64 (f.fractionBits : Int), .int .i64 (f.exponentBits : Int)], .int .u64 A] (.bool false))
    (Za : CG 59 #[.agg #[.int .i64 (f.fractionBits : Int), .int .i64 (f.exponentBits : Int)], .int .u64 A] (.int .u64 x))
    (NX : CG 63 #[.agg #[.int .i64 (f.fractionBits : Int), .int .i64 (f.exponentBits : Int)], .int .u64 A] (.bool false))
    (If : CG 64 #[.agg #[.int .i64 (f.fractionBits : Int), .int .i64 (f.exponentBits : Int)]] (.int .u64 I)) :
    Calls Tryd.prog 29 #[.agg #[.int .i64 (f.fractionBits : Int), .int .i64 (f.exponentBits : Int)], .int .i64 6, .int .u64 a] w fun en w' => en = .returned (.int .u64 A) ∧ Grew w w' := by
  go_enter Tryd.func29, Tryd.ntmps29
  go_wp2_with (first
    | (go_at_call 58; refine (U1.out _).mono ?_; rintro en wq ⟨rfl, gq⟩; obtain ⟨lq_0, hq_0_0, hq_0_1⟩ := gq.c2 (w.heap.size) (.int .i64 (f.fractionBits : Int)) (.int .i64 (f.exponentBits : Int)))
    | (go_at_call 61; refine (N1.out _).mono ?_; rintro en wq ⟨rfl, gq⟩; obtain ⟨lq_0, hq_0_0, hq_0_1⟩ := gq.c2 (w.heap.size) (.int .i64 (f.fractionBits : Int)) (.int .i64 (f.exponentBits : Int)))
    | (go_at_call 59; refine (Za.out _).mono ?_; rintro en wq ⟨rfl, gq⟩; obtain ⟨lq_0, hq_0_0, hq_0_1⟩ := gq.c2 (w.heap.size) (.int .i64 (f.fractionBits : Int)) (.int .i64 (f.exponentBits : Int)))
    | (go_at_call 63; refine (NX.out _).mono ?_; rintro en wq ⟨rfl, gq⟩; obtain ⟨lq_0, hq_0_0, hq_0_1⟩ := gq.c2 (w.heap.size) (.int .i64 (f.fractionBits : Int)) (.int .i64 (f.exponentBits : Int)))
    | (go_at_call 64; refine (If.out _).mono ?_; rintro en wq ⟨rfl, gq⟩; obtain ⟨lq_0, hq_0_0, hq_0_1⟩ := gq.c2 (w.heap.size) (.int .i64 (f.fractionBits : Int)) (.int .i64 (f.exponentBits : Int))))
  all_goals (first | (
    refine wp_region_ck [(w.heap.size, 0, .int .i64 (f.fractionBits : Int)), (w.heap.size, 1, .int .i64 (f.exponentBits : Int))] (by kernel_rfl) (by kernel_rfl) ⟨⟨by first | (simp; done) | (simp; omega) | omega, by go_simp⟩, ⟨by first | (simp; done) | (simp; omega) | omega, by go_simp⟩, trivial⟩ ?_
    repeat (first
      | go_big_quiet_skip
      | (go_big_quiet_want
         go_big_quiet_op
         first
         | go_big_quiet_on
         | (refine ⟨_, fun _ _ => rfl, ?_⟩; go_big_quiet_on)
         | (refine ⟨.agg #[.int .i64 (f.fractionBits : Int), .int .i64 (f.exponentBits : Int)], fun w' hw' => ?_, ?_⟩
            · (obtain ⟨_, ⟨_, hc0⟩, ⟨_, hc1⟩, _⟩ := hw'; go_simp; done)
            go_big_quiet_on)
         | (apply Exists.intro
            refine ⟨fun w' hw' => ?_, ?_⟩
            · (first
            | (go_at_call 58; exact hw'.call (U1.out _))
            | (go_at_call 61; exact hw'.call (N1.out _))
            | (go_at_call 59; exact hw'.call (Za.out _))
            | (go_at_call 63; exact hw'.call (NX.out _))
            | (go_at_call 64; exact hw'.call (If.out _)))
            go_big_quiet_on)))
    refine wpQuiet_nil ?_
    rintro w80 ⟨g80, ⟨b80_0, c80_0⟩, ⟨b80_1, c80_1⟩, _⟩
    have n80_0 : w.heap.size < w80.heap.size := Nat.lt_of_lt_of_le b80_0 g80.2
    go_wp2_with (first
    | (go_at_call 58; refine (U1.out _).mono ?_; rintro en wq ⟨rfl, gq⟩; obtain ⟨lq_0, hq_0_0, hq_0_1⟩ := gq.c2 (w.heap.size) (.int .i64 (f.fractionBits : Int)) (.int .i64 (f.exponentBits : Int)))
    | (go_at_call 61; refine (N1.out _).mono ?_; rintro en wq ⟨rfl, gq⟩; obtain ⟨lq_0, hq_0_0, hq_0_1⟩ := gq.c2 (w.heap.size) (.int .i64 (f.fractionBits : Int)) (.int .i64 (f.exponentBits : Int)))
    | (go_at_call 59; refine (Za.out _).mono ?_; rintro en wq ⟨rfl, gq⟩; obtain ⟨lq_0, hq_0_0, hq_0_1⟩ := gq.c2 (w.heap.size) (.int .i64 (f.fractionBits : Int)) (.int .i64 (f.exponentBits : Int)))
    | (go_at_call 63; refine (NX.out _).mono ?_; rintro en wq ⟨rfl, gq⟩; obtain ⟨lq_0, hq_0_0, hq_0_1⟩ := gq.c2 (w.heap.size) (.int .i64 (f.fractionBits : Int)) (.int .i64 (f.exponentBits : Int)))
    | (go_at_call 64; refine (If.out _).mono ?_; rintro en wq ⟨rfl, gq⟩; obtain ⟨lq_0, hq_0_0, hq_0_1⟩ := gq.c2 (w.heap.size) (.int .i64 (f.fractionBits : Int)) (.int .i64 (f.exponentBits : Int))))) | skip)
  all_goals (first | (
    refine wp_region_ck [(w.heap.size, 0, .int .i64 (f.fractionBits : Int)), (w.heap.size, 1, .int .i64 (f.exponentBits : Int))] (by kernel_rfl) (by kernel_rfl) ⟨⟨by first | (simp; done) | (simp; omega) | omega, by go_simp⟩, ⟨by first | (simp; done) | (simp; omega) | omega, by go_simp⟩, trivial⟩ ?_
    repeat (first
      | go_big_quiet_skip
      | (go_big_quiet_want
         go_big_quiet_op
         first
         | go_big_quiet_on
         | (refine ⟨_, fun _ _ => rfl, ?_⟩; go_big_quiet_on)
         | (refine ⟨.agg #[.int .i64 (f.fractionBits : Int), .int .i64 (f.exponentBits : Int)], fun w' hw' => ?_, ?_⟩
            · (obtain ⟨_, ⟨_, hc0⟩, ⟨_, hc1⟩, _⟩ := hw'; go_simp; done)
            go_big_quiet_on)
         | (apply Exists.intro
            refine ⟨fun w' hw' => ?_, ?_⟩
            · (first
            | (go_at_call 58; exact hw'.call (U1.out _))
            | (go_at_call 61; exact hw'.call (N1.out _))
            | (go_at_call 59; exact hw'.call (Za.out _))
            | (go_at_call 63; exact hw'.call (NX.out _))
            | (go_at_call 64; exact hw'.call (If.out _)))
            go_big_quiet_on)))
    refine wpQuiet_nil ?_
    rintro w81 ⟨g81, ⟨b81_0, c81_0⟩, ⟨b81_1, c81_1⟩, _⟩
    have n81_0 : w.heap.size < w81.heap.size := Nat.lt_of_lt_of_le b81_0 g81.2
    go_wp2_with (first
    | (go_at_call 58; refine (U1.out _).mono ?_; rintro en wq ⟨rfl, gq⟩; obtain ⟨lq_0, hq_0_0, hq_0_1⟩ := gq.c2 (w.heap.size) (.int .i64 (f.fractionBits : Int)) (.int .i64 (f.exponentBits : Int)))
    | (go_at_call 61; refine (N1.out _).mono ?_; rintro en wq ⟨rfl, gq⟩; obtain ⟨lq_0, hq_0_0, hq_0_1⟩ := gq.c2 (w.heap.size) (.int .i64 (f.fractionBits : Int)) (.int .i64 (f.exponentBits : Int)))
    | (go_at_call 59; refine (Za.out _).mono ?_; rintro en wq ⟨rfl, gq⟩; obtain ⟨lq_0, hq_0_0, hq_0_1⟩ := gq.c2 (w.heap.size) (.int .i64 (f.fractionBits : Int)) (.int .i64 (f.exponentBits : Int)))
    | (go_at_call 63; refine (NX.out _).mono ?_; rintro en wq ⟨rfl, gq⟩; obtain ⟨lq_0, hq_0_0, hq_0_1⟩ := gq.c2 (w.heap.size) (.int .i64 (f.fractionBits : Int)) (.int .i64 (f.exponentBits : Int)))
    | (go_at_call 64; refine (If.out _).mono ?_; rintro en wq ⟨rfl, gq⟩; obtain ⟨lq_0, hq_0_0, hq_0_1⟩ := gq.c2 (w.heap.size) (.int .i64 (f.fractionBits : Int)) (.int .i64 (f.exponentBits : Int))))) | skip)
  all_goals (first | (
    refine wp_region_ck [(w.heap.size, 0, .int .i64 (f.fractionBits : Int)), (w.heap.size, 1, .int .i64 (f.exponentBits : Int))] (by kernel_rfl) (by kernel_rfl) ⟨⟨by first | (simp; done) | (simp; omega) | omega, by go_simp⟩, ⟨by first | (simp; done) | (simp; omega) | omega, by go_simp⟩, trivial⟩ ?_
    repeat (first
      | go_big_quiet_skip
      | (go_big_quiet_want
         go_big_quiet_op
         first
         | go_big_quiet_on
         | (refine ⟨_, fun _ _ => rfl, ?_⟩; go_big_quiet_on)
         | (refine ⟨.agg #[.int .i64 (f.fractionBits : Int), .int .i64 (f.exponentBits : Int)], fun w' hw' => ?_, ?_⟩
            · (obtain ⟨_, ⟨_, hc0⟩, ⟨_, hc1⟩, _⟩ := hw'; go_simp; done)
            go_big_quiet_on)
         | (apply Exists.intro
            refine ⟨fun w' hw' => ?_, ?_⟩
            · (first
            | (go_at_call 58; exact hw'.call (U1.out _))
            | (go_at_call 61; exact hw'.call (N1.out _))
            | (go_at_call 59; exact hw'.call (Za.out _))
            | (go_at_call 63; exact hw'.call (NX.out _))
            | (go_at_call 64; exact hw'.call (If.out _)))
            go_big_quiet_on)))
    refine wpQuiet_nil ?_
    rintro w82 ⟨g82, ⟨b82_0, c82_0⟩, ⟨b82_1, c82_1⟩, _⟩
    have n82_0 : w.heap.size < w82.heap.size := Nat.lt_of_lt_of_le b82_0 g82.2
    go_wp2_with (first
    | (go_at_call 58; refine (U1.out _).mono ?_; rintro en wq ⟨rfl, gq⟩; obtain ⟨lq_0, hq_0_0, hq_0_1⟩ := gq.c2 (w.heap.size) (.int .i64 (f.fractionBits : Int)) (.int .i64 (f.exponentBits : Int)))
    | (go_at_call 61; refine (N1.out _).mono ?_; rintro en wq ⟨rfl, gq⟩; obtain ⟨lq_0, hq_0_0, hq_0_1⟩ := gq.c2 (w.heap.size) (.int .i64 (f.fractionBits : Int)) (.int .i64 (f.exponentBits : Int)))
    | (go_at_call 59; refine (Za.out _).mono ?_; rintro en wq ⟨rfl, gq⟩; obtain ⟨lq_0, hq_0_0, hq_0_1⟩ := gq.c2 (w.heap.size) (.int .i64 (f.fractionBits : Int)) (.int .i64 (f.exponentBits : Int)))
    | (go_at_call 63; refine (NX.out _).mono ?_; rintro en wq ⟨rfl, gq⟩; obtain ⟨lq_0, hq_0_0, hq_0_1⟩ := gq.c2 (w.heap.size) (.int .i64 (f.fractionBits : Int)) (.int .i64 (f.exponentBits : Int)))
    | (go_at_call 64; refine (If.out _).mono ?_; rintro en wq ⟨rfl, gq⟩; obtain ⟨lq_0, hq_0_0, hq_0_1⟩ := gq.c2 (w.heap.size) (.int .i64 (f.fractionBits : Int)) (.int .i64 (f.exponentBits : Int))))) | skip)
  all_goals go_ret
  all_goals go_light
  all_goals refine ⟨by first | rfl | simp, ?_⟩
  all_goals repeat (first | exact Grew.refl _ | assumption | refine Grew.drew ?_ | refine Grew.drewN ?_ _ | refine Grew.alloc ?_ _ | refine Grew.trans ?_ (by assumption))
set_option maxRecDepth 100000 in
set_option maxHeartbeats 2000000 in
theorem Un_inf {f : Ieee.Format} (k a A x I S R : Int) (w : World) (k0 : (k == 0) = false) (k1 : (k == 1) = false) (k6 : (k == 6) = false) (x0 : (x == 0) = false) (hi : (x == I) = true)
    (U1 : CG 58 #[.agg #[.int .i64 (f.fractionBits : Int), .int .i64 (f.exponentBits : Int)], .int .u64 a] (.int .u64 A))
    (N1 : CG 61 #[.agg #[.int .i64 (f.fractionBits : Int), .int .i64 (f.exponentBits : Int)], .int .u64 A] (.bool false))
    (Za : CG 59 #[.agg #[.int .i64 (f.fractionBits : Int), .int .i64 (f.exponentBits : Int)], .int .u64 A] (.int .u64 x))
    (If : CG 64 #[.agg #[.int .i64 (f.fractionBits : Int), .int .i64 (f.exponentBits : Int)]] (.int .u64 I)) :
    Calls Tryd.prog 29 #[.agg #[.int .i64 (f.fractionBits : Int), .int .i64 (f.exponentBits : Int)], .int .i64 k, .int .u64 a] w fun en w' => en = .returned (.int .u64 A) ∧ Grew w w' := by
  go_enter Tryd.func29, Tryd.ntmps29
  go_wp2_with (first
    | (go_at_call 58; refine (U1.out _).mono ?_; rintro en wq ⟨rfl, gq⟩; obtain ⟨lq_0, hq_0_0, hq_0_1⟩ := gq.c2 (w.heap.size) (.int .i64 (f.fractionBits : Int)) (.int .i64 (f.exponentBits : Int)))
    | (go_at_call 61; refine (N1.out _).mono ?_; rintro en wq ⟨rfl, gq⟩; obtain ⟨lq_0, hq_0_0, hq_0_1⟩ := gq.c2 (w.heap.size) (.int .i64 (f.fractionBits : Int)) (.int .i64 (f.exponentBits : Int)))
    | (go_at_call 59; refine (Za.out _).mono ?_; rintro en wq ⟨rfl, gq⟩; obtain ⟨lq_0, hq_0_0, hq_0_1⟩ := gq.c2 (w.heap.size) (.int .i64 (f.fractionBits : Int)) (.int .i64 (f.exponentBits : Int)))
    | (go_at_call 64; refine (If.out _).mono ?_; rintro en wq ⟨rfl, gq⟩; obtain ⟨lq_0, hq_0_0, hq_0_1⟩ := gq.c2 (w.heap.size) (.int .i64 (f.fractionBits : Int)) (.int .i64 (f.exponentBits : Int))))
  all_goals (first | (
    refine wp_region_ck [(w.heap.size, 0, .int .i64 (f.fractionBits : Int)), (w.heap.size, 1, .int .i64 (f.exponentBits : Int))] (by kernel_rfl) (by kernel_rfl) ⟨⟨by first | (simp; done) | (simp; omega) | omega, by go_simp⟩, ⟨by first | (simp; done) | (simp; omega) | omega, by go_simp⟩, trivial⟩ ?_
    repeat (first
      | go_big_quiet_skip
      | (go_big_quiet_want
         go_big_quiet_op
         first
         | go_big_quiet_on
         | (refine ⟨_, fun _ _ => rfl, ?_⟩; go_big_quiet_on)
         | (refine ⟨.agg #[.int .i64 (f.fractionBits : Int), .int .i64 (f.exponentBits : Int)], fun w' hw' => ?_, ?_⟩
            · (obtain ⟨_, ⟨_, hc0⟩, ⟨_, hc1⟩, _⟩ := hw'; go_simp; done)
            go_big_quiet_on)
         | (apply Exists.intro
            refine ⟨fun w' hw' => ?_, ?_⟩
            · (first
            | (go_at_call 58; exact hw'.call (U1.out _))
            | (go_at_call 61; exact hw'.call (N1.out _))
            | (go_at_call 59; exact hw'.call (Za.out _))
            | (go_at_call 64; exact hw'.call (If.out _)))
            go_big_quiet_on)))
    refine wpQuiet_nil ?_
    rintro w80 ⟨g80, ⟨b80_0, c80_0⟩, ⟨b80_1, c80_1⟩, _⟩
    have n80_0 : w.heap.size < w80.heap.size := Nat.lt_of_lt_of_le b80_0 g80.2
    go_wp2_with (first
    | (go_at_call 58; refine (U1.out _).mono ?_; rintro en wq ⟨rfl, gq⟩; obtain ⟨lq_0, hq_0_0, hq_0_1⟩ := gq.c2 (w.heap.size) (.int .i64 (f.fractionBits : Int)) (.int .i64 (f.exponentBits : Int)))
    | (go_at_call 61; refine (N1.out _).mono ?_; rintro en wq ⟨rfl, gq⟩; obtain ⟨lq_0, hq_0_0, hq_0_1⟩ := gq.c2 (w.heap.size) (.int .i64 (f.fractionBits : Int)) (.int .i64 (f.exponentBits : Int)))
    | (go_at_call 59; refine (Za.out _).mono ?_; rintro en wq ⟨rfl, gq⟩; obtain ⟨lq_0, hq_0_0, hq_0_1⟩ := gq.c2 (w.heap.size) (.int .i64 (f.fractionBits : Int)) (.int .i64 (f.exponentBits : Int)))
    | (go_at_call 64; refine (If.out _).mono ?_; rintro en wq ⟨rfl, gq⟩; obtain ⟨lq_0, hq_0_0, hq_0_1⟩ := gq.c2 (w.heap.size) (.int .i64 (f.fractionBits : Int)) (.int .i64 (f.exponentBits : Int))))) | skip)
  all_goals (first | (
    refine wp_region_ck [(w.heap.size, 0, .int .i64 (f.fractionBits : Int)), (w.heap.size, 1, .int .i64 (f.exponentBits : Int))] (by kernel_rfl) (by kernel_rfl) ⟨⟨by first | (simp; done) | (simp; omega) | omega, by go_simp⟩, ⟨by first | (simp; done) | (simp; omega) | omega, by go_simp⟩, trivial⟩ ?_
    repeat (first
      | go_big_quiet_skip
      | (go_big_quiet_want
         go_big_quiet_op
         first
         | go_big_quiet_on
         | (refine ⟨_, fun _ _ => rfl, ?_⟩; go_big_quiet_on)
         | (refine ⟨.agg #[.int .i64 (f.fractionBits : Int), .int .i64 (f.exponentBits : Int)], fun w' hw' => ?_, ?_⟩
            · (obtain ⟨_, ⟨_, hc0⟩, ⟨_, hc1⟩, _⟩ := hw'; go_simp; done)
            go_big_quiet_on)
         | (apply Exists.intro
            refine ⟨fun w' hw' => ?_, ?_⟩
            · (first
            | (go_at_call 58; exact hw'.call (U1.out _))
            | (go_at_call 61; exact hw'.call (N1.out _))
            | (go_at_call 59; exact hw'.call (Za.out _))
            | (go_at_call 64; exact hw'.call (If.out _)))
            go_big_quiet_on)))
    refine wpQuiet_nil ?_
    rintro w81 ⟨g81, ⟨b81_0, c81_0⟩, ⟨b81_1, c81_1⟩, _⟩
    have n81_0 : w.heap.size < w81.heap.size := Nat.lt_of_lt_of_le b81_0 g81.2
    go_wp2_with (first
    | (go_at_call 58; refine (U1.out _).mono ?_; rintro en wq ⟨rfl, gq⟩; obtain ⟨lq_0, hq_0_0, hq_0_1⟩ := gq.c2 (w.heap.size) (.int .i64 (f.fractionBits : Int)) (.int .i64 (f.exponentBits : Int)))
    | (go_at_call 61; refine (N1.out _).mono ?_; rintro en wq ⟨rfl, gq⟩; obtain ⟨lq_0, hq_0_0, hq_0_1⟩ := gq.c2 (w.heap.size) (.int .i64 (f.fractionBits : Int)) (.int .i64 (f.exponentBits : Int)))
    | (go_at_call 59; refine (Za.out _).mono ?_; rintro en wq ⟨rfl, gq⟩; obtain ⟨lq_0, hq_0_0, hq_0_1⟩ := gq.c2 (w.heap.size) (.int .i64 (f.fractionBits : Int)) (.int .i64 (f.exponentBits : Int)))
    | (go_at_call 64; refine (If.out _).mono ?_; rintro en wq ⟨rfl, gq⟩; obtain ⟨lq_0, hq_0_0, hq_0_1⟩ := gq.c2 (w.heap.size) (.int .i64 (f.fractionBits : Int)) (.int .i64 (f.exponentBits : Int))))) | skip)
  all_goals (first | (
    refine wp_region_ck [(w.heap.size, 0, .int .i64 (f.fractionBits : Int)), (w.heap.size, 1, .int .i64 (f.exponentBits : Int))] (by kernel_rfl) (by kernel_rfl) ⟨⟨by first | (simp; done) | (simp; omega) | omega, by go_simp⟩, ⟨by first | (simp; done) | (simp; omega) | omega, by go_simp⟩, trivial⟩ ?_
    repeat (first
      | go_big_quiet_skip
      | (go_big_quiet_want
         go_big_quiet_op
         first
         | go_big_quiet_on
         | (refine ⟨_, fun _ _ => rfl, ?_⟩; go_big_quiet_on)
         | (refine ⟨.agg #[.int .i64 (f.fractionBits : Int), .int .i64 (f.exponentBits : Int)], fun w' hw' => ?_, ?_⟩
            · (obtain ⟨_, ⟨_, hc0⟩, ⟨_, hc1⟩, _⟩ := hw'; go_simp; done)
            go_big_quiet_on)
         | (apply Exists.intro
            refine ⟨fun w' hw' => ?_, ?_⟩
            · (first
            | (go_at_call 58; exact hw'.call (U1.out _))
            | (go_at_call 61; exact hw'.call (N1.out _))
            | (go_at_call 59; exact hw'.call (Za.out _))
            | (go_at_call 64; exact hw'.call (If.out _)))
            go_big_quiet_on)))
    refine wpQuiet_nil ?_
    rintro w82 ⟨g82, ⟨b82_0, c82_0⟩, ⟨b82_1, c82_1⟩, _⟩
    have n82_0 : w.heap.size < w82.heap.size := Nat.lt_of_lt_of_le b82_0 g82.2
    go_wp2_with (first
    | (go_at_call 58; refine (U1.out _).mono ?_; rintro en wq ⟨rfl, gq⟩; obtain ⟨lq_0, hq_0_0, hq_0_1⟩ := gq.c2 (w.heap.size) (.int .i64 (f.fractionBits : Int)) (.int .i64 (f.exponentBits : Int)))
    | (go_at_call 61; refine (N1.out _).mono ?_; rintro en wq ⟨rfl, gq⟩; obtain ⟨lq_0, hq_0_0, hq_0_1⟩ := gq.c2 (w.heap.size) (.int .i64 (f.fractionBits : Int)) (.int .i64 (f.exponentBits : Int)))
    | (go_at_call 59; refine (Za.out _).mono ?_; rintro en wq ⟨rfl, gq⟩; obtain ⟨lq_0, hq_0_0, hq_0_1⟩ := gq.c2 (w.heap.size) (.int .i64 (f.fractionBits : Int)) (.int .i64 (f.exponentBits : Int)))
    | (go_at_call 64; refine (If.out _).mono ?_; rintro en wq ⟨rfl, gq⟩; obtain ⟨lq_0, hq_0_0, hq_0_1⟩ := gq.c2 (w.heap.size) (.int .i64 (f.fractionBits : Int)) (.int .i64 (f.exponentBits : Int))))) | skip)
  all_goals go_ret
  all_goals go_light
  all_goals refine ⟨by first | rfl | simp, ?_⟩
  all_goals repeat (first | exact Grew.refl _ | assumption | refine Grew.drew ?_ | refine Grew.drewN ?_ _ | refine Grew.alloc ?_ _ | refine Grew.trans ?_ (by assumption))
set_option maxRecDepth 100000 in
set_option maxHeartbeats 2000000 in
theorem Un_root {f : Ieee.Format} (k a A x I S R : Int) (w : World) (x0 : (x == 0) = false) (hi : (x == I) = false)
    (U1 : CG 58 #[.agg #[.int .i64 (f.fractionBits : Int), .int .i64 (f.exponentBits : Int)], .int .u64 a] (.int .u64 A))
    (N1 : CG 61 #[.agg #[.int .i64 (f.fractionBits : Int), .int .i64 (f.exponentBits : Int)], .int .u64 A] (.bool false))
    (Za : CG 59 #[.agg #[.int .i64 (f.fractionBits : Int), .int .i64 (f.exponentBits : Int)], .int .u64 A] (.int .u64 x))
    (NX : CG 63 #[.agg #[.int .i64 (f.fractionBits : Int), .int .i64 (f.exponentBits : Int)], .int .u64 A] (.bool false))
    (If : CG 64 #[.agg #[.int .i64 (f.fractionBits : Int), .int .i64 (f.exponentBits : Int)]] (.int .u64 I))
    (Rt : CG 65 #[.agg #[.int .i64 (f.fractionBits : Int), .int .i64 (f.exponentBits : Int)], .int .u64 A] (.int .u64 R)) :
    Calls Tryd.prog 29 #[.agg #[.int .i64 (f.fractionBits : Int), .int .i64 (f.exponentBits : Int)], .int .i64 6, .int .u64 a] w fun en w' => en = .returned (.int .u64 R) ∧ Grew w w' := by
  go_enter Tryd.func29, Tryd.ntmps29
  go_wp2_with (first
    | (go_at_call 58; refine (U1.out _).mono ?_; rintro en wq ⟨rfl, gq⟩; obtain ⟨lq_0, hq_0_0, hq_0_1⟩ := gq.c2 (w.heap.size) (.int .i64 (f.fractionBits : Int)) (.int .i64 (f.exponentBits : Int)))
    | (go_at_call 61; refine (N1.out _).mono ?_; rintro en wq ⟨rfl, gq⟩; obtain ⟨lq_0, hq_0_0, hq_0_1⟩ := gq.c2 (w.heap.size) (.int .i64 (f.fractionBits : Int)) (.int .i64 (f.exponentBits : Int)))
    | (go_at_call 59; refine (Za.out _).mono ?_; rintro en wq ⟨rfl, gq⟩; obtain ⟨lq_0, hq_0_0, hq_0_1⟩ := gq.c2 (w.heap.size) (.int .i64 (f.fractionBits : Int)) (.int .i64 (f.exponentBits : Int)))
    | (go_at_call 63; refine (NX.out _).mono ?_; rintro en wq ⟨rfl, gq⟩; obtain ⟨lq_0, hq_0_0, hq_0_1⟩ := gq.c2 (w.heap.size) (.int .i64 (f.fractionBits : Int)) (.int .i64 (f.exponentBits : Int)))
    | (go_at_call 64; refine (If.out _).mono ?_; rintro en wq ⟨rfl, gq⟩; obtain ⟨lq_0, hq_0_0, hq_0_1⟩ := gq.c2 (w.heap.size) (.int .i64 (f.fractionBits : Int)) (.int .i64 (f.exponentBits : Int)))
    | (go_at_call 65; refine (Rt.out _).mono ?_; rintro en wq ⟨rfl, gq⟩; obtain ⟨lq_0, hq_0_0, hq_0_1⟩ := gq.c2 (w.heap.size) (.int .i64 (f.fractionBits : Int)) (.int .i64 (f.exponentBits : Int))))
  all_goals (first | (
    refine wp_region_ck [(w.heap.size, 0, .int .i64 (f.fractionBits : Int)), (w.heap.size, 1, .int .i64 (f.exponentBits : Int))] (by kernel_rfl) (by kernel_rfl) ⟨⟨by first | (simp; done) | (simp; omega) | omega, by go_simp⟩, ⟨by first | (simp; done) | (simp; omega) | omega, by go_simp⟩, trivial⟩ ?_
    repeat (first
      | go_big_quiet_skip
      | (go_big_quiet_want
         go_big_quiet_op
         first
         | go_big_quiet_on
         | (refine ⟨_, fun _ _ => rfl, ?_⟩; go_big_quiet_on)
         | (refine ⟨.agg #[.int .i64 (f.fractionBits : Int), .int .i64 (f.exponentBits : Int)], fun w' hw' => ?_, ?_⟩
            · (obtain ⟨_, ⟨_, hc0⟩, ⟨_, hc1⟩, _⟩ := hw'; go_simp; done)
            go_big_quiet_on)
         | (apply Exists.intro
            refine ⟨fun w' hw' => ?_, ?_⟩
            · (first
            | (go_at_call 58; exact hw'.call (U1.out _))
            | (go_at_call 61; exact hw'.call (N1.out _))
            | (go_at_call 59; exact hw'.call (Za.out _))
            | (go_at_call 63; exact hw'.call (NX.out _))
            | (go_at_call 64; exact hw'.call (If.out _))
            | (go_at_call 65; exact hw'.call (Rt.out _)))
            go_big_quiet_on)))
    refine wpQuiet_nil ?_
    rintro w80 ⟨g80, ⟨b80_0, c80_0⟩, ⟨b80_1, c80_1⟩, _⟩
    have n80_0 : w.heap.size < w80.heap.size := Nat.lt_of_lt_of_le b80_0 g80.2
    go_wp2_with (first
    | (go_at_call 58; refine (U1.out _).mono ?_; rintro en wq ⟨rfl, gq⟩; obtain ⟨lq_0, hq_0_0, hq_0_1⟩ := gq.c2 (w.heap.size) (.int .i64 (f.fractionBits : Int)) (.int .i64 (f.exponentBits : Int)))
    | (go_at_call 61; refine (N1.out _).mono ?_; rintro en wq ⟨rfl, gq⟩; obtain ⟨lq_0, hq_0_0, hq_0_1⟩ := gq.c2 (w.heap.size) (.int .i64 (f.fractionBits : Int)) (.int .i64 (f.exponentBits : Int)))
    | (go_at_call 59; refine (Za.out _).mono ?_; rintro en wq ⟨rfl, gq⟩; obtain ⟨lq_0, hq_0_0, hq_0_1⟩ := gq.c2 (w.heap.size) (.int .i64 (f.fractionBits : Int)) (.int .i64 (f.exponentBits : Int)))
    | (go_at_call 63; refine (NX.out _).mono ?_; rintro en wq ⟨rfl, gq⟩; obtain ⟨lq_0, hq_0_0, hq_0_1⟩ := gq.c2 (w.heap.size) (.int .i64 (f.fractionBits : Int)) (.int .i64 (f.exponentBits : Int)))
    | (go_at_call 64; refine (If.out _).mono ?_; rintro en wq ⟨rfl, gq⟩; obtain ⟨lq_0, hq_0_0, hq_0_1⟩ := gq.c2 (w.heap.size) (.int .i64 (f.fractionBits : Int)) (.int .i64 (f.exponentBits : Int)))
    | (go_at_call 65; refine (Rt.out _).mono ?_; rintro en wq ⟨rfl, gq⟩; obtain ⟨lq_0, hq_0_0, hq_0_1⟩ := gq.c2 (w.heap.size) (.int .i64 (f.fractionBits : Int)) (.int .i64 (f.exponentBits : Int))))) | skip)
  all_goals (first | (
    refine wp_region_ck [(w.heap.size, 0, .int .i64 (f.fractionBits : Int)), (w.heap.size, 1, .int .i64 (f.exponentBits : Int))] (by kernel_rfl) (by kernel_rfl) ⟨⟨by first | (simp; done) | (simp; omega) | omega, by go_simp⟩, ⟨by first | (simp; done) | (simp; omega) | omega, by go_simp⟩, trivial⟩ ?_
    repeat (first
      | go_big_quiet_skip
      | (go_big_quiet_want
         go_big_quiet_op
         first
         | go_big_quiet_on
         | (refine ⟨_, fun _ _ => rfl, ?_⟩; go_big_quiet_on)
         | (refine ⟨.agg #[.int .i64 (f.fractionBits : Int), .int .i64 (f.exponentBits : Int)], fun w' hw' => ?_, ?_⟩
            · (obtain ⟨_, ⟨_, hc0⟩, ⟨_, hc1⟩, _⟩ := hw'; go_simp; done)
            go_big_quiet_on)
         | (apply Exists.intro
            refine ⟨fun w' hw' => ?_, ?_⟩
            · (first
            | (go_at_call 58; exact hw'.call (U1.out _))
            | (go_at_call 61; exact hw'.call (N1.out _))
            | (go_at_call 59; exact hw'.call (Za.out _))
            | (go_at_call 63; exact hw'.call (NX.out _))
            | (go_at_call 64; exact hw'.call (If.out _))
            | (go_at_call 65; exact hw'.call (Rt.out _)))
            go_big_quiet_on)))
    refine wpQuiet_nil ?_
    rintro w81 ⟨g81, ⟨b81_0, c81_0⟩, ⟨b81_1, c81_1⟩, _⟩
    have n81_0 : w.heap.size < w81.heap.size := Nat.lt_of_lt_of_le b81_0 g81.2
    go_wp2_with (first
    | (go_at_call 58; refine (U1.out _).mono ?_; rintro en wq ⟨rfl, gq⟩; obtain ⟨lq_0, hq_0_0, hq_0_1⟩ := gq.c2 (w.heap.size) (.int .i64 (f.fractionBits : Int)) (.int .i64 (f.exponentBits : Int)))
    | (go_at_call 61; refine (N1.out _).mono ?_; rintro en wq ⟨rfl, gq⟩; obtain ⟨lq_0, hq_0_0, hq_0_1⟩ := gq.c2 (w.heap.size) (.int .i64 (f.fractionBits : Int)) (.int .i64 (f.exponentBits : Int)))
    | (go_at_call 59; refine (Za.out _).mono ?_; rintro en wq ⟨rfl, gq⟩; obtain ⟨lq_0, hq_0_0, hq_0_1⟩ := gq.c2 (w.heap.size) (.int .i64 (f.fractionBits : Int)) (.int .i64 (f.exponentBits : Int)))
    | (go_at_call 63; refine (NX.out _).mono ?_; rintro en wq ⟨rfl, gq⟩; obtain ⟨lq_0, hq_0_0, hq_0_1⟩ := gq.c2 (w.heap.size) (.int .i64 (f.fractionBits : Int)) (.int .i64 (f.exponentBits : Int)))
    | (go_at_call 64; refine (If.out _).mono ?_; rintro en wq ⟨rfl, gq⟩; obtain ⟨lq_0, hq_0_0, hq_0_1⟩ := gq.c2 (w.heap.size) (.int .i64 (f.fractionBits : Int)) (.int .i64 (f.exponentBits : Int)))
    | (go_at_call 65; refine (Rt.out _).mono ?_; rintro en wq ⟨rfl, gq⟩; obtain ⟨lq_0, hq_0_0, hq_0_1⟩ := gq.c2 (w.heap.size) (.int .i64 (f.fractionBits : Int)) (.int .i64 (f.exponentBits : Int))))) | skip)
  all_goals (first | (
    refine wp_region_ck [(w.heap.size, 0, .int .i64 (f.fractionBits : Int)), (w.heap.size, 1, .int .i64 (f.exponentBits : Int))] (by kernel_rfl) (by kernel_rfl) ⟨⟨by first | (simp; done) | (simp; omega) | omega, by go_simp⟩, ⟨by first | (simp; done) | (simp; omega) | omega, by go_simp⟩, trivial⟩ ?_
    repeat (first
      | go_big_quiet_skip
      | (go_big_quiet_want
         go_big_quiet_op
         first
         | go_big_quiet_on
         | (refine ⟨_, fun _ _ => rfl, ?_⟩; go_big_quiet_on)
         | (refine ⟨.agg #[.int .i64 (f.fractionBits : Int), .int .i64 (f.exponentBits : Int)], fun w' hw' => ?_, ?_⟩
            · (obtain ⟨_, ⟨_, hc0⟩, ⟨_, hc1⟩, _⟩ := hw'; go_simp; done)
            go_big_quiet_on)
         | (apply Exists.intro
            refine ⟨fun w' hw' => ?_, ?_⟩
            · (first
            | (go_at_call 58; exact hw'.call (U1.out _))
            | (go_at_call 61; exact hw'.call (N1.out _))
            | (go_at_call 59; exact hw'.call (Za.out _))
            | (go_at_call 63; exact hw'.call (NX.out _))
            | (go_at_call 64; exact hw'.call (If.out _))
            | (go_at_call 65; exact hw'.call (Rt.out _)))
            go_big_quiet_on)))
    refine wpQuiet_nil ?_
    rintro w82 ⟨g82, ⟨b82_0, c82_0⟩, ⟨b82_1, c82_1⟩, _⟩
    have n82_0 : w.heap.size < w82.heap.size := Nat.lt_of_lt_of_le b82_0 g82.2
    go_wp2_with (first
    | (go_at_call 58; refine (U1.out _).mono ?_; rintro en wq ⟨rfl, gq⟩; obtain ⟨lq_0, hq_0_0, hq_0_1⟩ := gq.c2 (w.heap.size) (.int .i64 (f.fractionBits : Int)) (.int .i64 (f.exponentBits : Int)))
    | (go_at_call 61; refine (N1.out _).mono ?_; rintro en wq ⟨rfl, gq⟩; obtain ⟨lq_0, hq_0_0, hq_0_1⟩ := gq.c2 (w.heap.size) (.int .i64 (f.fractionBits : Int)) (.int .i64 (f.exponentBits : Int)))
    | (go_at_call 59; refine (Za.out _).mono ?_; rintro en wq ⟨rfl, gq⟩; obtain ⟨lq_0, hq_0_0, hq_0_1⟩ := gq.c2 (w.heap.size) (.int .i64 (f.fractionBits : Int)) (.int .i64 (f.exponentBits : Int)))
    | (go_at_call 63; refine (NX.out _).mono ?_; rintro en wq ⟨rfl, gq⟩; obtain ⟨lq_0, hq_0_0, hq_0_1⟩ := gq.c2 (w.heap.size) (.int .i64 (f.fractionBits : Int)) (.int .i64 (f.exponentBits : Int)))
    | (go_at_call 64; refine (If.out _).mono ?_; rintro en wq ⟨rfl, gq⟩; obtain ⟨lq_0, hq_0_0, hq_0_1⟩ := gq.c2 (w.heap.size) (.int .i64 (f.fractionBits : Int)) (.int .i64 (f.exponentBits : Int)))
    | (go_at_call 65; refine (Rt.out _).mono ?_; rintro en wq ⟨rfl, gq⟩; obtain ⟨lq_0, hq_0_0, hq_0_1⟩ := gq.c2 (w.heap.size) (.int .i64 (f.fractionBits : Int)) (.int .i64 (f.exponentBits : Int))))) | skip)
  all_goals go_ret
  all_goals go_light
  all_goals refine ⟨by first | rfl | simp, ?_⟩
  all_goals repeat (first | exact Grew.refl _ | assumption | refine Grew.drew ?_ | refine Grew.drewN ?_ _ | refine Grew.alloc ?_ _ | refine Grew.trans ?_ (by assumption))
set_option maxRecDepth 100000 in
set_option maxHeartbeats 2000000 in
theorem Un_whole {f : Ieee.Format} (k a A x I S R : Int) (w : World) (k0 : (k == 0) = false) (k1 : (k == 1) = false) (k6 : (k == 6) = false) (x0 : (x == 0) = false) (hi : (x == I) = false)
    (U1 : CG 58 #[.agg #[.int .i64 (f.fractionBits : Int), .int .i64 (f.exponentBits : Int)], .int .u64 a] (.int .u64 A))
    (N1 : CG 61 #[.agg #[.int .i64 (f.fractionBits : Int), .int .i64 (f.exponentBits : Int)], .int .u64 A] (.bool false))
    (Za : CG 59 #[.agg #[.int .i64 (f.fractionBits : Int), .int .i64 (f.exponentBits : Int)], .int .u64 A] (.int .u64 x))
    (If : CG 64 #[.agg #[.int .i64 (f.fractionBits : Int), .int .i64 (f.exponentBits : Int)]] (.int .u64 I))
    (Wh : CG 66 #[.agg #[.int .i64 (f.fractionBits : Int), .int .i64 (f.exponentBits : Int)], .int .i64 k, .int .u64 A] (.int .u64 R)) :
    Calls Tryd.prog 29 #[.agg #[.int .i64 (f.fractionBits : Int), .int .i64 (f.exponentBits : Int)], .int .i64 k, .int .u64 a] w fun en w' => en = .returned (.int .u64 R) ∧ Grew w w' := by
  go_enter Tryd.func29, Tryd.ntmps29
  go_wp2_with (first
    | (go_at_call 58; refine (U1.out _).mono ?_; rintro en wq ⟨rfl, gq⟩; obtain ⟨lq_0, hq_0_0, hq_0_1⟩ := gq.c2 (w.heap.size) (.int .i64 (f.fractionBits : Int)) (.int .i64 (f.exponentBits : Int)))
    | (go_at_call 61; refine (N1.out _).mono ?_; rintro en wq ⟨rfl, gq⟩; obtain ⟨lq_0, hq_0_0, hq_0_1⟩ := gq.c2 (w.heap.size) (.int .i64 (f.fractionBits : Int)) (.int .i64 (f.exponentBits : Int)))
    | (go_at_call 59; refine (Za.out _).mono ?_; rintro en wq ⟨rfl, gq⟩; obtain ⟨lq_0, hq_0_0, hq_0_1⟩ := gq.c2 (w.heap.size) (.int .i64 (f.fractionBits : Int)) (.int .i64 (f.exponentBits : Int)))
    | (go_at_call 64; refine (If.out _).mono ?_; rintro en wq ⟨rfl, gq⟩; obtain ⟨lq_0, hq_0_0, hq_0_1⟩ := gq.c2 (w.heap.size) (.int .i64 (f.fractionBits : Int)) (.int .i64 (f.exponentBits : Int)))
    | (go_at_call 66; refine (Wh.out _).mono ?_; rintro en wq ⟨rfl, gq⟩; obtain ⟨lq_0, hq_0_0, hq_0_1⟩ := gq.c2 (w.heap.size) (.int .i64 (f.fractionBits : Int)) (.int .i64 (f.exponentBits : Int))))
  all_goals (first | (
    refine wp_region_ck [(w.heap.size, 0, .int .i64 (f.fractionBits : Int)), (w.heap.size, 1, .int .i64 (f.exponentBits : Int))] (by kernel_rfl) (by kernel_rfl) ⟨⟨by first | (simp; done) | (simp; omega) | omega, by go_simp⟩, ⟨by first | (simp; done) | (simp; omega) | omega, by go_simp⟩, trivial⟩ ?_
    repeat (first
      | go_big_quiet_skip
      | (go_big_quiet_want
         go_big_quiet_op
         first
         | go_big_quiet_on
         | (refine ⟨_, fun _ _ => rfl, ?_⟩; go_big_quiet_on)
         | (refine ⟨.agg #[.int .i64 (f.fractionBits : Int), .int .i64 (f.exponentBits : Int)], fun w' hw' => ?_, ?_⟩
            · (obtain ⟨_, ⟨_, hc0⟩, ⟨_, hc1⟩, _⟩ := hw'; go_simp; done)
            go_big_quiet_on)
         | (apply Exists.intro
            refine ⟨fun w' hw' => ?_, ?_⟩
            · (first
            | (go_at_call 58; exact hw'.call (U1.out _))
            | (go_at_call 61; exact hw'.call (N1.out _))
            | (go_at_call 59; exact hw'.call (Za.out _))
            | (go_at_call 64; exact hw'.call (If.out _))
            | (go_at_call 66; exact hw'.call (Wh.out _)))
            go_big_quiet_on)))
    refine wpQuiet_nil ?_
    rintro w80 ⟨g80, ⟨b80_0, c80_0⟩, ⟨b80_1, c80_1⟩, _⟩
    have n80_0 : w.heap.size < w80.heap.size := Nat.lt_of_lt_of_le b80_0 g80.2
    go_wp2_with (first
    | (go_at_call 58; refine (U1.out _).mono ?_; rintro en wq ⟨rfl, gq⟩; obtain ⟨lq_0, hq_0_0, hq_0_1⟩ := gq.c2 (w.heap.size) (.int .i64 (f.fractionBits : Int)) (.int .i64 (f.exponentBits : Int)))
    | (go_at_call 61; refine (N1.out _).mono ?_; rintro en wq ⟨rfl, gq⟩; obtain ⟨lq_0, hq_0_0, hq_0_1⟩ := gq.c2 (w.heap.size) (.int .i64 (f.fractionBits : Int)) (.int .i64 (f.exponentBits : Int)))
    | (go_at_call 59; refine (Za.out _).mono ?_; rintro en wq ⟨rfl, gq⟩; obtain ⟨lq_0, hq_0_0, hq_0_1⟩ := gq.c2 (w.heap.size) (.int .i64 (f.fractionBits : Int)) (.int .i64 (f.exponentBits : Int)))
    | (go_at_call 64; refine (If.out _).mono ?_; rintro en wq ⟨rfl, gq⟩; obtain ⟨lq_0, hq_0_0, hq_0_1⟩ := gq.c2 (w.heap.size) (.int .i64 (f.fractionBits : Int)) (.int .i64 (f.exponentBits : Int)))
    | (go_at_call 66; refine (Wh.out _).mono ?_; rintro en wq ⟨rfl, gq⟩; obtain ⟨lq_0, hq_0_0, hq_0_1⟩ := gq.c2 (w.heap.size) (.int .i64 (f.fractionBits : Int)) (.int .i64 (f.exponentBits : Int))))) | skip)
  all_goals (first | (
    refine wp_region_ck [(w.heap.size, 0, .int .i64 (f.fractionBits : Int)), (w.heap.size, 1, .int .i64 (f.exponentBits : Int))] (by kernel_rfl) (by kernel_rfl) ⟨⟨by first | (simp; done) | (simp; omega) | omega, by go_simp⟩, ⟨by first | (simp; done) | (simp; omega) | omega, by go_simp⟩, trivial⟩ ?_
    repeat (first
      | go_big_quiet_skip
      | (go_big_quiet_want
         go_big_quiet_op
         first
         | go_big_quiet_on
         | (refine ⟨_, fun _ _ => rfl, ?_⟩; go_big_quiet_on)
         | (refine ⟨.agg #[.int .i64 (f.fractionBits : Int), .int .i64 (f.exponentBits : Int)], fun w' hw' => ?_, ?_⟩
            · (obtain ⟨_, ⟨_, hc0⟩, ⟨_, hc1⟩, _⟩ := hw'; go_simp; done)
            go_big_quiet_on)
         | (apply Exists.intro
            refine ⟨fun w' hw' => ?_, ?_⟩
            · (first
            | (go_at_call 58; exact hw'.call (U1.out _))
            | (go_at_call 61; exact hw'.call (N1.out _))
            | (go_at_call 59; exact hw'.call (Za.out _))
            | (go_at_call 64; exact hw'.call (If.out _))
            | (go_at_call 66; exact hw'.call (Wh.out _)))
            go_big_quiet_on)))
    refine wpQuiet_nil ?_
    rintro w81 ⟨g81, ⟨b81_0, c81_0⟩, ⟨b81_1, c81_1⟩, _⟩
    have n81_0 : w.heap.size < w81.heap.size := Nat.lt_of_lt_of_le b81_0 g81.2
    go_wp2_with (first
    | (go_at_call 58; refine (U1.out _).mono ?_; rintro en wq ⟨rfl, gq⟩; obtain ⟨lq_0, hq_0_0, hq_0_1⟩ := gq.c2 (w.heap.size) (.int .i64 (f.fractionBits : Int)) (.int .i64 (f.exponentBits : Int)))
    | (go_at_call 61; refine (N1.out _).mono ?_; rintro en wq ⟨rfl, gq⟩; obtain ⟨lq_0, hq_0_0, hq_0_1⟩ := gq.c2 (w.heap.size) (.int .i64 (f.fractionBits : Int)) (.int .i64 (f.exponentBits : Int)))
    | (go_at_call 59; refine (Za.out _).mono ?_; rintro en wq ⟨rfl, gq⟩; obtain ⟨lq_0, hq_0_0, hq_0_1⟩ := gq.c2 (w.heap.size) (.int .i64 (f.fractionBits : Int)) (.int .i64 (f.exponentBits : Int)))
    | (go_at_call 64; refine (If.out _).mono ?_; rintro en wq ⟨rfl, gq⟩; obtain ⟨lq_0, hq_0_0, hq_0_1⟩ := gq.c2 (w.heap.size) (.int .i64 (f.fractionBits : Int)) (.int .i64 (f.exponentBits : Int)))
    | (go_at_call 66; refine (Wh.out _).mono ?_; rintro en wq ⟨rfl, gq⟩; obtain ⟨lq_0, hq_0_0, hq_0_1⟩ := gq.c2 (w.heap.size) (.int .i64 (f.fractionBits : Int)) (.int .i64 (f.exponentBits : Int))))) | skip)
  all_goals (first | (
    refine wp_region_ck [(w.heap.size, 0, .int .i64 (f.fractionBits : Int)), (w.heap.size, 1, .int .i64 (f.exponentBits : Int))] (by kernel_rfl) (by kernel_rfl) ⟨⟨by first | (simp; done) | (simp; omega) | omega, by go_simp⟩, ⟨by first | (simp; done) | (simp; omega) | omega, by go_simp⟩, trivial⟩ ?_
    repeat (first
      | go_big_quiet_skip
      | (go_big_quiet_want
         go_big_quiet_op
         first
         | go_big_quiet_on
         | (refine ⟨_, fun _ _ => rfl, ?_⟩; go_big_quiet_on)
         | (refine ⟨.agg #[.int .i64 (f.fractionBits : Int), .int .i64 (f.exponentBits : Int)], fun w' hw' => ?_, ?_⟩
            · (obtain ⟨_, ⟨_, hc0⟩, ⟨_, hc1⟩, _⟩ := hw'; go_simp; done)
            go_big_quiet_on)
         | (apply Exists.intro
            refine ⟨fun w' hw' => ?_, ?_⟩
            · (first
            | (go_at_call 58; exact hw'.call (U1.out _))
            | (go_at_call 61; exact hw'.call (N1.out _))
            | (go_at_call 59; exact hw'.call (Za.out _))
            | (go_at_call 64; exact hw'.call (If.out _))
            | (go_at_call 66; exact hw'.call (Wh.out _)))
            go_big_quiet_on)))
    refine wpQuiet_nil ?_
    rintro w82 ⟨g82, ⟨b82_0, c82_0⟩, ⟨b82_1, c82_1⟩, _⟩
    have n82_0 : w.heap.size < w82.heap.size := Nat.lt_of_lt_of_le b82_0 g82.2
    go_wp2_with (first
    | (go_at_call 58; refine (U1.out _).mono ?_; rintro en wq ⟨rfl, gq⟩; obtain ⟨lq_0, hq_0_0, hq_0_1⟩ := gq.c2 (w.heap.size) (.int .i64 (f.fractionBits : Int)) (.int .i64 (f.exponentBits : Int)))
    | (go_at_call 61; refine (N1.out _).mono ?_; rintro en wq ⟨rfl, gq⟩; obtain ⟨lq_0, hq_0_0, hq_0_1⟩ := gq.c2 (w.heap.size) (.int .i64 (f.fractionBits : Int)) (.int .i64 (f.exponentBits : Int)))
    | (go_at_call 59; refine (Za.out _).mono ?_; rintro en wq ⟨rfl, gq⟩; obtain ⟨lq_0, hq_0_0, hq_0_1⟩ := gq.c2 (w.heap.size) (.int .i64 (f.fractionBits : Int)) (.int .i64 (f.exponentBits : Int)))
    | (go_at_call 64; refine (If.out _).mono ?_; rintro en wq ⟨rfl, gq⟩; obtain ⟨lq_0, hq_0_0, hq_0_1⟩ := gq.c2 (w.heap.size) (.int .i64 (f.fractionBits : Int)) (.int .i64 (f.exponentBits : Int)))
    | (go_at_call 66; refine (Wh.out _).mono ?_; rintro en wq ⟨rfl, gq⟩; obtain ⟨lq_0, hq_0_0, hq_0_1⟩ := gq.c2 (w.heap.size) (.int .i64 (f.fractionBits : Int)) (.int .i64 (f.exponentBits : Int))))) | skip)
  all_goals go_ret
  all_goals go_light
  all_goals refine ⟨by first | rfl | simp, ?_⟩
  all_goals repeat (first | exact Grew.refl _ | assumption | refine Grew.drew ?_ | refine Grew.drewN ?_ _ | refine Grew.alloc ?_ _ | refine Grew.trans ?_ (by assumption))
end Go.Proofs.YtjkebimmddlccaaDoor
