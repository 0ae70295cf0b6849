/-
  The walk of the document's Add; no statement is proved here.
-/
import Derived.Test.YtjkebimmddlccaaDoorRefK
namespace Go.Proofs.YtjkebimmddlccaaDoor
open Go.RowKit
set_option linter.unusedVariables false
set_option linter.unusedSimpArgs false

set_option maxRecDepth 100000 in
set_option maxHeartbeats 2000000 in
theorem Add_a {f : Ieee.Format} (a b x y I R : Int) (w : World) (hi : (x == I) = true) (hk : (y == I) = true) (ab : (a != b) = true)
    (Za : CG 59 #[.agg #[.int .i64 (f.fractionBits : Int), .int .i64 (f.exponentBits : Int)], .int .u64 a] (.int .u64 x))
    (Zb : CG 59 #[.agg #[.int .i64 (f.fractionBits : Int), .int .i64 (f.exponentBits : Int)], .int .u64 b] (.int .u64 y))
    (If : CG 64 #[.agg #[.int .i64 (f.fractionBits : Int), .int .i64 (f.exponentBits : Int)]] (.int .u64 I))
    (Nn : CG 62 #[.agg #[.int .i64 (f.fractionBits : Int), .int .i64 (f.exponentBits : Int)]] (.int .u64 R)) :
    Calls Tryd.prog 67 #[.agg #[.int .i64 (f.fractionBits : Int), .int .i64 (f.exponentBits : Int)], .int .u64 a, .int .u64 b] w fun en w' => en = .returned (.int .u64 R) ∧ Grew w w' := by
  go_enter Tryd.func67, Tryd.ntmps67
  go_wp2_with (first
    | (go_at_call_of 59 (Value.int IntKind.u64 a); refine (Za.out _).mono ?_; rintro e w1 ⟨rfl, g1⟩; obtain ⟨l1_0, h1_0_0, h1_0_1⟩ := g1.c2 (w.heap.size) (.int .i64 (f.fractionBits : Int)) (.int .i64 (f.exponentBits : Int)))
    | (go_at_call_of 59 (Value.int IntKind.u64 b); refine (Zb.out _).mono ?_; rintro e w2 ⟨rfl, g2⟩; obtain ⟨l2_0, h2_0_0, h2_0_1⟩ := g2.c2 (w.heap.size) (.int .i64 (f.fractionBits : Int)) (.int .i64 (f.exponentBits : Int)))
    | (go_at_call 64; refine (If.out _).mono ?_; rintro e w3 ⟨rfl, g3⟩; obtain ⟨l3_0, h3_0_0, h3_0_1⟩ := g3.c2 (w.heap.size) (.int .i64 (f.fractionBits : Int)) (.int .i64 (f.exponentBits : Int)))
    | (go_at_call 62; refine (Nn.out _).mono ?_; rintro e w4 ⟨rfl, g4⟩; obtain ⟨l4_0, h4_0_0, h4_0_1⟩ := g4.c2 (w.heap.size) (.int .i64 (f.fractionBits : Int)) (.int .i64 (f.exponentBits : Int))))
  all_goals (first | (
    go_region_held3 (fun w' => w'.cell? ⟨w.heap.size, 0, none⟩ = some (.int .i64 (f.fractionBits : Int)) ∧ w'.cell? ⟨w.heap.size, 1, none⟩ = some (.int .i64 (f.exponentBits : Int))) (go_keep)
      (first
      | (go_at_call_of 59 (Value.int IntKind.u64 a); refine (Za.out _).mono ?_; rintro e w1 ⟨rfl, g1⟩; obtain ⟨l1_0, h1_0_0, h1_0_1⟩ := g1.c2 (w.heap.size) (.int .i64 (f.fractionBits : Int)) (.int .i64 (f.exponentBits : Int)))
      | (go_at_call_of 59 (Value.int IntKind.u64 b); refine (Zb.out _).mono ?_; rintro e w2 ⟨rfl, g2⟩; obtain ⟨l2_0, h2_0_0, h2_0_1⟩ := g2.c2 (w.heap.size) (.int .i64 (f.fractionBits : Int)) (.int .i64 (f.exponentBits : Int)))
      | (go_at_call 64; refine (If.out _).mono ?_; rintro e w3 ⟨rfl, g3⟩; obtain ⟨l3_0, h3_0_0, h3_0_1⟩ := g3.c2 (w.heap.size) (.int .i64 (f.fractionBits : Int)) (.int .i64 (f.exponentBits : Int)))
      | (go_at_call 62; refine (Nn.out _).mono ?_; rintro e w4 ⟨rfl, g4⟩; obtain ⟨l4_0, h4_0_0, h4_0_1⟩ := g4.c2 (w.heap.size) (.int .i64 (f.fractionBits : Int)) (.int .i64 (f.exponentBits : Int))))) | skip)
  all_goals (try go_wp2_with (first
    | (go_at_call_of 59 (Value.int IntKind.u64 a); refine (Za.out _).mono ?_; rintro e w1 ⟨rfl, g1⟩; obtain ⟨l1_0, h1_0_0, h1_0_1⟩ := g1.c2 (w.heap.size) (.int .i64 (f.fractionBits : Int)) (.int .i64 (f.exponentBits : Int)))
    | (go_at_call_of 59 (Value.int IntKind.u64 b); refine (Zb.out _).mono ?_; rintro e w2 ⟨rfl, g2⟩; obtain ⟨l2_0, h2_0_0, h2_0_1⟩ := g2.c2 (w.heap.size) (.int .i64 (f.fractionBits : Int)) (.int .i64 (f.exponentBits : Int)))
    | (go_at_call 64; refine (If.out _).mono ?_; rintro e w3 ⟨rfl, g3⟩; obtain ⟨l3_0, h3_0_0, h3_0_1⟩ := g3.c2 (w.heap.size) (.int .i64 (f.fractionBits : Int)) (.int .i64 (f.exponentBits : Int)))
    | (go_at_call 62; refine (Nn.out _).mono ?_; rintro e w4 ⟨rfl, g4⟩; obtain ⟨l4_0, h4_0_0, h4_0_1⟩ := g4.c2 (w.heap.size) (.int .i64 (f.fractionBits : Int)) (.int .i64 (f.exponentBits : Int)))))
  all_goals go_ret
  all_goals go_light
  all_goals refine ⟨by first | rfl | simp, ?_⟩
  all_goals repeat (first | exact Grew.refl _ | assumption | refine Grew.drew ?_ | refine Grew.drewN ?_ _ | refine Grew.alloc ?_ _ | refine Grew.set ?_ (by first | (simp; done) | (simp; omega) | omega) _ | refine Grew.trans ?_ (by assumption))
set_option maxRecDepth 100000 in
set_option maxHeartbeats 2000000 in
theorem Add_b {f : Ieee.Format} (a b x y I R : Int) (w : World) (hi : (x == I) = true) (hk : (y == I) = true) (ab : (a != b) = false)
    (Za : CG 59 #[.agg #[.int .i64 (f.fractionBits : Int), .int .i64 (f.exponentBits : Int)], .int .u64 a] (.int .u64 x))
    (Zb : CG 59 #[.agg #[.int .i64 (f.fractionBits : Int), .int .i64 (f.exponentBits : Int)], .int .u64 b] (.int .u64 y))
    (If : CG 64 #[.agg #[.int .i64 (f.fractionBits : Int), .int .i64 (f.exponentBits : Int)]] (.int .u64 I)) :
    Calls Tryd.prog 67 #[.agg #[.int .i64 (f.fractionBits : Int), .int .i64 (f.exponentBits : Int)], .int .u64 a, .int .u64 b] w fun en w' => en = .returned (.int .u64 a) ∧ Grew w w' := by
  go_enter Tryd.func67, Tryd.ntmps67
  go_wp2_with (first
    | (go_at_call_of 59 (Value.int IntKind.u64 a); refine (Za.out _).mono ?_; rintro e w1 ⟨rfl, g1⟩; obtain ⟨l1_0, h1_0_0, h1_0_1⟩ := g1.c2 (w.heap.size) (.int .i64 (f.fractionBits : Int)) (.int .i64 (f.exponentBits : Int)))
    | (go_at_call_of 59 (Value.int IntKind.u64 b); refine (Zb.out _).mono ?_; rintro e w2 ⟨rfl, g2⟩; obtain ⟨l2_0, h2_0_0, h2_0_1⟩ := g2.c2 (w.heap.size) (.int .i64 (f.fractionBits : Int)) (.int .i64 (f.exponentBits : Int)))
    | (go_at_call 64; refine (If.out _).mono ?_; rintro e w3 ⟨rfl, g3⟩; obtain ⟨l3_0, h3_0_0, h3_0_1⟩ := g3.c2 (w.heap.size) (.int .i64 (f.fractionBits : Int)) (.int .i64 (f.exponentBits : Int))))
  all_goals (first | (
    go_region_held3 (fun w' => w'.cell? ⟨w.heap.size, 0, none⟩ = some (.int .i64 (f.fractionBits : Int)) ∧ w'.cell? ⟨w.heap.size, 1, none⟩ = some (.int .i64 (f.exponentBits : Int))) (go_keep)
      (first
      | (go_at_call_of 59 (Value.int IntKind.u64 a); refine (Za.out _).mono ?_; rintro e w1 ⟨rfl, g1⟩; obtain ⟨l1_0, h1_0_0, h1_0_1⟩ := g1.c2 (w.heap.size) (.int .i64 (f.fractionBits : Int)) (.int .i64 (f.exponentBits : Int)))
      | (go_at_call_of 59 (Value.int IntKind.u64 b); refine (Zb.out _).mono ?_; rintro e w2 ⟨rfl, g2⟩; obtain ⟨l2_0, h2_0_0, h2_0_1⟩ := g2.c2 (w.heap.size) (.int .i64 (f.fractionBits : Int)) (.int .i64 (f.exponentBits : Int)))
      | (go_at_call 64; refine (If.out _).mono ?_; rintro e w3 ⟨rfl, g3⟩; obtain ⟨l3_0, h3_0_0, h3_0_1⟩ := g3.c2 (w.heap.size) (.int .i64 (f.fractionBits : Int)) (.int .i64 (f.exponentBits : Int))))) | skip)
  all_goals (try go_wp2_with (first
    | (go_at_call_of 59 (Value.int IntKind.u64 a); refine (Za.out _).mono ?_; rintro e w1 ⟨rfl, g1⟩; obtain ⟨l1_0, h1_0_0, h1_0_1⟩ := g1.c2 (w.heap.size) (.int .i64 (f.fractionBits : Int)) (.int .i64 (f.exponentBits : Int)))
    | (go_at_call_of 59 (Value.int IntKind.u64 b); refine (Zb.out _).mono ?_; rintro e w2 ⟨rfl, g2⟩; obtain ⟨l2_0, h2_0_0, h2_0_1⟩ := g2.c2 (w.heap.size) (.int .i64 (f.fractionBits : Int)) (.int .i64 (f.exponentBits : Int)))
    | (go_at_call 64; refine (If.out _).mono ?_; rintro e w3 ⟨rfl, g3⟩; obtain ⟨l3_0, h3_0_0, h3_0_1⟩ := g3.c2 (w.heap.size) (.int .i64 (f.fractionBits : Int)) (.int .i64 (f.exponentBits : Int)))))
  all_goals go_ret
  all_goals go_light
  all_goals refine ⟨by first | rfl | simp, ?_⟩
  all_goals repeat (first | exact Grew.refl _ | assumption | refine Grew.drew ?_ | refine Grew.drewN ?_ _ | refine Grew.alloc ?_ _ | refine Grew.set ?_ (by first | (simp; done) | (simp; omega) | omega) _ | refine Grew.trans ?_ (by assumption))
set_option maxRecDepth 100000 in
set_option maxHeartbeats 2000000 in
theorem Add_c {f : Ieee.Format} (a b x y I R : Int) (w : World) (hi : (x == I) = true) (hk : (y == I) = false) 
    (Za : CG 59 #[.agg #[.int .i64 (f.fractionBits : Int), .int .i64 (f.exponentBits : Int)], .int .u64 a] (.int .u64 x))
    (Zb : CG 59 #[.agg #[.int .i64 (f.fractionBits : Int), .int .i64 (f.exponentBits : Int)], .int .u64 b] (.int .u64 y))
    (If : CG 64 #[.agg #[.int .i64 (f.fractionBits : Int), .int .i64 (f.exponentBits : Int)]] (.int .u64 I)) :
    Calls Tryd.prog 67 #[.agg #[.int .i64 (f.fractionBits : Int), .int .i64 (f.exponentBits : Int)], .int .u64 a, .int .u64 b] w fun en w' => en = .returned (.int .u64 a) ∧ Grew w w' := by
  go_enter Tryd.func67, Tryd.ntmps67
  go_wp2_with (first
    | (go_at_call_of 59 (Value.int IntKind.u64 a); refine (Za.out _).mono ?_; rintro e w1 ⟨rfl, g1⟩; obtain ⟨l1_0, h1_0_0, h1_0_1⟩ := g1.c2 (w.heap.size) (.int .i64 (f.fractionBits : Int)) (.int .i64 (f.exponentBits : Int)))
    | (go_at_call_of 59 (Value.int IntKind.u64 b); refine (Zb.out _).mono ?_; rintro e w2 ⟨rfl, g2⟩; obtain ⟨l2_0, h2_0_0, h2_0_1⟩ := g2.c2 (w.heap.size) (.int .i64 (f.fractionBits : Int)) (.int .i64 (f.exponentBits : Int)))
    | (go_at_call 64; refine (If.out _).mono ?_; rintro e w3 ⟨rfl, g3⟩; obtain ⟨l3_0, h3_0_0, h3_0_1⟩ := g3.c2 (w.heap.size) (.int .i64 (f.fractionBits : Int)) (.int .i64 (f.exponentBits : Int))))
  all_goals (first | (
    go_region_held3 (fun w' => w'.cell? ⟨w.heap.size, 0, none⟩ = some (.int .i64 (f.fractionBits : Int)) ∧ w'.cell? ⟨w.heap.size, 1, none⟩ = some (.int .i64 (f.exponentBits : Int))) (go_keep)
      (first
      | (go_at_call_of 59 (Value.int IntKind.u64 a); refine (Za.out _).mono ?_; rintro e w1 ⟨rfl, g1⟩; obtain ⟨l1_0, h1_0_0, h1_0_1⟩ := g1.c2 (w.heap.size) (.int .i64 (f.fractionBits : Int)) (.int .i64 (f.exponentBits : Int)))
      | (go_at_call_of 59 (Value.int IntKind.u64 b); refine (Zb.out _).mono ?_; rintro e w2 ⟨rfl, g2⟩; obtain ⟨l2_0, h2_0_0, h2_0_1⟩ := g2.c2 (w.heap.size) (.int .i64 (f.fractionBits : Int)) (.int .i64 (f.exponentBits : Int)))
      | (go_at_call 64; refine (If.out _).mono ?_; rintro e w3 ⟨rfl, g3⟩; obtain ⟨l3_0, h3_0_0, h3_0_1⟩ := g3.c2 (w.heap.size) (.int .i64 (f.fractionBits : Int)) (.int .i64 (f.exponentBits : Int))))) | skip)
  all_goals (try go_wp2_with (first
    | (go_at_call_of 59 (Value.int IntKind.u64 a); refine (Za.out _).mono ?_; rintro e w1 ⟨rfl, g1⟩; obtain ⟨l1_0, h1_0_0, h1_0_1⟩ := g1.c2 (w.heap.size) (.int .i64 (f.fractionBits : Int)) (.int .i64 (f.exponentBits : Int)))
    | (go_at_call_of 59 (Value.int IntKind.u64 b); refine (Zb.out _).mono ?_; rintro e w2 ⟨rfl, g2⟩; obtain ⟨l2_0, h2_0_0, h2_0_1⟩ := g2.c2 (w.heap.size) (.int .i64 (f.fractionBits : Int)) (.int .i64 (f.exponentBits : Int)))
    | (go_at_call 64; refine (If.out _).mono ?_; rintro e w3 ⟨rfl, g3⟩; obtain ⟨l3_0, h3_0_0, h3_0_1⟩ := g3.c2 (w.heap.size) (.int .i64 (f.fractionBits : Int)) (.int .i64 (f.exponentBits : Int)))))
  all_goals go_ret
  all_goals go_light
  all_goals refine ⟨by first | rfl | simp, ?_⟩
  all_goals repeat (first | exact Grew.refl _ | assumption | refine Grew.drew ?_ | refine Grew.drewN ?_ _ | refine Grew.alloc ?_ _ | refine Grew.set ?_ (by first | (simp; done) | (simp; omega) | omega) _ | refine Grew.trans ?_ (by assumption))
set_option maxRecDepth 100000 in
set_option maxHeartbeats 2000000 in
theorem Add_d {f : Ieee.Format} (a b x y I R : Int) (w : World) (hi : (x == I) = false) (hk : (y == I) = true) 
    (Za : CG 59 #[.agg #[.int .i64 (f.fractionBits : Int), .int .i64 (f.exponentBits : Int)], .int .u64 a] (.int .u64 x))
    (Zb : CG 59 #[.agg #[.int .i64 (f.fractionBits : Int), .int .i64 (f.exponentBits : Int)], .int .u64 b] (.int .u64 y))
    (If : CG 64 #[.agg #[.int .i64 (f.fractionBits : Int), .int .i64 (f.exponentBits : Int)]] (.int .u64 I)) :
    Calls Tryd.prog 67 #[.agg #[.int .i64 (f.fractionBits : Int), .int .i64 (f.exponentBits : Int)], .int .u64 a, .int .u64 b] w fun en w' => en = .returned (.int .u64 b) ∧ Grew w w' := by
  go_enter Tryd.func67, Tryd.ntmps67
  go_wp2_with (first
    | (go_at_call_of 59 (Value.int IntKind.u64 a); refine (Za.out _).mono ?_; rintro e w1 ⟨rfl, g1⟩; obtain ⟨l1_0, h1_0_0, h1_0_1⟩ := g1.c2 (w.heap.size) (.int .i64 (f.fractionBits : Int)) (.int .i64 (f.exponentBits : Int)))
    | (go_at_call_of 59 (Value.int IntKind.u64 b); refine (Zb.out _).mono ?_; rintro e w2 ⟨rfl, g2⟩; obtain ⟨l2_0, h2_0_0, h2_0_1⟩ := g2.c2 (w.heap.size) (.int .i64 (f.fractionBits : Int)) (.int .i64 (f.exponentBits : Int)))
    | (go_at_call 64; refine (If.out _).mono ?_; rintro e w3 ⟨rfl, g3⟩; obtain ⟨l3_0, h3_0_0, h3_0_1⟩ := g3.c2 (w.heap.size) (.int .i64 (f.fractionBits : Int)) (.int .i64 (f.exponentBits : Int))))
  all_goals (first | (
    go_region_held3 (fun w' => w'.cell? ⟨w.heap.size, 0, none⟩ = some (.int .i64 (f.fractionBits : Int)) ∧ w'.cell? ⟨w.heap.size, 1, none⟩ = some (.int .i64 (f.exponentBits : Int))) (go_keep)
      (first
      | (go_at_call_of 59 (Value.int IntKind.u64 a); refine (Za.out _).mono ?_; rintro e w1 ⟨rfl, g1⟩; obtain ⟨l1_0, h1_0_0, h1_0_1⟩ := g1.c2 (w.heap.size) (.int .i64 (f.fractionBits : Int)) (.int .i64 (f.exponentBits : Int)))
      | (go_at_call_of 59 (Value.int IntKind.u64 b); refine (Zb.out _).mono ?_; rintro e w2 ⟨rfl, g2⟩; obtain ⟨l2_0, h2_0_0, h2_0_1⟩ := g2.c2 (w.heap.size) (.int .i64 (f.fractionBits : Int)) (.int .i64 (f.exponentBits : Int)))
      | (go_at_call 64; refine (If.out _).mono ?_; rintro e w3 ⟨rfl, g3⟩; obtain ⟨l3_0, h3_0_0, h3_0_1⟩ := g3.c2 (w.heap.size) (.int .i64 (f.fractionBits : Int)) (.int .i64 (f.exponentBits : Int))))) | skip)
  all_goals (try go_wp2_with (first
    | (go_at_call_of 59 (Value.int IntKind.u64 a); refine (Za.out _).mono ?_; rintro e w1 ⟨rfl, g1⟩; obtain ⟨l1_0, h1_0_0, h1_0_1⟩ := g1.c2 (w.heap.size) (.int .i64 (f.fractionBits : Int)) (.int .i64 (f.exponentBits : Int)))
    | (go_at_call_of 59 (Value.int IntKind.u64 b); refine (Zb.out _).mono ?_; rintro e w2 ⟨rfl, g2⟩; obtain ⟨l2_0, h2_0_0, h2_0_1⟩ := g2.c2 (w.heap.size) (.int .i64 (f.fractionBits : Int)) (.int .i64 (f.exponentBits : Int)))
    | (go_at_call 64; refine (If.out _).mono ?_; rintro e w3 ⟨rfl, g3⟩; obtain ⟨l3_0, h3_0_0, h3_0_1⟩ := g3.c2 (w.heap.size) (.int .i64 (f.fractionBits : Int)) (.int .i64 (f.exponentBits : Int)))))
  all_goals go_ret
  all_goals go_light
  all_goals refine ⟨by first | rfl | simp, ?_⟩
  all_goals repeat (first | exact Grew.refl _ | assumption | refine Grew.drew ?_ | refine Grew.drewN ?_ _ | refine Grew.alloc ?_ _ | refine Grew.set ?_ (by first | (simp; done) | (simp; omega) | omega) _ | refine Grew.trans ?_ (by assumption))
set_option maxRecDepth 100000 in
set_option maxHeartbeats 2000000 in
theorem Add_e {f : Ieee.Format} (a b x y I R : Int) (w : World) (hi : (x == I) = false) (hk : (y == I) = false) (x0 : (x == 0) = true) (y0 : (y == 0) = true)
    (Za : CG 59 #[.agg #[.int .i64 (f.fractionBits : Int), .int .i64 (f.exponentBits : Int)], .int .u64 a] (.int .u64 x))
    (Zb : CG 59 #[.agg #[.int .i64 (f.fractionBits : Int), .int .i64 (f.exponentBits : Int)], .int .u64 b] (.int .u64 y))
    (If : CG 64 #[.agg #[.int .i64 (f.fractionBits : Int), .int .i64 (f.exponentBits : Int)]] (.int .u64 I)) :
    Calls Tryd.prog 67 #[.agg #[.int .i64 (f.fractionBits : Int), .int .i64 (f.exponentBits : Int)], .int .u64 a, .int .u64 b] w fun en w' => en = .returned (.int .u64 (bits .and .u64 a b)) ∧ Grew w w' := by
  go_enter Tryd.func67, Tryd.ntmps67
  go_wp2_with (first
    | (go_at_call_of 59 (Value.int IntKind.u64 a); refine (Za.out _).mono ?_; rintro e w1 ⟨rfl, g1⟩; obtain ⟨l1_0, h1_0_0, h1_0_1⟩ := g1.c2 (w.heap.size) (.int .i64 (f.fractionBits : Int)) (.int .i64 (f.exponentBits : Int)))
    | (go_at_call_of 59 (Value.int IntKind.u64 b); refine (Zb.out _).mono ?_; rintro e w2 ⟨rfl, g2⟩; obtain ⟨l2_0, h2_0_0, h2_0_1⟩ := g2.c2 (w.heap.size) (.int .i64 (f.fractionBits : Int)) (.int .i64 (f.exponentBits : Int)))
    | (go_at_call 64; refine (If.out _).mono ?_; rintro e w3 ⟨rfl, g3⟩; obtain ⟨l3_0, h3_0_0, h3_0_1⟩ := g3.c2 (w.heap.size) (.int .i64 (f.fractionBits : Int)) (.int .i64 (f.exponentBits : Int))))
  all_goals (first | (
    go_region_held3 (fun w' => w'.cell? ⟨w.heap.size, 0, none⟩ = some (.int .i64 (f.fractionBits : Int)) ∧ w'.cell? ⟨w.heap.size, 1, none⟩ = some (.int .i64 (f.exponentBits : Int))) (go_keep)
      (first
      | (go_at_call_of 59 (Value.int IntKind.u64 a); refine (Za.out _).mono ?_; rintro e w1 ⟨rfl, g1⟩; obtain ⟨l1_0, h1_0_0, h1_0_1⟩ := g1.c2 (w.heap.size) (.int .i64 (f.fractionBits : Int)) (.int .i64 (f.exponentBits : Int)))
      | (go_at_call_of 59 (Value.int IntKind.u64 b); refine (Zb.out _).mono ?_; rintro e w2 ⟨rfl, g2⟩; obtain ⟨l2_0, h2_0_0, h2_0_1⟩ := g2.c2 (w.heap.size) (.int .i64 (f.fractionBits : Int)) (.int .i64 (f.exponentBits : Int)))
      | (go_at_call 64; refine (If.out _).mono ?_; rintro e w3 ⟨rfl, g3⟩; obtain ⟨l3_0, h3_0_0, h3_0_1⟩ := g3.c2 (w.heap.size) (.int .i64 (f.fractionBits : Int)) (.int .i64 (f.exponentBits : Int))))) | skip)
  all_goals (try go_wp2_with (first
    | (go_at_call_of 59 (Value.int IntKind.u64 a); refine (Za.out _).mono ?_; rintro e w1 ⟨rfl, g1⟩; obtain ⟨l1_0, h1_0_0, h1_0_1⟩ := g1.c2 (w.heap.size) (.int .i64 (f.fractionBits : Int)) (.int .i64 (f.exponentBits : Int)))
    | (go_at_call_of 59 (Value.int IntKind.u64 b); refine (Zb.out _).mono ?_; rintro e w2 ⟨rfl, g2⟩; obtain ⟨l2_0, h2_0_0, h2_0_1⟩ := g2.c2 (w.heap.size) (.int .i64 (f.fractionBits : Int)) (.int .i64 (f.exponentBits : Int)))
    | (go_at_call 64; refine (If.out _).mono ?_; rintro e w3 ⟨rfl, g3⟩; obtain ⟨l3_0, h3_0_0, h3_0_1⟩ := g3.c2 (w.heap.size) (.int .i64 (f.fractionBits : Int)) (.int .i64 (f.exponentBits : Int)))))
  all_goals (first | (
    go_region_held3 (fun w' => w'.cell? ⟨w.heap.size, 0, none⟩ = some (.int .i64 (f.fractionBits : Int)) ∧ w'.cell? ⟨w.heap.size, 1, none⟩ = some (.int .i64 (f.exponentBits : Int))) (go_keep)
      (first
      | (go_at_call_of 59 (Value.int IntKind.u64 a); refine (Za.out _).mono ?_; rintro e w1 ⟨rfl, g1⟩; obtain ⟨l1_0, h1_0_0, h1_0_1⟩ := g1.c2 (w.heap.size) (.int .i64 (f.fractionBits : Int)) (.int .i64 (f.exponentBits : Int)))
      | (go_at_call_of 59 (Value.int IntKind.u64 b); refine (Zb.out _).mono ?_; rintro e w2 ⟨rfl, g2⟩; obtain ⟨l2_0, h2_0_0, h2_0_1⟩ := g2.c2 (w.heap.size) (.int .i64 (f.fractionBits : Int)) (.int .i64 (f.exponentBits : Int)))
      | (go_at_call 64; refine (If.out _).mono ?_; rintro e w3 ⟨rfl, g3⟩; obtain ⟨l3_0, h3_0_0, h3_0_1⟩ := g3.c2 (w.heap.size) (.int .i64 (f.fractionBits : Int)) (.int .i64 (f.exponentBits : Int))))) | skip)
  all_goals (try go_wp2_with (first
    | (go_at_call_of 59 (Value.int IntKind.u64 a); refine (Za.out _).mono ?_; rintro e w1 ⟨rfl, g1⟩; obtain ⟨l1_0, h1_0_0, h1_0_1⟩ := g1.c2 (w.heap.size) (.int .i64 (f.fractionBits : Int)) (.int .i64 (f.exponentBits : Int)))
    | (go_at_call_of 59 (Value.int IntKind.u64 b); refine (Zb.out _).mono ?_; rintro e w2 ⟨rfl, g2⟩; obtain ⟨l2_0, h2_0_0, h2_0_1⟩ := g2.c2 (w.heap.size) (.int .i64 (f.fractionBits : Int)) (.int .i64 (f.exponentBits : Int)))
    | (go_at_call 64; refine (If.out _).mono ?_; rintro e w3 ⟨rfl, g3⟩; obtain ⟨l3_0, h3_0_0, h3_0_1⟩ := g3.c2 (w.heap.size) (.int .i64 (f.fractionBits : Int)) (.int .i64 (f.exponentBits : Int)))))
  all_goals go_ret
  all_goals go_light
  all_goals refine ⟨by first | rfl | simp, ?_⟩
  all_goals repeat (first | exact Grew.refl _ | assumption | refine Grew.drew ?_ | refine Grew.drewN ?_ _ | refine Grew.alloc ?_ _ | refine Grew.set ?_ (by first | (simp; done) | (simp; omega) | omega) _ | refine Grew.trans ?_ (by assumption))
set_option maxRecDepth 100000 in
set_option maxHeartbeats 2000000 in
theorem Add_f {f : Ieee.Format} (a b x y I R : Int) (w : World) (hi : (x == I) = false) (hk : (y == I) = false) (x0 : (x == 0) = true) (y0 : (y == 0) = false)
    (Za : CG 59 #[.agg #[.int .i64 (f.fractionBits : Int), .int .i64 (f.exponentBits : Int)], .int .u64 a] (.int .u64 x))
    (Zb : CG 59 #[.agg #[.int .i64 (f.fractionBits : Int), .int .i64 (f.exponentBits : Int)], .int .u64 b] (.int .u64 y))
    (If : CG 64 #[.agg #[.int .i64 (f.fractionBits : Int), .int .i64 (f.exponentBits : Int)]] (.int .u64 I))
    (Sm : CG 94 #[.agg #[.int .i64 (f.fractionBits : Int), .int .i64 (f.exponentBits : Int)], .int .u64 a, .int .u64 b] (.int .u64 R)) :
    Calls Tryd.prog 67 #[.agg #[.int .i64 (f.fractionBits : Int), .int .i64 (f.exponentBits : Int)], .int .u64 a, .int .u64 b] w fun en w' => en = .returned (.int .u64 R) ∧ Grew w w' := by
  go_enter Tryd.func67, Tryd.ntmps67
  go_wp2_with (first
    | (go_at_call_of 59 (Value.int IntKind.u64 a); refine (Za.out _).mono ?_; rintro e w1 ⟨rfl, g1⟩; obtain ⟨l1_0, h1_0_0, h1_0_1⟩ := g1.c2 (w.heap.size) (.int .i64 (f.fractionBits : Int)) (.int .i64 (f.exponentBits : Int)))
    | (go_at_call_of 59 (Value.int IntKind.u64 b); refine (Zb.out _).mono ?_; rintro e w2 ⟨rfl, g2⟩; obtain ⟨l2_0, h2_0_0, h2_0_1⟩ := g2.c2 (w.heap.size) (.int .i64 (f.fractionBits : Int)) (.int .i64 (f.exponentBits : Int)))
    | (go_at_call 64; refine (If.out _).mono ?_; rintro e w3 ⟨rfl, g3⟩; obtain ⟨l3_0, h3_0_0, h3_0_1⟩ := g3.c2 (w.heap.size) (.int .i64 (f.fractionBits : Int)) (.int .i64 (f.exponentBits : Int)))
    | (go_at_call 94; refine (Sm.out _).mono ?_; rintro e w4 ⟨rfl, g4⟩; obtain ⟨l4_0, h4_0_0, h4_0_1⟩ := g4.c2 (w.heap.size) (.int .i64 (f.fractionBits : Int)) (.int .i64 (f.exponentBits : Int))))
  all_goals (first | (
    go_region_held3 (fun w' => w'.cell? ⟨w.heap.size, 0, none⟩ = some (.int .i64 (f.fractionBits : Int)) ∧ w'.cell? ⟨w.heap.size, 1, none⟩ = some (.int .i64 (f.exponentBits : Int))) (go_keep)
      (first
      | (go_at_call_of 59 (Value.int IntKind.u64 a); refine (Za.out _).mono ?_; rintro e w1 ⟨rfl, g1⟩; obtain ⟨l1_0, h1_0_0, h1_0_1⟩ := g1.c2 (w.heap.size) (.int .i64 (f.fractionBits : Int)) (.int .i64 (f.exponentBits : Int)))
      | (go_at_call_of 59 (Value.int IntKind.u64 b); refine (Zb.out _).mono ?_; rintro e w2 ⟨rfl, g2⟩; obtain ⟨l2_0, h2_0_0, h2_0_1⟩ := g2.c2 (w.heap.size) (.int .i64 (f.fractionBits : Int)) (.int .i64 (f.exponentBits : Int)))
      | (go_at_call 64; refine (If.out _).mono ?_; rintro e w3 ⟨rfl, g3⟩; obtain ⟨l3_0, h3_0_0, h3_0_1⟩ := g3.c2 (w.heap.size) (.int .i64 (f.fractionBits : Int)) (.int .i64 (f.exponentBits : Int)))
      | (go_at_call 94; refine (Sm.out _).mono ?_; rintro e w4 ⟨rfl, g4⟩; obtain ⟨l4_0, h4_0_0, h4_0_1⟩ := g4.c2 (w.heap.size) (.int .i64 (f.fractionBits : Int)) (.int .i64 (f.exponentBits : Int))))) | skip)
  all_goals (try go_wp2_with (first
    | (go_at_call_of 59 (Value.int IntKind.u64 a); refine (Za.out _).mono ?_; rintro e w1 ⟨rfl, g1⟩; obtain ⟨l1_0, h1_0_0, h1_0_1⟩ := g1.c2 (w.heap.size) (.int .i64 (f.fractionBits : Int)) (.int .i64 (f.exponentBits : Int)))
    | (go_at_call_of 59 (Value.int IntKind.u64 b); refine (Zb.out _).mono ?_; rintro e w2 ⟨rfl, g2⟩; obtain ⟨l2_0, h2_0_0, h2_0_1⟩ := g2.c2 (w.heap.size) (.int .i64 (f.fractionBits : Int)) (.int .i64 (f.exponentBits : Int)))
    | (go_at_call 64; refine (If.out _).mono ?_; rintro e w3 ⟨rfl, g3⟩; obtain ⟨l3_0, h3_0_0, h3_0_1⟩ := g3.c2 (w.heap.size) (.int .i64 (f.fractionBits : Int)) (.int .i64 (f.exponentBits : Int)))
    | (go_at_call 94; refine (Sm.out _).mono ?_; rintro e w4 ⟨rfl, g4⟩; obtain ⟨l4_0, h4_0_0, h4_0_1⟩ := g4.c2 (w.heap.size) (.int .i64 (f.fractionBits : Int)) (.int .i64 (f.exponentBits : Int)))))
  all_goals (first | (
    go_region_held3 (fun w' => w'.cell? ⟨w.heap.size, 0, none⟩ = some (.int .i64 (f.fractionBits : Int)) ∧ w'.cell? ⟨w.heap.size, 1, none⟩ = some (.int .i64 (f.exponentBits : Int))) (go_keep)
      (first
      | (go_at_call_of 59 (Value.int IntKind.u64 a); refine (Za.out _).mono ?_; rintro e w1 ⟨rfl, g1⟩; obtain ⟨l1_0, h1_0_0, h1_0_1⟩ := g1.c2 (w.heap.size) (.int .i64 (f.fractionBits : Int)) (.int .i64 (f.exponentBits : Int)))
      | (go_at_call_of 59 (Value.int IntKind.u64 b); refine (Zb.out _).mono ?_; rintro e w2 ⟨rfl, g2⟩; obtain ⟨l2_0, h2_0_0, h2_0_1⟩ := g2.c2 (w.heap.size) (.int .i64 (f.fractionBits : Int)) (.int .i64 (f.exponentBits : Int)))
      | (go_at_call 64; refine (If.out _).mono ?_; rintro e w3 ⟨rfl, g3⟩; obtain ⟨l3_0, h3_0_0, h3_0_1⟩ := g3.c2 (w.heap.size) (.int .i64 (f.fractionBits : Int)) (.int .i64 (f.exponentBits : Int)))
      | (go_at_call 94; refine (Sm.out _).mono ?_; rintro e w4 ⟨rfl, g4⟩; obtain ⟨l4_0, h4_0_0, h4_0_1⟩ := g4.c2 (w.heap.size) (.int .i64 (f.fractionBits : Int)) (.int .i64 (f.exponentBits : Int))))) | skip)
  all_goals (try go_wp2_with (first
    | (go_at_call_of 59 (Value.int IntKind.u64 a); refine (Za.out _).mono ?_; rintro e w1 ⟨rfl, g1⟩; obtain ⟨l1_0, h1_0_0, h1_0_1⟩ := g1.c2 (w.heap.size) (.int .i64 (f.fractionBits : Int)) (.int .i64 (f.exponentBits : Int)))
    | (go_at_call_of 59 (Value.int IntKind.u64 b); refine (Zb.out _).mono ?_; rintro e w2 ⟨rfl, g2⟩; obtain ⟨l2_0, h2_0_0, h2_0_1⟩ := g2.c2 (w.heap.size) (.int .i64 (f.fractionBits : Int)) (.int .i64 (f.exponentBits : Int)))
    | (go_at_call 64; refine (If.out _).mono ?_; rintro e w3 ⟨rfl, g3⟩; obtain ⟨l3_0, h3_0_0, h3_0_1⟩ := g3.c2 (w.heap.size) (.int .i64 (f.fractionBits : Int)) (.int .i64 (f.exponentBits : Int)))
    | (go_at_call 94; refine (Sm.out _).mono ?_; rintro e w4 ⟨rfl, g4⟩; obtain ⟨l4_0, h4_0_0, h4_0_1⟩ := g4.c2 (w.heap.size) (.int .i64 (f.fractionBits : Int)) (.int .i64 (f.exponentBits : Int)))))
  all_goals go_ret
  all_goals go_light
  all_goals refine ⟨by first | rfl | simp, ?_⟩
  all_goals repeat (first | exact Grew.refl _ | assumption | refine Grew.drew ?_ | refine Grew.drewN ?_ _ | refine Grew.alloc ?_ _ | refine Grew.set ?_ (by first | (simp; done) | (simp; omega) | omega) _ | refine Grew.trans ?_ (by assumption))
set_option maxRecDepth 100000 in
set_option maxHeartbeats 2000000 in
theorem Add_g {f : Ieee.Format} (a b x y I R : Int) (w : World) (hi : (x == I) = false) (hk : (y == I) = false) (x0 : (x == 0) = false)
    (Za : CG 59 #[.agg #[.int .i64 (f.fractionBits : Int), .int .i64 (f.exponentBits : Int)], .int .u64 a] (.int .u64 x))
    (Zb : CG 59 #[.agg #[.int .i64 (f.fractionBits : Int), .int .i64 (f.exponentBits : Int)], .int .u64 b] (.int .u64 y))
    (If : CG 64 #[.agg #[.int .i64 (f.fractionBits : Int), .int .i64 (f.exponentBits : Int)]] (.int .u64 I))
    (Sm : CG 94 #[.agg #[.int .i64 (f.fractionBits : Int), .int .i64 (f.exponentBits : Int)], .int .u64 a, .int .u64 b] (.int .u64 R)) :
    Calls Tryd.prog 67 #[.agg #[.int .i64 (f.fractionBits : Int), .int .i64 (f.exponentBits : Int)], .int .u64 a, .int .u64 b] w fun en w' => en = .returned (.int .u64 R) ∧ Grew w w' := by
  go_enter Tryd.func67, Tryd.ntmps67
  go_wp2_with (first
    | (go_at_call_of 59 (Value.int IntKind.u64 a); refine (Za.out _).mono ?_; rintro e w1 ⟨rfl, g1⟩; obtain ⟨l1_0, h1_0_0, h1_0_1⟩ := g1.c2 (w.heap.size) (.int .i64 (f.fractionBits : Int)) (.int .i64 (f.exponentBits : Int)))
    | (go_at_call_of 59 (Value.int IntKind.u64 b); refine (Zb.out _).mono ?_; rintro e w2 ⟨rfl, g2⟩; obtain ⟨l2_0, h2_0_0, h2_0_1⟩ := g2.c2 (w.heap.size) (.int .i64 (f.fractionBits : Int)) (.int .i64 (f.exponentBits : Int)))
    | (go_at_call 64; refine (If.out _).mono ?_; rintro e w3 ⟨rfl, g3⟩; obtain ⟨l3_0, h3_0_0, h3_0_1⟩ := g3.c2 (w.heap.size) (.int .i64 (f.fractionBits : Int)) (.int .i64 (f.exponentBits : Int)))
    | (go_at_call 94; refine (Sm.out _).mono ?_; rintro e w4 ⟨rfl, g4⟩; obtain ⟨l4_0, h4_0_0, h4_0_1⟩ := g4.c2 (w.heap.size) (.int .i64 (f.fractionBits : Int)) (.int .i64 (f.exponentBits : Int))))
  all_goals (first | (
    go_region_held3 (fun w' => w'.cell? ⟨w.heap.size, 0, none⟩ = some (.int .i64 (f.fractionBits : Int)) ∧ w'.cell? ⟨w.heap.size, 1, none⟩ = some (.int .i64 (f.exponentBits : Int))) (go_keep)
      (first
      | (go_at_call_of 59 (Value.int IntKind.u64 a); refine (Za.out _).mono ?_; rintro e w1 ⟨rfl, g1⟩; obtain ⟨l1_0, h1_0_0, h1_0_1⟩ := g1.c2 (w.heap.size) (.int .i64 (f.fractionBits : Int)) (.int .i64 (f.exponentBits : Int)))
      | (go_at_call_of 59 (Value.int IntKind.u64 b); refine (Zb.out _).mono ?_; rintro e w2 ⟨rfl, g2⟩; obtain ⟨l2_0, h2_0_0, h2_0_1⟩ := g2.c2 (w.heap.size) (.int .i64 (f.fractionBits : Int)) (.int .i64 (f.exponentBits : Int)))
      | (go_at_call 64; refine (If.out _).mono ?_; rintro e w3 ⟨rfl, g3⟩; obtain ⟨l3_0, h3_0_0, h3_0_1⟩ := g3.c2 (w.heap.size) (.int .i64 (f.fractionBits : Int)) (.int .i64 (f.exponentBits : Int)))
      | (go_at_call 94; refine (Sm.out _).mono ?_; rintro e w4 ⟨rfl, g4⟩; obtain ⟨l4_0, h4_0_0, h4_0_1⟩ := g4.c2 (w.heap.size) (.int .i64 (f.fractionBits : Int)) (.int .i64 (f.exponentBits : Int))))) | skip)
  all_goals (try go_wp2_with (first
    | (go_at_call_of 59 (Value.int IntKind.u64 a); refine (Za.out _).mono ?_; rintro e w1 ⟨rfl, g1⟩; obtain ⟨l1_0, h1_0_0, h1_0_1⟩ := g1.c2 (w.heap.size) (.int .i64 (f.fractionBits : Int)) (.int .i64 (f.exponentBits : Int)))
    | (go_at_call_of 59 (Value.int IntKind.u64 b); refine (Zb.out _).mono ?_; rintro e w2 ⟨rfl, g2⟩; obtain ⟨l2_0, h2_0_0, h2_0_1⟩ := g2.c2 (w.heap.size) (.int .i64 (f.fractionBits : Int)) (.int .i64 (f.exponentBits : Int)))
    | (go_at_call 64; refine (If.out _).mono ?_; rintro e w3 ⟨rfl, g3⟩; obtain ⟨l3_0, h3_0_0, h3_0_1⟩ := g3.c2 (w.heap.size) (.int .i64 (f.fractionBits : Int)) (.int .i64 (f.exponentBits : Int)))
    | (go_at_call 94; refine (Sm.out _).mono ?_; rintro e w4 ⟨rfl, g4⟩; obtain ⟨l4_0, h4_0_0, h4_0_1⟩ := g4.c2 (w.heap.size) (.int .i64 (f.fractionBits : Int)) (.int .i64 (f.exponentBits : Int)))))
  all_goals (first | (
    go_region_held3 (fun w' => w'.cell? ⟨w.heap.size, 0, none⟩ = some (.int .i64 (f.fractionBits : Int)) ∧ w'.cell? ⟨w.heap.size, 1, none⟩ = some (.int .i64 (f.exponentBits : Int))) (go_keep)
      (first
      | (go_at_call_of 59 (Value.int IntKind.u64 a); refine (Za.out _).mono ?_; rintro e w1 ⟨rfl, g1⟩; obtain ⟨l1_0, h1_0_0, h1_0_1⟩ := g1.c2 (w.heap.size) (.int .i64 (f.fractionBits : Int)) (.int .i64 (f.exponentBits : Int)))
      | (go_at_call_of 59 (Value.int IntKind.u64 b); refine (Zb.out _).mono ?_; rintro e w2 ⟨rfl, g2⟩; obtain ⟨l2_0, h2_0_0, h2_0_1⟩ := g2.c2 (w.heap.size) (.int .i64 (f.fractionBits : Int)) (.int .i64 (f.exponentBits : Int)))
      | (go_at_call 64; refine (If.out _).mono ?_; rintro e w3 ⟨rfl, g3⟩; obtain ⟨l3_0, h3_0_0, h3_0_1⟩ := g3.c2 (w.heap.size) (.int .i64 (f.fractionBits : Int)) (.int .i64 (f.exponentBits : Int)))
      | (go_at_call 94; refine (Sm.out _).mono ?_; rintro e w4 ⟨rfl, g4⟩; obtain ⟨l4_0, h4_0_0, h4_0_1⟩ := g4.c2 (w.heap.size) (.int .i64 (f.fractionBits : Int)) (.int .i64 (f.exponentBits : Int))))) | skip)
  all_goals (try go_wp2_with (first
    | (go_at_call_of 59 (Value.int IntKind.u64 a); refine (Za.out _).mono ?_; rintro e w1 ⟨rfl, g1⟩; obtain ⟨l1_0, h1_0_0, h1_0_1⟩ := g1.c2 (w.heap.size) (.int .i64 (f.fractionBits : Int)) (.int .i64 (f.exponentBits : Int)))
    | (go_at_call_of 59 (Value.int IntKind.u64 b); refine (Zb.out _).mono ?_; rintro e w2 ⟨rfl, g2⟩; obtain ⟨l2_0, h2_0_0, h2_0_1⟩ := g2.c2 (w.heap.size) (.int .i64 (f.fractionBits : Int)) (.int .i64 (f.exponentBits : Int)))
    | (go_at_call 64; refine (If.out _).mono ?_; rintro e w3 ⟨rfl, g3⟩; obtain ⟨l3_0, h3_0_0, h3_0_1⟩ := g3.c2 (w.heap.size) (.int .i64 (f.fractionBits : Int)) (.int .i64 (f.exponentBits : Int)))
    | (go_at_call 94; refine (Sm.out _).mono ?_; rintro e w4 ⟨rfl, g4⟩; obtain ⟨l4_0, h4_0_0, h4_0_1⟩ := g4.c2 (w.heap.size) (.int .i64 (f.fractionBits : Int)) (.int .i64 (f.exponentBits : Int)))))
  all_goals go_ret
  all_goals go_light
  all_goals refine ⟨by first | rfl | simp, ?_⟩
  all_goals repeat (first | exact Grew.refl _ | assumption | refine Grew.drew ?_ | refine Grew.drewN ?_ _ | refine Grew.alloc ?_ _ | refine Grew.set ?_ (by first | (simp; done) | (simp; omega) | omega) _ | refine Grew.trans ?_ (by assumption))
end Go.Proofs.YtjkebimmddlccaaDoor
