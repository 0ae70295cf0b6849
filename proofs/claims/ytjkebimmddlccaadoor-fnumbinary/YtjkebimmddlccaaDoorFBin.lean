/-
  The walks of the document's Binary; no statement is proved here.
-/
import Derived.Test.YtjkebimmddlccaaDoorRefK
namespace Go.Proofs.YtjkebimmddlccaaDoor
open Go.RowKit
set_option linter.unusedVariables false
set_option linter.unusedSimpArgs false

set_option maxRecDepth 100000 in
set_option maxHeartbeats 2000000 in
theorem FBin_nana {f : Ieee.Format} (k a b A D R : Int) (w : World) (k6 : (k == 6) = false)
    (U1 : CG 58 #[.agg #[.int .i64 (f.fractionBits : Int), .int .i64 (f.exponentBits : Int)], .int .u64 a] (.int .u64 A))
    (U2 : CG 58 #[.agg #[.int .i64 (f.fractionBits : Int), .int .i64 (f.exponentBits : Int)], .int .u64 b] (.int .u64 D))
    (N1 : CG 61 #[.agg #[.int .i64 (f.fractionBits : Int), .int .i64 (f.exponentBits : Int)], .int .u64 A] (.bool true))
    (Nn : CG 62 #[.agg #[.int .i64 (f.fractionBits : Int), .int .i64 (f.exponentBits : Int)]] (.int .u64 R)) :
    Calls Tryd.prog 32 #[.agg #[.int .i64 (f.fractionBits : Int), .int .i64 (f.exponentBits : Int)], .int .i64 k, .int .u64 a, .int .u64 b] w fun en w' => en = .returned (.int .u64 R) ∧ Grew w w' := by
  go_enter Tryd.func32, Tryd.ntmps32
  go_wp2_with (first
    | (go_at_call_of 58 (Value.int IntKind.u64 a); refine (U1.out _).mono ?_; rintro e w1 ⟨rfl, g1⟩; obtain ⟨l1_0, h1_0_0, h1_0_1⟩ := g1.c2 (w.heap.size) (.int .i64 (f.fractionBits : Int)) (.int .i64 (f.exponentBits : Int)))
    | (go_at_call_of 58 (Value.int IntKind.u64 b); refine (U2.out _).mono ?_; rintro e w2 ⟨rfl, g2⟩; obtain ⟨l2_0, h2_0_0, h2_0_1⟩ := g2.c2 (w.heap.size) (.int .i64 (f.fractionBits : Int)) (.int .i64 (f.exponentBits : Int)))
    | (go_at_call_of 61 (Value.int IntKind.u64 A); refine (N1.out _).mono ?_; rintro e w3 ⟨rfl, g3⟩; obtain ⟨l3_0, h3_0_0, h3_0_1⟩ := g3.c2 (w.heap.size) (.int .i64 (f.fractionBits : Int)) (.int .i64 (f.exponentBits : Int)))
    | (go_at_call 62; refine (Nn.out _).mono ?_; rintro e w5 ⟨rfl, g5⟩; obtain ⟨l5_0, h5_0_0, h5_0_1⟩ := g5.c2 (w.heap.size) (.int .i64 (f.fractionBits : Int)) (.int .i64 (f.exponentBits : Int))))
  all_goals (first | (
    go_region_held3 (fun w' => w'.cell? ⟨w.heap.size, 0, none⟩ = some (.int .i64 (f.fractionBits : Int)) ∧ w'.cell? ⟨w.heap.size, 1, none⟩ = some (.int .i64 (f.exponentBits : Int))) (go_keep)
      (first
      | (go_at_call_of 58 (Value.int IntKind.u64 a); refine (U1.out _).mono ?_; rintro e w1 ⟨rfl, g1⟩; obtain ⟨l1_0, h1_0_0, h1_0_1⟩ := g1.c2 (w.heap.size) (.int .i64 (f.fractionBits : Int)) (.int .i64 (f.exponentBits : Int)))
      | (go_at_call_of 58 (Value.int IntKind.u64 b); refine (U2.out _).mono ?_; rintro e w2 ⟨rfl, g2⟩; obtain ⟨l2_0, h2_0_0, h2_0_1⟩ := g2.c2 (w.heap.size) (.int .i64 (f.fractionBits : Int)) (.int .i64 (f.exponentBits : Int)))
      | (go_at_call_of 61 (Value.int IntKind.u64 A); refine (N1.out _).mono ?_; rintro e w3 ⟨rfl, g3⟩; obtain ⟨l3_0, h3_0_0, h3_0_1⟩ := g3.c2 (w.heap.size) (.int .i64 (f.fractionBits : Int)) (.int .i64 (f.exponentBits : Int)))
      | (go_at_call 62; refine (Nn.out _).mono ?_; rintro e w5 ⟨rfl, g5⟩; obtain ⟨l5_0, h5_0_0, h5_0_1⟩ := g5.c2 (w.heap.size) (.int .i64 (f.fractionBits : Int)) (.int .i64 (f.exponentBits : Int))))) | skip)
  all_goals (try go_wp2_with (first
    | (go_at_call_of 58 (Value.int IntKind.u64 a); refine (U1.out _).mono ?_; rintro e w1 ⟨rfl, g1⟩; obtain ⟨l1_0, h1_0_0, h1_0_1⟩ := g1.c2 (w.heap.size) (.int .i64 (f.fractionBits : Int)) (.int .i64 (f.exponentBits : Int)))
    | (go_at_call_of 58 (Value.int IntKind.u64 b); refine (U2.out _).mono ?_; rintro e w2 ⟨rfl, g2⟩; obtain ⟨l2_0, h2_0_0, h2_0_1⟩ := g2.c2 (w.heap.size) (.int .i64 (f.fractionBits : Int)) (.int .i64 (f.exponentBits : Int)))
    | (go_at_call_of 61 (Value.int IntKind.u64 A); refine (N1.out _).mono ?_; rintro e w3 ⟨rfl, g3⟩; obtain ⟨l3_0, h3_0_0, h3_0_1⟩ := g3.c2 (w.heap.size) (.int .i64 (f.fractionBits : Int)) (.int .i64 (f.exponentBits : Int)))
    | (go_at_call 62; refine (Nn.out _).mono ?_; rintro e w5 ⟨rfl, g5⟩; obtain ⟨l5_0, h5_0_0, h5_0_1⟩ := g5.c2 (w.heap.size) (.int .i64 (f.fractionBits : Int)) (.int .i64 (f.exponentBits : Int)))))
  all_goals (first | (
    go_region_held3 (fun w' => w'.cell? ⟨w.heap.size, 0, none⟩ = some (.int .i64 (f.fractionBits : Int)) ∧ w'.cell? ⟨w.heap.size, 1, none⟩ = some (.int .i64 (f.exponentBits : Int))) (go_keep)
      (first
      | (go_at_call_of 58 (Value.int IntKind.u64 a); refine (U1.out _).mono ?_; rintro e w1 ⟨rfl, g1⟩; obtain ⟨l1_0, h1_0_0, h1_0_1⟩ := g1.c2 (w.heap.size) (.int .i64 (f.fractionBits : Int)) (.int .i64 (f.exponentBits : Int)))
      | (go_at_call_of 58 (Value.int IntKind.u64 b); refine (U2.out _).mono ?_; rintro e w2 ⟨rfl, g2⟩; obtain ⟨l2_0, h2_0_0, h2_0_1⟩ := g2.c2 (w.heap.size) (.int .i64 (f.fractionBits : Int)) (.int .i64 (f.exponentBits : Int)))
      | (go_at_call_of 61 (Value.int IntKind.u64 A); refine (N1.out _).mono ?_; rintro e w3 ⟨rfl, g3⟩; obtain ⟨l3_0, h3_0_0, h3_0_1⟩ := g3.c2 (w.heap.size) (.int .i64 (f.fractionBits : Int)) (.int .i64 (f.exponentBits : Int)))
      | (go_at_call 62; refine (Nn.out _).mono ?_; rintro e w5 ⟨rfl, g5⟩; obtain ⟨l5_0, h5_0_0, h5_0_1⟩ := g5.c2 (w.heap.size) (.int .i64 (f.fractionBits : Int)) (.int .i64 (f.exponentBits : Int))))) | skip)
  all_goals (try go_wp2_with (first
    | (go_at_call_of 58 (Value.int IntKind.u64 a); refine (U1.out _).mono ?_; rintro e w1 ⟨rfl, g1⟩; obtain ⟨l1_0, h1_0_0, h1_0_1⟩ := g1.c2 (w.heap.size) (.int .i64 (f.fractionBits : Int)) (.int .i64 (f.exponentBits : Int)))
    | (go_at_call_of 58 (Value.int IntKind.u64 b); refine (U2.out _).mono ?_; rintro e w2 ⟨rfl, g2⟩; obtain ⟨l2_0, h2_0_0, h2_0_1⟩ := g2.c2 (w.heap.size) (.int .i64 (f.fractionBits : Int)) (.int .i64 (f.exponentBits : Int)))
    | (go_at_call_of 61 (Value.int IntKind.u64 A); refine (N1.out _).mono ?_; rintro e w3 ⟨rfl, g3⟩; obtain ⟨l3_0, h3_0_0, h3_0_1⟩ := g3.c2 (w.heap.size) (.int .i64 (f.fractionBits : Int)) (.int .i64 (f.exponentBits : Int)))
    | (go_at_call 62; refine (Nn.out _).mono ?_; rintro e w5 ⟨rfl, g5⟩; obtain ⟨l5_0, h5_0_0, h5_0_1⟩ := g5.c2 (w.heap.size) (.int .i64 (f.fractionBits : Int)) (.int .i64 (f.exponentBits : Int)))))
  all_goals go_ret
  all_goals go_light
  all_goals refine ⟨by first | rfl | simp, ?_⟩
  all_goals repeat (first | exact Grew.refl _ | assumption | refine Grew.drew ?_ | refine Grew.drewN ?_ _ | refine Grew.alloc ?_ _ | refine Grew.set ?_ (by first | (simp; done) | (simp; omega) | omega) _ | refine Grew.trans ?_ (by assumption))
set_option maxRecDepth 100000 in
set_option maxHeartbeats 2000000 in
theorem FBin_nanb {f : Ieee.Format} (k a b A D R : Int) (w : World) (k6 : (k == 6) = false)
    (U1 : CG 58 #[.agg #[.int .i64 (f.fractionBits : Int), .int .i64 (f.exponentBits : Int)], .int .u64 a] (.int .u64 A))
    (U2 : CG 58 #[.agg #[.int .i64 (f.fractionBits : Int), .int .i64 (f.exponentBits : Int)], .int .u64 b] (.int .u64 D))
    (N1 : CG 61 #[.agg #[.int .i64 (f.fractionBits : Int), .int .i64 (f.exponentBits : Int)], .int .u64 A] (.bool false))
    (N2 : CG 61 #[.agg #[.int .i64 (f.fractionBits : Int), .int .i64 (f.exponentBits : Int)], .int .u64 D] (.bool true))
    (Nn : CG 62 #[.agg #[.int .i64 (f.fractionBits : Int), .int .i64 (f.exponentBits : Int)]] (.int .u64 R)) :
    Calls Tryd.prog 32 #[.agg #[.int .i64 (f.fractionBits : Int), .int .i64 (f.exponentBits : Int)], .int .i64 k, .int .u64 a, .int .u64 b] w fun en w' => en = .returned (.int .u64 R) ∧ Grew w w' := by
  go_enter Tryd.func32, Tryd.ntmps32
  go_wp2_with (first
    | (go_at_call_of 58 (Value.int IntKind.u64 a); refine (U1.out _).mono ?_; rintro e w1 ⟨rfl, g1⟩; obtain ⟨l1_0, h1_0_0, h1_0_1⟩ := g1.c2 (w.heap.size) (.int .i64 (f.fractionBits : Int)) (.int .i64 (f.exponentBits : Int)))
    | (go_at_call_of 58 (Value.int IntKind.u64 b); refine (U2.out _).mono ?_; rintro e w2 ⟨rfl, g2⟩; obtain ⟨l2_0, h2_0_0, h2_0_1⟩ := g2.c2 (w.heap.size) (.int .i64 (f.fractionBits : Int)) (.int .i64 (f.exponentBits : Int)))
    | (go_at_call_of 61 (Value.int IntKind.u64 A); refine (N1.out _).mono ?_; rintro e w3 ⟨rfl, g3⟩; obtain ⟨l3_0, h3_0_0, h3_0_1⟩ := g3.c2 (w.heap.size) (.int .i64 (f.fractionBits : Int)) (.int .i64 (f.exponentBits : Int)))
    | (go_at_call_of 61 (Value.int IntKind.u64 D); refine (N2.out _).mono ?_; rintro e w4 ⟨rfl, g4⟩; obtain ⟨l4_0, h4_0_0, h4_0_1⟩ := g4.c2 (w.heap.size) (.int .i64 (f.fractionBits : Int)) (.int .i64 (f.exponentBits : Int)))
    | (go_at_call 62; refine (Nn.out _).mono ?_; rintro e w5 ⟨rfl, g5⟩; obtain ⟨l5_0, h5_0_0, h5_0_1⟩ := g5.c2 (w.heap.size) (.int .i64 (f.fractionBits : Int)) (.int .i64 (f.exponentBits : Int))))
  all_goals (first | (
    go_region_held3 (fun w' => w'.cell? ⟨w.heap.size, 0, none⟩ = some (.int .i64 (f.fractionBits : Int)) ∧ w'.cell? ⟨w.heap.size, 1, none⟩ = some (.int .i64 (f.exponentBits : Int))) (go_keep)
      (first
      | (go_at_call_of 58 (Value.int IntKind.u64 a); refine (U1.out _).mono ?_; rintro e w1 ⟨rfl, g1⟩; obtain ⟨l1_0, h1_0_0, h1_0_1⟩ := g1.c2 (w.heap.size) (.int .i64 (f.fractionBits : Int)) (.int .i64 (f.exponentBits : Int)))
      | (go_at_call_of 58 (Value.int IntKind.u64 b); refine (U2.out _).mono ?_; rintro e w2 ⟨rfl, g2⟩; obtain ⟨l2_0, h2_0_0, h2_0_1⟩ := g2.c2 (w.heap.size) (.int .i64 (f.fractionBits : Int)) (.int .i64 (f.exponentBits : Int)))
      | (go_at_call_of 61 (Value.int IntKind.u64 A); refine (N1.out _).mono ?_; rintro e w3 ⟨rfl, g3⟩; obtain ⟨l3_0, h3_0_0, h3_0_1⟩ := g3.c2 (w.heap.size) (.int .i64 (f.fractionBits : Int)) (.int .i64 (f.exponentBits : Int)))
      | (go_at_call_of 61 (Value.int IntKind.u64 D); refine (N2.out _).mono ?_; rintro e w4 ⟨rfl, g4⟩; obtain ⟨l4_0, h4_0_0, h4_0_1⟩ := g4.c2 (w.heap.size) (.int .i64 (f.fractionBits : Int)) (.int .i64 (f.exponentBits : Int)))
      | (go_at_call 62; refine (Nn.out _).mono ?_; rintro e w5 ⟨rfl, g5⟩; obtain ⟨l5_0, h5_0_0, h5_0_1⟩ := g5.c2 (w.heap.size) (.int .i64 (f.fractionBits : Int)) (.int .i64 (f.exponentBits : Int))))) | skip)
  all_goals (try go_wp2_with (first
    | (go_at_call_of 58 (Value.int IntKind.u64 a); refine (U1.out _).mono ?_; rintro e w1 ⟨rfl, g1⟩; obtain ⟨l1_0, h1_0_0, h1_0_1⟩ := g1.c2 (w.heap.size) (.int .i64 (f.fractionBits : Int)) (.int .i64 (f.exponentBits : Int)))
    | (go_at_call_of 58 (Value.int IntKind.u64 b); refine (U2.out _).mono ?_; rintro e w2 ⟨rfl, g2⟩; obtain ⟨l2_0, h2_0_0, h2_0_1⟩ := g2.c2 (w.heap.size) (.int .i64 (f.fractionBits : Int)) (.int .i64 (f.exponentBits : Int)))
    | (go_at_call_of 61 (Value.int IntKind.u64 A); refine (N1.out _).mono ?_; rintro e w3 ⟨rfl, g3⟩; obtain ⟨l3_0, h3_0_0, h3_0_1⟩ := g3.c2 (w.heap.size) (.int .i64 (f.fractionBits : Int)) (.int .i64 (f.exponentBits : Int)))
    | (go_at_call_of 61 (Value.int IntKind.u64 D); refine (N2.out _).mono ?_; rintro e w4 ⟨rfl, g4⟩; obtain ⟨l4_0, h4_0_0, h4_0_1⟩ := g4.c2 (w.heap.size) (.int .i64 (f.fractionBits : Int)) (.int .i64 (f.exponentBits : Int)))
    | (go_at_call 62; refine (Nn.out _).mono ?_; rintro e w5 ⟨rfl, g5⟩; obtain ⟨l5_0, h5_0_0, h5_0_1⟩ := g5.c2 (w.heap.size) (.int .i64 (f.fractionBits : Int)) (.int .i64 (f.exponentBits : Int)))))
  all_goals (first | (
    go_region_held3 (fun w' => w'.cell? ⟨w.heap.size, 0, none⟩ = some (.int .i64 (f.fractionBits : Int)) ∧ w'.cell? ⟨w.heap.size, 1, none⟩ = some (.int .i64 (f.exponentBits : Int))) (go_keep)
      (first
      | (go_at_call_of 58 (Value.int IntKind.u64 a); refine (U1.out _).mono ?_; rintro e w1 ⟨rfl, g1⟩; obtain ⟨l1_0, h1_0_0, h1_0_1⟩ := g1.c2 (w.heap.size) (.int .i64 (f.fractionBits : Int)) (.int .i64 (f.exponentBits : Int)))
      | (go_at_call_of 58 (Value.int IntKind.u64 b); refine (U2.out _).mono ?_; rintro e w2 ⟨rfl, g2⟩; obtain ⟨l2_0, h2_0_0, h2_0_1⟩ := g2.c2 (w.heap.size) (.int .i64 (f.fractionBits : Int)) (.int .i64 (f.exponentBits : Int)))
      | (go_at_call_of 61 (Value.int IntKind.u64 A); refine (N1.out _).mono ?_; rintro e w3 ⟨rfl, g3⟩; obtain ⟨l3_0, h3_0_0, h3_0_1⟩ := g3.c2 (w.heap.size) (.int .i64 (f.fractionBits : Int)) (.int .i64 (f.exponentBits : Int)))
      | (go_at_call_of 61 (Value.int IntKind.u64 D); refine (N2.out _).mono ?_; rintro e w4 ⟨rfl, g4⟩; obtain ⟨l4_0, h4_0_0, h4_0_1⟩ := g4.c2 (w.heap.size) (.int .i64 (f.fractionBits : Int)) (.int .i64 (f.exponentBits : Int)))
      | (go_at_call 62; refine (Nn.out _).mono ?_; rintro e w5 ⟨rfl, g5⟩; obtain ⟨l5_0, h5_0_0, h5_0_1⟩ := g5.c2 (w.heap.size) (.int .i64 (f.fractionBits : Int)) (.int .i64 (f.exponentBits : Int))))) | skip)
  all_goals (try go_wp2_with (first
    | (go_at_call_of 58 (Value.int IntKind.u64 a); refine (U1.out _).mono ?_; rintro e w1 ⟨rfl, g1⟩; obtain ⟨l1_0, h1_0_0, h1_0_1⟩ := g1.c2 (w.heap.size) (.int .i64 (f.fractionBits : Int)) (.int .i64 (f.exponentBits : Int)))
    | (go_at_call_of 58 (Value.int IntKind.u64 b); refine (U2.out _).mono ?_; rintro e w2 ⟨rfl, g2⟩; obtain ⟨l2_0, h2_0_0, h2_0_1⟩ := g2.c2 (w.heap.size) (.int .i64 (f.fractionBits : Int)) (.int .i64 (f.exponentBits : Int)))
    | (go_at_call_of 61 (Value.int IntKind.u64 A); refine (N1.out _).mono ?_; rintro e w3 ⟨rfl, g3⟩; obtain ⟨l3_0, h3_0_0, h3_0_1⟩ := g3.c2 (w.heap.size) (.int .i64 (f.fractionBits : Int)) (.int .i64 (f.exponentBits : Int)))
    | (go_at_call_of 61 (Value.int IntKind.u64 D); refine (N2.out _).mono ?_; rintro e w4 ⟨rfl, g4⟩; obtain ⟨l4_0, h4_0_0, h4_0_1⟩ := g4.c2 (w.heap.size) (.int .i64 (f.fractionBits : Int)) (.int .i64 (f.exponentBits : Int)))
    | (go_at_call 62; refine (Nn.out _).mono ?_; rintro e w5 ⟨rfl, g5⟩; obtain ⟨l5_0, h5_0_0, h5_0_1⟩ := g5.c2 (w.heap.size) (.int .i64 (f.fractionBits : Int)) (.int .i64 (f.exponentBits : Int)))))
  all_goals go_ret
  all_goals go_light
  all_goals refine ⟨by first | rfl | simp, ?_⟩
  all_goals repeat (first | exact Grew.refl _ | assumption | refine Grew.drew ?_ | refine Grew.drewN ?_ _ | refine Grew.alloc ?_ _ | refine Grew.set ?_ (by first | (simp; done) | (simp; omega) | omega) _ | refine Grew.trans ?_ (by assumption))
set_option maxRecDepth 100000 in
set_option maxHeartbeats 2000000 in
theorem FBin_0 {f : Ieee.Format} (a b A D R S : Int) (w : World)
    (U1 : CG 58 #[.agg #[.int .i64 (f.fractionBits : Int), .int .i64 (f.exponentBits : Int)], .int .u64 a] (.int .u64 A))
    (U2 : CG 58 #[.agg #[.int .i64 (f.fractionBits : Int), .int .i64 (f.exponentBits : Int)], .int .u64 b] (.int .u64 D))
    (N1 : CG 61 #[.agg #[.int .i64 (f.fractionBits : Int), .int .i64 (f.exponentBits : Int)], .int .u64 A] (.bool false))
    (N2 : CG 61 #[.agg #[.int .i64 (f.fractionBits : Int), .int .i64 (f.exponentBits : Int)], .int .u64 D] (.bool false))
    (Op : CG 67 #[.agg #[.int .i64 (f.fractionBits : Int), .int .i64 (f.exponentBits : Int)], .int .u64 A, .int .u64 D] (.int .u64 R)) :
    Calls Tryd.prog 32 #[.agg #[.int .i64 (f.fractionBits : Int), .int .i64 (f.exponentBits : Int)], .int .i64 0, .int .u64 a, .int .u64 b] w fun en w' => en = .returned (.int .u64 R) ∧ Grew w w' := by
  go_enter Tryd.func32, Tryd.ntmps32
  go_wp2_with (first
    | (go_at_call_of 58 (Value.int IntKind.u64 a); refine (U1.out _).mono ?_; rintro e w1 ⟨rfl, g1⟩; obtain ⟨l1_0, h1_0_0, h1_0_1⟩ := g1.c2 (w.heap.size) (.int .i64 (f.fractionBits : Int)) (.int .i64 (f.exponentBits : Int)))
    | (go_at_call_of 58 (Value.int IntKind.u64 b); refine (U2.out _).mono ?_; rintro e w2 ⟨rfl, g2⟩; obtain ⟨l2_0, h2_0_0, h2_0_1⟩ := g2.c2 (w.heap.size) (.int .i64 (f.fractionBits : Int)) (.int .i64 (f.exponentBits : Int)))
    | (go_at_call_of 61 (Value.int IntKind.u64 A); refine (N1.out _).mono ?_; rintro e w3 ⟨rfl, g3⟩; obtain ⟨l3_0, h3_0_0, h3_0_1⟩ := g3.c2 (w.heap.size) (.int .i64 (f.fractionBits : Int)) (.int .i64 (f.exponentBits : Int)))
    | (go_at_call_of 61 (Value.int IntKind.u64 D); refine (N2.out _).mono ?_; rintro e w4 ⟨rfl, g4⟩; obtain ⟨l4_0, h4_0_0, h4_0_1⟩ := g4.c2 (w.heap.size) (.int .i64 (f.fractionBits : Int)) (.int .i64 (f.exponentBits : Int)))
    | (go_at_call 67; refine (Op.out _).mono ?_; rintro e w6 ⟨rfl, g6⟩; obtain ⟨l6_0, h6_0_0, h6_0_1⟩ := g6.c2 (w.heap.size) (.int .i64 (f.fractionBits : Int)) (.int .i64 (f.exponentBits : Int))))
  all_goals (first | (
    go_region_held3 (fun w' => w'.cell? ⟨w.heap.size, 0, none⟩ = some (.int .i64 (f.fractionBits : Int)) ∧ w'.cell? ⟨w.heap.size, 1, none⟩ = some (.int .i64 (f.exponentBits : Int))) (go_keep)
      (first
      | (go_at_call_of 58 (Value.int IntKind.u64 a); refine (U1.out _).mono ?_; rintro e w1 ⟨rfl, g1⟩; obtain ⟨l1_0, h1_0_0, h1_0_1⟩ := g1.c2 (w.heap.size) (.int .i64 (f.fractionBits : Int)) (.int .i64 (f.exponentBits : Int)))
      | (go_at_call_of 58 (Value.int IntKind.u64 b); refine (U2.out _).mono ?_; rintro e w2 ⟨rfl, g2⟩; obtain ⟨l2_0, h2_0_0, h2_0_1⟩ := g2.c2 (w.heap.size) (.int .i64 (f.fractionBits : Int)) (.int .i64 (f.exponentBits : Int)))
      | (go_at_call_of 61 (Value.int IntKind.u64 A); refine (N1.out _).mono ?_; rintro e w3 ⟨rfl, g3⟩; obtain ⟨l3_0, h3_0_0, h3_0_1⟩ := g3.c2 (w.heap.size) (.int .i64 (f.fractionBits : Int)) (.int .i64 (f.exponentBits : Int)))
      | (go_at_call_of 61 (Value.int IntKind.u64 D); refine (N2.out _).mono ?_; rintro e w4 ⟨rfl, g4⟩; obtain ⟨l4_0, h4_0_0, h4_0_1⟩ := g4.c2 (w.heap.size) (.int .i64 (f.fractionBits : Int)) (.int .i64 (f.exponentBits : Int)))
      | (go_at_call 67; refine (Op.out _).mono ?_; rintro e w6 ⟨rfl, g6⟩; obtain ⟨l6_0, h6_0_0, h6_0_1⟩ := g6.c2 (w.heap.size) (.int .i64 (f.fractionBits : Int)) (.int .i64 (f.exponentBits : Int))))) | skip)
  all_goals (try go_wp2_with (first
    | (go_at_call_of 58 (Value.int IntKind.u64 a); refine (U1.out _).mono ?_; rintro e w1 ⟨rfl, g1⟩; obtain ⟨l1_0, h1_0_0, h1_0_1⟩ := g1.c2 (w.heap.size) (.int .i64 (f.fractionBits : Int)) (.int .i64 (f.exponentBits : Int)))
    | (go_at_call_of 58 (Value.int IntKind.u64 b); refine (U2.out _).mono ?_; rintro e w2 ⟨rfl, g2⟩; obtain ⟨l2_0, h2_0_0, h2_0_1⟩ := g2.c2 (w.heap.size) (.int .i64 (f.fractionBits : Int)) (.int .i64 (f.exponentBits : Int)))
    | (go_at_call_of 61 (Value.int IntKind.u64 A); refine (N1.out _).mono ?_; rintro e w3 ⟨rfl, g3⟩; obtain ⟨l3_0, h3_0_0, h3_0_1⟩ := g3.c2 (w.heap.size) (.int .i64 (f.fractionBits : Int)) (.int .i64 (f.exponentBits : Int)))
    | (go_at_call_of 61 (Value.int IntKind.u64 D); refine (N2.out _).mono ?_; rintro e w4 ⟨rfl, g4⟩; obtain ⟨l4_0, h4_0_0, h4_0_1⟩ := g4.c2 (w.heap.size) (.int .i64 (f.fractionBits : Int)) (.int .i64 (f.exponentBits : Int)))
    | (go_at_call 67; refine (Op.out _).mono ?_; rintro e w6 ⟨rfl, g6⟩; obtain ⟨l6_0, h6_0_0, h6_0_1⟩ := g6.c2 (w.heap.size) (.int .i64 (f.fractionBits : Int)) (.int .i64 (f.exponentBits : Int)))))
  all_goals (first | (
    go_region_held3 (fun w' => w'.cell? ⟨w.heap.size, 0, none⟩ = some (.int .i64 (f.fractionBits : Int)) ∧ w'.cell? ⟨w.heap.size, 1, none⟩ = some (.int .i64 (f.exponentBits : Int))) (go_keep)
      (first
      | (go_at_call_of 58 (Value.int IntKind.u64 a); refine (U1.out _).mono ?_; rintro e w1 ⟨rfl, g1⟩; obtain ⟨l1_0, h1_0_0, h1_0_1⟩ := g1.c2 (w.heap.size) (.int .i64 (f.fractionBits : Int)) (.int .i64 (f.exponentBits : Int)))
      | (go_at_call_of 58 (Value.int IntKind.u64 b); refine (U2.out _).mono ?_; rintro e w2 ⟨rfl, g2⟩; obtain ⟨l2_0, h2_0_0, h2_0_1⟩ := g2.c2 (w.heap.size) (.int .i64 (f.fractionBits : Int)) (.int .i64 (f.exponentBits : Int)))
      | (go_at_call_of 61 (Value.int IntKind.u64 A); refine (N1.out _).mono ?_; rintro e w3 ⟨rfl, g3⟩; obtain ⟨l3_0, h3_0_0, h3_0_1⟩ := g3.c2 (w.heap.size) (.int .i64 (f.fractionBits : Int)) (.int .i64 (f.exponentBits : Int)))
      | (go_at_call_of 61 (Value.int IntKind.u64 D); refine (N2.out _).mono ?_; rintro e w4 ⟨rfl, g4⟩; obtain ⟨l4_0, h4_0_0, h4_0_1⟩ := g4.c2 (w.heap.size) (.int .i64 (f.fractionBits : Int)) (.int .i64 (f.exponentBits : Int)))
      | (go_at_call 67; refine (Op.out _).mono ?_; rintro e w6 ⟨rfl, g6⟩; obtain ⟨l6_0, h6_0_0, h6_0_1⟩ := g6.c2 (w.heap.size) (.int .i64 (f.fractionBits : Int)) (.int .i64 (f.exponentBits : Int))))) | skip)
  all_goals (try go_wp2_with (first
    | (go_at_call_of 58 (Value.int IntKind.u64 a); refine (U1.out _).mono ?_; rintro e w1 ⟨rfl, g1⟩; obtain ⟨l1_0, h1_0_0, h1_0_1⟩ := g1.c2 (w.heap.size) (.int .i64 (f.fractionBits : Int)) (.int .i64 (f.exponentBits : Int)))
    | (go_at_call_of 58 (Value.int IntKind.u64 b); refine (U2.out _).mono ?_; rintro e w2 ⟨rfl, g2⟩; obtain ⟨l2_0, h2_0_0, h2_0_1⟩ := g2.c2 (w.heap.size) (.int .i64 (f.fractionBits : Int)) (.int .i64 (f.exponentBits : Int)))
    | (go_at_call_of 61 (Value.int IntKind.u64 A); refine (N1.out _).mono ?_; rintro e w3 ⟨rfl, g3⟩; obtain ⟨l3_0, h3_0_0, h3_0_1⟩ := g3.c2 (w.heap.size) (.int .i64 (f.fractionBits : Int)) (.int .i64 (f.exponentBits : Int)))
    | (go_at_call_of 61 (Value.int IntKind.u64 D); refine (N2.out _).mono ?_; rintro e w4 ⟨rfl, g4⟩; obtain ⟨l4_0, h4_0_0, h4_0_1⟩ := g4.c2 (w.heap.size) (.int .i64 (f.fractionBits : Int)) (.int .i64 (f.exponentBits : Int)))
    | (go_at_call 67; refine (Op.out _).mono ?_; rintro e w6 ⟨rfl, g6⟩; obtain ⟨l6_0, h6_0_0, h6_0_1⟩ := g6.c2 (w.heap.size) (.int .i64 (f.fractionBits : Int)) (.int .i64 (f.exponentBits : Int)))))
  all_goals go_ret
  all_goals go_light
  all_goals refine ⟨by first | rfl | simp, ?_⟩
  all_goals repeat (first | exact Grew.refl _ | assumption | refine Grew.drew ?_ | refine Grew.drewN ?_ _ | refine Grew.alloc ?_ _ | refine Grew.set ?_ (by first | (simp; done) | (simp; omega) | omega) _ | refine Grew.trans ?_ (by assumption))
set_option maxRecDepth 100000 in
set_option maxHeartbeats 2000000 in
theorem FBin_1 {f : Ieee.Format} (a b A D R S : Int) (w : World)
    (U1 : CG 58 #[.agg #[.int .i64 (f.fractionBits : Int), .int .i64 (f.exponentBits : Int)], .int .u64 a] (.int .u64 A))
    (U2 : CG 58 #[.agg #[.int .i64 (f.fractionBits : Int), .int .i64 (f.exponentBits : Int)], .int .u64 b] (.int .u64 D))
    (N1 : CG 61 #[.agg #[.int .i64 (f.fractionBits : Int), .int .i64 (f.exponentBits : Int)], .int .u64 A] (.bool false))
    (N2 : CG 61 #[.agg #[.int .i64 (f.fractionBits : Int), .int .i64 (f.exponentBits : Int)], .int .u64 D] (.bool false))
    (Op : CG 67 #[.agg #[.int .i64 (f.fractionBits : Int), .int .i64 (f.exponentBits : Int)], .int .u64 A, .int .u64 (bits .xor .u64 D S)] (.int .u64 R))
    (Sg : CG 60 #[.agg #[.int .i64 (f.fractionBits : Int), .int .i64 (f.exponentBits : Int)]] (.int .u64 S)) :
    Calls Tryd.prog 32 #[.agg #[.int .i64 (f.fractionBits : Int), .int .i64 (f.exponentBits : Int)], .int .i64 1, .int .u64 a, .int .u64 b] w fun en w' => en = .returned (.int .u64 R) ∧ Grew w w' := by
  go_enter Tryd.func32, Tryd.ntmps32
  go_wp2_with (first
    | (go_at_call_of 58 (Value.int IntKind.u64 a); refine (U1.out _).mono ?_; rintro e w1 ⟨rfl, g1⟩; obtain ⟨l1_0, h1_0_0, h1_0_1⟩ := g1.c2 (w.heap.size) (.int .i64 (f.fractionBits : Int)) (.int .i64 (f.exponentBits : Int)))
    | (go_at_call_of 58 (Value.int IntKind.u64 b); refine (U2.out _).mono ?_; rintro e w2 ⟨rfl, g2⟩; obtain ⟨l2_0, h2_0_0, h2_0_1⟩ := g2.c2 (w.heap.size) (.int .i64 (f.fractionBits : Int)) (.int .i64 (f.exponentBits : Int)))
    | (go_at_call_of 61 (Value.int IntKind.u64 A); refine (N1.out _).mono ?_; rintro e w3 ⟨rfl, g3⟩; obtain ⟨l3_0, h3_0_0, h3_0_1⟩ := g3.c2 (w.heap.size) (.int .i64 (f.fractionBits : Int)) (.int .i64 (f.exponentBits : Int)))
    | (go_at_call_of 61 (Value.int IntKind.u64 D); refine (N2.out _).mono ?_; rintro e w4 ⟨rfl, g4⟩; obtain ⟨l4_0, h4_0_0, h4_0_1⟩ := g4.c2 (w.heap.size) (.int .i64 (f.fractionBits : Int)) (.int .i64 (f.exponentBits : Int)))
    | (go_at_call 67; refine (Op.out _).mono ?_; rintro e w6 ⟨rfl, g6⟩; obtain ⟨l6_0, h6_0_0, h6_0_1⟩ := g6.c2 (w.heap.size) (.int .i64 (f.fractionBits : Int)) (.int .i64 (f.exponentBits : Int)))
    | (go_at_call 60; refine (Sg.out _).mono ?_; rintro e w7 ⟨rfl, g7⟩; obtain ⟨l7_0, h7_0_0, h7_0_1⟩ := g7.c2 (w.heap.size) (.int .i64 (f.fractionBits : Int)) (.int .i64 (f.exponentBits : Int))))
  all_goals (first | (
    go_region_held3 (fun w' => w'.cell? ⟨w.heap.size, 0, none⟩ = some (.int .i64 (f.fractionBits : Int)) ∧ w'.cell? ⟨w.heap.size, 1, none⟩ = some (.int .i64 (f.exponentBits : Int))) (go_keep)
      (first
      | (go_at_call_of 58 (Value.int IntKind.u64 a); refine (U1.out _).mono ?_; rintro e w1 ⟨rfl, g1⟩; obtain ⟨l1_0, h1_0_0, h1_0_1⟩ := g1.c2 (w.heap.size) (.int .i64 (f.fractionBits : Int)) (.int .i64 (f.exponentBits : Int)))
      | (go_at_call_of 58 (Value.int IntKind.u64 b); refine (U2.out _).mono ?_; rintro e w2 ⟨rfl, g2⟩; obtain ⟨l2_0, h2_0_0, h2_0_1⟩ := g2.c2 (w.heap.size) (.int .i64 (f.fractionBits : Int)) (.int .i64 (f.exponentBits : Int)))
      | (go_at_call_of 61 (Value.int IntKind.u64 A); refine (N1.out _).mono ?_; rintro e w3 ⟨rfl, g3⟩; obtain ⟨l3_0, h3_0_0, h3_0_1⟩ := g3.c2 (w.heap.size) (.int .i64 (f.fractionBits : Int)) (.int .i64 (f.exponentBits : Int)))
      | (go_at_call_of 61 (Value.int IntKind.u64 D); refine (N2.out _).mono ?_; rintro e w4 ⟨rfl, g4⟩; obtain ⟨l4_0, h4_0_0, h4_0_1⟩ := g4.c2 (w.heap.size) (.int .i64 (f.fractionBits : Int)) (.int .i64 (f.exponentBits : Int)))
      | (go_at_call 67; refine (Op.out _).mono ?_; rintro e w6 ⟨rfl, g6⟩; obtain ⟨l6_0, h6_0_0, h6_0_1⟩ := g6.c2 (w.heap.size) (.int .i64 (f.fractionBits : Int)) (.int .i64 (f.exponentBits : Int)))
      | (go_at_call 60; refine (Sg.out _).mono ?_; rintro e w7 ⟨rfl, g7⟩; obtain ⟨l7_0, h7_0_0, h7_0_1⟩ := g7.c2 (w.heap.size) (.int .i64 (f.fractionBits : Int)) (.int .i64 (f.exponentBits : Int))))) | skip)
  all_goals (try go_wp2_with (first
    | (go_at_call_of 58 (Value.int IntKind.u64 a); refine (U1.out _).mono ?_; rintro e w1 ⟨rfl, g1⟩; obtain ⟨l1_0, h1_0_0, h1_0_1⟩ := g1.c2 (w.heap.size) (.int .i64 (f.fractionBits : Int)) (.int .i64 (f.exponentBits : Int)))
    | (go_at_call_of 58 (Value.int IntKind.u64 b); refine (U2.out _).mono ?_; rintro e w2 ⟨rfl, g2⟩; obtain ⟨l2_0, h2_0_0, h2_0_1⟩ := g2.c2 (w.heap.size) (.int .i64 (f.fractionBits : Int)) (.int .i64 (f.exponentBits : Int)))
    | (go_at_call_of 61 (Value.int IntKind.u64 A); refine (N1.out _).mono ?_; rintro e w3 ⟨rfl, g3⟩; obtain ⟨l3_0, h3_0_0, h3_0_1⟩ := g3.c2 (w.heap.size) (.int .i64 (f.fractionBits : Int)) (.int .i64 (f.exponentBits : Int)))
    | (go_at_call_of 61 (Value.int IntKind.u64 D); refine (N2.out _).mono ?_; rintro e w4 ⟨rfl, g4⟩; obtain ⟨l4_0, h4_0_0, h4_0_1⟩ := g4.c2 (w.heap.size) (.int .i64 (f.fractionBits : Int)) (.int .i64 (f.exponentBits : Int)))
    | (go_at_call 67; refine (Op.out _).mono ?_; rintro e w6 ⟨rfl, g6⟩; obtain ⟨l6_0, h6_0_0, h6_0_1⟩ := g6.c2 (w.heap.size) (.int .i64 (f.fractionBits : Int)) (.int .i64 (f.exponentBits : Int)))
    | (go_at_call 60; refine (Sg.out _).mono ?_; rintro e w7 ⟨rfl, g7⟩; obtain ⟨l7_0, h7_0_0, h7_0_1⟩ := g7.c2 (w.heap.size) (.int .i64 (f.fractionBits : Int)) (.int .i64 (f.exponentBits : Int)))))
  all_goals (first | (
    go_region_held3 (fun w' => w'.cell? ⟨w.heap.size, 0, none⟩ = some (.int .i64 (f.fractionBits : Int)) ∧ w'.cell? ⟨w.heap.size, 1, none⟩ = some (.int .i64 (f.exponentBits : Int))) (go_keep)
      (first
      | (go_at_call_of 58 (Value.int IntKind.u64 a); refine (U1.out _).mono ?_; rintro e w1 ⟨rfl, g1⟩; obtain ⟨l1_0, h1_0_0, h1_0_1⟩ := g1.c2 (w.heap.size) (.int .i64 (f.fractionBits : Int)) (.int .i64 (f.exponentBits : Int)))
      | (go_at_call_of 58 (Value.int IntKind.u64 b); refine (U2.out _).mono ?_; rintro e w2 ⟨rfl, g2⟩; obtain ⟨l2_0, h2_0_0, h2_0_1⟩ := g2.c2 (w.heap.size) (.int .i64 (f.fractionBits : Int)) (.int .i64 (f.exponentBits : Int)))
      | (go_at_call_of 61 (Value.int IntKind.u64 A); refine (N1.out _).mono ?_; rintro e w3 ⟨rfl, g3⟩; obtain ⟨l3_0, h3_0_0, h3_0_1⟩ := g3.c2 (w.heap.size) (.int .i64 (f.fractionBits : Int)) (.int .i64 (f.exponentBits : Int)))
      | (go_at_call_of 61 (Value.int IntKind.u64 D); refine (N2.out _).mono ?_; rintro e w4 ⟨rfl, g4⟩; obtain ⟨l4_0, h4_0_0, h4_0_1⟩ := g4.c2 (w.heap.size) (.int .i64 (f.fractionBits : Int)) (.int .i64 (f.exponentBits : Int)))
      | (go_at_call 67; refine (Op.out _).mono ?_; rintro e w6 ⟨rfl, g6⟩; obtain ⟨l6_0, h6_0_0, h6_0_1⟩ := g6.c2 (w.heap.size) (.int .i64 (f.fractionBits : Int)) (.int .i64 (f.exponentBits : Int)))
      | (go_at_call 60; refine (Sg.out _).mono ?_; rintro e w7 ⟨rfl, g7⟩; obtain ⟨l7_0, h7_0_0, h7_0_1⟩ := g7.c2 (w.heap.size) (.int .i64 (f.fractionBits : Int)) (.int .i64 (f.exponentBits : Int))))) | skip)
  all_goals (try go_wp2_with (first
    | (go_at_call_of 58 (Value.int IntKind.u64 a); refine (U1.out _).mono ?_; rintro e w1 ⟨rfl, g1⟩; obtain ⟨l1_0, h1_0_0, h1_0_1⟩ := g1.c2 (w.heap.size) (.int .i64 (f.fractionBits : Int)) (.int .i64 (f.exponentBits : Int)))
    | (go_at_call_of 58 (Value.int IntKind.u64 b); refine (U2.out _).mono ?_; rintro e w2 ⟨rfl, g2⟩; obtain ⟨l2_0, h2_0_0, h2_0_1⟩ := g2.c2 (w.heap.size) (.int .i64 (f.fractionBits : Int)) (.int .i64 (f.exponentBits : Int)))
    | (go_at_call_of 61 (Value.int IntKind.u64 A); refine (N1.out _).mono ?_; rintro e w3 ⟨rfl, g3⟩; obtain ⟨l3_0, h3_0_0, h3_0_1⟩ := g3.c2 (w.heap.size) (.int .i64 (f.fractionBits : Int)) (.int .i64 (f.exponentBits : Int)))
    | (go_at_call_of 61 (Value.int IntKind.u64 D); refine (N2.out _).mono ?_; rintro e w4 ⟨rfl, g4⟩; obtain ⟨l4_0, h4_0_0, h4_0_1⟩ := g4.c2 (w.heap.size) (.int .i64 (f.fractionBits : Int)) (.int .i64 (f.exponentBits : Int)))
    | (go_at_call 67; refine (Op.out _).mono ?_; rintro e w6 ⟨rfl, g6⟩; obtain ⟨l6_0, h6_0_0, h6_0_1⟩ := g6.c2 (w.heap.size) (.int .i64 (f.fractionBits : Int)) (.int .i64 (f.exponentBits : Int)))
    | (go_at_call 60; refine (Sg.out _).mono ?_; rintro e w7 ⟨rfl, g7⟩; obtain ⟨l7_0, h7_0_0, h7_0_1⟩ := g7.c2 (w.heap.size) (.int .i64 (f.fractionBits : Int)) (.int .i64 (f.exponentBits : Int)))))
  all_goals go_ret
  all_goals go_light
  all_goals refine ⟨by first | rfl | simp, ?_⟩
  all_goals repeat (first | exact Grew.refl _ | assumption | refine Grew.drew ?_ | refine Grew.drewN ?_ _ | refine Grew.alloc ?_ _ | refine Grew.set ?_ (by first | (simp; done) | (simp; omega) | omega) _ | refine Grew.trans ?_ (by assumption))
set_option maxRecDepth 100000 in
set_option maxHeartbeats 2000000 in
theorem FBin_2 {f : Ieee.Format} (a b A D R S : Int) (w : World)
    (U1 : CG 58 #[.agg #[.int .i64 (f.fractionBits : Int), .int .i64 (f.exponentBits : Int)], .int .u64 a] (.int .u64 A))
    (U2 : CG 58 #[.agg #[.int .i64 (f.fractionBits : Int), .int .i64 (f.exponentBits : Int)], .int .u64 b] (.int .u64 D))
    (N1 : CG 61 #[.agg #[.int .i64 (f.fractionBits : Int), .int .i64 (f.exponentBits : Int)], .int .u64 A] (.bool false))
    (N2 : CG 61 #[.agg #[.int .i64 (f.fractionBits : Int), .int .i64 (f.exponentBits : Int)], .int .u64 D] (.bool false))
    (Op : CG 68 #[.agg #[.int .i64 (f.fractionBits : Int), .int .i64 (f.exponentBits : Int)], .int .u64 A, .int .u64 D] (.int .u64 R)) :
    Calls Tryd.prog 32 #[.agg #[.int .i64 (f.fractionBits : Int), .int .i64 (f.exponentBits : Int)], .int .i64 2, .int .u64 a, .int .u64 b] w fun en w' => en = .returned (.int .u64 R) ∧ Grew w w' := by
  go_enter Tryd.func32, Tryd.ntmps32
  go_wp2_with (first
    | (go_at_call_of 58 (Value.int IntKind.u64 a); refine (U1.out _).mono ?_; rintro e w1 ⟨rfl, g1⟩; obtain ⟨l1_0, h1_0_0, h1_0_1⟩ := g1.c2 (w.heap.size) (.int .i64 (f.fractionBits : Int)) (.int .i64 (f.exponentBits : Int)))
    | (go_at_call_of 58 (Value.int IntKind.u64 b); refine (U2.out _).mono ?_; rintro e w2 ⟨rfl, g2⟩; obtain ⟨l2_0, h2_0_0, h2_0_1⟩ := g2.c2 (w.heap.size) (.int .i64 (f.fractionBits : Int)) (.int .i64 (f.exponentBits : Int)))
    | (go_at_call_of 61 (Value.int IntKind.u64 A); refine (N1.out _).mono ?_; rintro e w3 ⟨rfl, g3⟩; obtain ⟨l3_0, h3_0_0, h3_0_1⟩ := g3.c2 (w.heap.size) (.int .i64 (f.fractionBits : Int)) (.int .i64 (f.exponentBits : Int)))
    | (go_at_call_of 61 (Value.int IntKind.u64 D); refine (N2.out _).mono ?_; rintro e w4 ⟨rfl, g4⟩; obtain ⟨l4_0, h4_0_0, h4_0_1⟩ := g4.c2 (w.heap.size) (.int .i64 (f.fractionBits : Int)) (.int .i64 (f.exponentBits : Int)))
    | (go_at_call 68; refine (Op.out _).mono ?_; rintro e w6 ⟨rfl, g6⟩; obtain ⟨l6_0, h6_0_0, h6_0_1⟩ := g6.c2 (w.heap.size) (.int .i64 (f.fractionBits : Int)) (.int .i64 (f.exponentBits : Int))))
  all_goals (first | (
    go_region_held3 (fun w' => w'.cell? ⟨w.heap.size, 0, none⟩ = some (.int .i64 (f.fractionBits : Int)) ∧ w'.cell? ⟨w.heap.size, 1, none⟩ = some (.int .i64 (f.exponentBits : Int))) (go_keep)
      (first
      | (go_at_call_of 58 (Value.int IntKind.u64 a); refine (U1.out _).mono ?_; rintro e w1 ⟨rfl, g1⟩; obtain ⟨l1_0, h1_0_0, h1_0_1⟩ := g1.c2 (w.heap.size) (.int .i64 (f.fractionBits : Int)) (.int .i64 (f.exponentBits : Int)))
      | (go_at_call_of 58 (Value.int IntKind.u64 b); refine (U2.out _).mono ?_; rintro e w2 ⟨rfl, g2⟩; obtain ⟨l2_0, h2_0_0, h2_0_1⟩ := g2.c2 (w.heap.size) (.int .i64 (f.fractionBits : Int)) (.int .i64 (f.exponentBits : Int)))
      | (go_at_call_of 61 (Value.int IntKind.u64 A); refine (N1.out _).mono ?_; rintro e w3 ⟨rfl, g3⟩; obtain ⟨l3_0, h3_0_0, h3_0_1⟩ := g3.c2 (w.heap.size) (.int .i64 (f.fractionBits : Int)) (.int .i64 (f.exponentBits : Int)))
      | (go_at_call_of 61 (Value.int IntKind.u64 D); refine (N2.out _).mono ?_; rintro e w4 ⟨rfl, g4⟩; obtain ⟨l4_0, h4_0_0, h4_0_1⟩ := g4.c2 (w.heap.size) (.int .i64 (f.fractionBits : Int)) (.int .i64 (f.exponentBits : Int)))
      | (go_at_call 68; refine (Op.out _).mono ?_; rintro e w6 ⟨rfl, g6⟩; obtain ⟨l6_0, h6_0_0, h6_0_1⟩ := g6.c2 (w.heap.size) (.int .i64 (f.fractionBits : Int)) (.int .i64 (f.exponentBits : Int))))) | skip)
  all_goals (try go_wp2_with (first
    | (go_at_call_of 58 (Value.int IntKind.u64 a); refine (U1.out _).mono ?_; rintro e w1 ⟨rfl, g1⟩; obtain ⟨l1_0, h1_0_0, h1_0_1⟩ := g1.c2 (w.heap.size) (.int .i64 (f.fractionBits : Int)) (.int .i64 (f.exponentBits : Int)))
    | (go_at_call_of 58 (Value.int IntKind.u64 b); refine (U2.out _).mono ?_; rintro e w2 ⟨rfl, g2⟩; obtain ⟨l2_0, h2_0_0, h2_0_1⟩ := g2.c2 (w.heap.size) (.int .i64 (f.fractionBits : Int)) (.int .i64 (f.exponentBits : Int)))
    | (go_at_call_of 61 (Value.int IntKind.u64 A); refine (N1.out _).mono ?_; rintro e w3 ⟨rfl, g3⟩; obtain ⟨l3_0, h3_0_0, h3_0_1⟩ := g3.c2 (w.heap.size) (.int .i64 (f.fractionBits : Int)) (.int .i64 (f.exponentBits : Int)))
    | (go_at_call_of 61 (Value.int IntKind.u64 D); refine (N2.out _).mono ?_; rintro e w4 ⟨rfl, g4⟩; obtain ⟨l4_0, h4_0_0, h4_0_1⟩ := g4.c2 (w.heap.size) (.int .i64 (f.fractionBits : Int)) (.int .i64 (f.exponentBits : Int)))
    | (go_at_call 68; refine (Op.out _).mono ?_; rintro e w6 ⟨rfl, g6⟩; obtain ⟨l6_0, h6_0_0, h6_0_1⟩ := g6.c2 (w.heap.size) (.int .i64 (f.fractionBits : Int)) (.int .i64 (f.exponentBits : Int)))))
  all_goals (first | (
    go_region_held3 (fun w' => w'.cell? ⟨w.heap.size, 0, none⟩ = some (.int .i64 (f.fractionBits : Int)) ∧ w'.cell? ⟨w.heap.size, 1, none⟩ = some (.int .i64 (f.exponentBits : Int))) (go_keep)
      (first
      | (go_at_call_of 58 (Value.int IntKind.u64 a); refine (U1.out _).mono ?_; rintro e w1 ⟨rfl, g1⟩; obtain ⟨l1_0, h1_0_0, h1_0_1⟩ := g1.c2 (w.heap.size) (.int .i64 (f.fractionBits : Int)) (.int .i64 (f.exponentBits : Int)))
      | (go_at_call_of 58 (Value.int IntKind.u64 b); refine (U2.out _).mono ?_; rintro e w2 ⟨rfl, g2⟩; obtain ⟨l2_0, h2_0_0, h2_0_1⟩ := g2.c2 (w.heap.size) (.int .i64 (f.fractionBits : Int)) (.int .i64 (f.exponentBits : Int)))
      | (go_at_call_of 61 (Value.int IntKind.u64 A); refine (N1.out _).mono ?_; rintro e w3 ⟨rfl, g3⟩; obtain ⟨l3_0, h3_0_0, h3_0_1⟩ := g3.c2 (w.heap.size) (.int .i64 (f.fractionBits : Int)) (.int .i64 (f.exponentBits : Int)))
      | (go_at_call_of 61 (Value.int IntKind.u64 D); refine (N2.out _).mono ?_; rintro e w4 ⟨rfl, g4⟩; obtain ⟨l4_0, h4_0_0, h4_0_1⟩ := g4.c2 (w.heap.size) (.int .i64 (f.fractionBits : Int)) (.int .i64 (f.exponentBits : Int)))
      | (go_at_call 68; refine (Op.out _).mono ?_; rintro e w6 ⟨rfl, g6⟩; obtain ⟨l6_0, h6_0_0, h6_0_1⟩ := g6.c2 (w.heap.size) (.int .i64 (f.fractionBits : Int)) (.int .i64 (f.exponentBits : Int))))) | skip)
  all_goals (try go_wp2_with (first
    | (go_at_call_of 58 (Value.int IntKind.u64 a); refine (U1.out _).mono ?_; rintro e w1 ⟨rfl, g1⟩; obtain ⟨l1_0, h1_0_0, h1_0_1⟩ := g1.c2 (w.heap.size) (.int .i64 (f.fractionBits : Int)) (.int .i64 (f.exponentBits : Int)))
    | (go_at_call_of 58 (Value.int IntKind.u64 b); refine (U2.out _).mono ?_; rintro e w2 ⟨rfl, g2⟩; obtain ⟨l2_0, h2_0_0, h2_0_1⟩ := g2.c2 (w.heap.size) (.int .i64 (f.fractionBits : Int)) (.int .i64 (f.exponentBits : Int)))
    | (go_at_call_of 61 (Value.int IntKind.u64 A); refine (N1.out _).mono ?_; rintro e w3 ⟨rfl, g3⟩; obtain ⟨l3_0, h3_0_0, h3_0_1⟩ := g3.c2 (w.heap.size) (.int .i64 (f.fractionBits : Int)) (.int .i64 (f.exponentBits : Int)))
    | (go_at_call_of 61 (Value.int IntKind.u64 D); refine (N2.out _).mono ?_; rintro e w4 ⟨rfl, g4⟩; obtain ⟨l4_0, h4_0_0, h4_0_1⟩ := g4.c2 (w.heap.size) (.int .i64 (f.fractionBits : Int)) (.int .i64 (f.exponentBits : Int)))
    | (go_at_call 68; refine (Op.out _).mono ?_; rintro e w6 ⟨rfl, g6⟩; obtain ⟨l6_0, h6_0_0, h6_0_1⟩ := g6.c2 (w.heap.size) (.int .i64 (f.fractionBits : Int)) (.int .i64 (f.exponentBits : Int)))))
  all_goals go_ret
  all_goals go_light
  all_goals refine ⟨by first | rfl | simp, ?_⟩
  all_goals repeat (first | exact Grew.refl _ | assumption | refine Grew.drew ?_ | refine Grew.drewN ?_ _ | refine Grew.alloc ?_ _ | refine Grew.set ?_ (by first | (simp; done) | (simp; omega) | omega) _ | refine Grew.trans ?_ (by assumption))
set_option maxRecDepth 100000 in
set_option maxHeartbeats 2000000 in
theorem FBin_3 {f : Ieee.Format} (a b A D R S : Int) (w : World)
    (U1 : CG 58 #[.agg #[.int .i64 (f.fractionBits : Int), .int .i64 (f.exponentBits : Int)], .int .u64 a] (.int .u64 A))
    (U2 : CG 58 #[.agg #[.int .i64 (f.fractionBits : Int), .int .i64 (f.exponentBits : Int)], .int .u64 b] (.int .u64 D))
    (N1 : CG 61 #[.agg #[.int .i64 (f.fractionBits : Int), .int .i64 (f.exponentBits : Int)], .int .u64 A] (.bool false))
    (N2 : CG 61 #[.agg #[.int .i64 (f.fractionBits : Int), .int .i64 (f.exponentBits : Int)], .int .u64 D] (.bool false))
    (Op : CG 69 #[.agg #[.int .i64 (f.fractionBits : Int), .int .i64 (f.exponentBits : Int)], .int .u64 A, .int .u64 D] (.int .u64 R)) :
    Calls Tryd.prog 32 #[.agg #[.int .i64 (f.fractionBits : Int), .int .i64 (f.exponentBits : Int)], .int .i64 3, .int .u64 a, .int .u64 b] w fun en w' => en = .returned (.int .u64 R) ∧ Grew w w' := by
  go_enter Tryd.func32, Tryd.ntmps32
  go_wp2_with (first
    | (go_at_call_of 58 (Value.int IntKind.u64 a); refine (U1.out _).mono ?_; rintro e w1 ⟨rfl, g1⟩; obtain ⟨l1_0, h1_0_0, h1_0_1⟩ := g1.c2 (w.heap.size) (.int .i64 (f.fractionBits : Int)) (.int .i64 (f.exponentBits : Int)))
    | (go_at_call_of 58 (Value.int IntKind.u64 b); refine (U2.out _).mono ?_; rintro e w2 ⟨rfl, g2⟩; obtain ⟨l2_0, h2_0_0, h2_0_1⟩ := g2.c2 (w.heap.size) (.int .i64 (f.fractionBits : Int)) (.int .i64 (f.exponentBits : Int)))
    | (go_at_call_of 61 (Value.int IntKind.u64 A); refine (N1.out _).mono ?_; rintro e w3 ⟨rfl, g3⟩; obtain ⟨l3_0, h3_0_0, h3_0_1⟩ := g3.c2 (w.heap.size) (.int .i64 (f.fractionBits : Int)) (.int .i64 (f.exponentBits : Int)))
    | (go_at_call_of 61 (Value.int IntKind.u64 D); refine (N2.out _).mono ?_; rintro e w4 ⟨rfl, g4⟩; obtain ⟨l4_0, h4_0_0, h4_0_1⟩ := g4.c2 (w.heap.size) (.int .i64 (f.fractionBits : Int)) (.int .i64 (f.exponentBits : Int)))
    | (go_at_call 69; refine (Op.out _).mono ?_; rintro e w6 ⟨rfl, g6⟩; obtain ⟨l6_0, h6_0_0, h6_0_1⟩ := g6.c2 (w.heap.size) (.int .i64 (f.fractionBits : Int)) (.int .i64 (f.exponentBits : Int))))
  all_goals (first | (
    go_region_held3 (fun w' => w'.cell? ⟨w.heap.size, 0, none⟩ = some (.int .i64 (f.fractionBits : Int)) ∧ w'.cell? ⟨w.heap.size, 1, none⟩ = some (.int .i64 (f.exponentBits : Int))) (go_keep)
      (first
      | (go_at_call_of 58 (Value.int IntKind.u64 a); refine (U1.out _).mono ?_; rintro e w1 ⟨rfl, g1⟩; obtain ⟨l1_0, h1_0_0, h1_0_1⟩ := g1.c2 (w.heap.size) (.int .i64 (f.fractionBits : Int)) (.int .i64 (f.exponentBits : Int)))
      | (go_at_call_of 58 (Value.int IntKind.u64 b); refine (U2.out _).mono ?_; rintro e w2 ⟨rfl, g2⟩; obtain ⟨l2_0, h2_0_0, h2_0_1⟩ := g2.c2 (w.heap.size) (.int .i64 (f.fractionBits : Int)) (.int .i64 (f.exponentBits : Int)))
      | (go_at_call_of 61 (Value.int IntKind.u64 A); refine (N1.out _).mono ?_; rintro e w3 ⟨rfl, g3⟩; obtain ⟨l3_0, h3_0_0, h3_0_1⟩ := g3.c2 (w.heap.size) (.int .i64 (f.fractionBits : Int)) (.int .i64 (f.exponentBits : Int)))
      | (go_at_call_of 61 (Value.int IntKind.u64 D); refine (N2.out _).mono ?_; rintro e w4 ⟨rfl, g4⟩; obtain ⟨l4_0, h4_0_0, h4_0_1⟩ := g4.c2 (w.heap.size) (.int .i64 (f.fractionBits : Int)) (.int .i64 (f.exponentBits : Int)))
      | (go_at_call 69; refine (Op.out _).mono ?_; rintro e w6 ⟨rfl, g6⟩; obtain ⟨l6_0, h6_0_0, h6_0_1⟩ := g6.c2 (w.heap.size) (.int .i64 (f.fractionBits : Int)) (.int .i64 (f.exponentBits : Int))))) | skip)
  all_goals (try go_wp2_with (first
    | (go_at_call_of 58 (Value.int IntKind.u64 a); refine (U1.out _).mono ?_; rintro e w1 ⟨rfl, g1⟩; obtain ⟨l1_0, h1_0_0, h1_0_1⟩ := g1.c2 (w.heap.size) (.int .i64 (f.fractionBits : Int)) (.int .i64 (f.exponentBits : Int)))
    | (go_at_call_of 58 (Value.int IntKind.u64 b); refine (U2.out _).mono ?_; rintro e w2 ⟨rfl, g2⟩; obtain ⟨l2_0, h2_0_0, h2_0_1⟩ := g2.c2 (w.heap.size) (.int .i64 (f.fractionBits : Int)) (.int .i64 (f.exponentBits : Int)))
    | (go_at_call_of 61 (Value.int IntKind.u64 A); refine (N1.out _).mono ?_; rintro e w3 ⟨rfl, g3⟩; obtain ⟨l3_0, h3_0_0, h3_0_1⟩ := g3.c2 (w.heap.size) (.int .i64 (f.fractionBits : Int)) (.int .i64 (f.exponentBits : Int)))
    | (go_at_call_of 61 (Value.int IntKind.u64 D); refine (N2.out _).mono ?_; rintro e w4 ⟨rfl, g4⟩; obtain ⟨l4_0, h4_0_0, h4_0_1⟩ := g4.c2 (w.heap.size) (.int .i64 (f.fractionBits : Int)) (.int .i64 (f.exponentBits : Int)))
    | (go_at_call 69; refine (Op.out _).mono ?_; rintro e w6 ⟨rfl, g6⟩; obtain ⟨l6_0, h6_0_0, h6_0_1⟩ := g6.c2 (w.heap.size) (.int .i64 (f.fractionBits : Int)) (.int .i64 (f.exponentBits : Int)))))
  all_goals (first | (
    go_region_held3 (fun w' => w'.cell? ⟨w.heap.size, 0, none⟩ = some (.int .i64 (f.fractionBits : Int)) ∧ w'.cell? ⟨w.heap.size, 1, none⟩ = some (.int .i64 (f.exponentBits : Int))) (go_keep)
      (first
      | (go_at_call_of 58 (Value.int IntKind.u64 a); refine (U1.out _).mono ?_; rintro e w1 ⟨rfl, g1⟩; obtain ⟨l1_0, h1_0_0, h1_0_1⟩ := g1.c2 (w.heap.size) (.int .i64 (f.fractionBits : Int)) (.int .i64 (f.exponentBits : Int)))
      | (go_at_call_of 58 (Value.int IntKind.u64 b); refine (U2.out _).mono ?_; rintro e w2 ⟨rfl, g2⟩; obtain ⟨l2_0, h2_0_0, h2_0_1⟩ := g2.c2 (w.heap.size) (.int .i64 (f.fractionBits : Int)) (.int .i64 (f.exponentBits : Int)))
      | (go_at_call_of 61 (Value.int IntKind.u64 A); refine (N1.out _).mono ?_; rintro e w3 ⟨rfl, g3⟩; obtain ⟨l3_0, h3_0_0, h3_0_1⟩ := g3.c2 (w.heap.size) (.int .i64 (f.fractionBits : Int)) (.int .i64 (f.exponentBits : Int)))
      | (go_at_call_of 61 (Value.int IntKind.u64 D); refine (N2.out _).mono ?_; rintro e w4 ⟨rfl, g4⟩; obtain ⟨l4_0, h4_0_0, h4_0_1⟩ := g4.c2 (w.heap.size) (.int .i64 (f.fractionBits : Int)) (.int .i64 (f.exponentBits : Int)))
      | (go_at_call 69; refine (Op.out _).mono ?_; rintro e w6 ⟨rfl, g6⟩; obtain ⟨l6_0, h6_0_0, h6_0_1⟩ := g6.c2 (w.heap.size) (.int .i64 (f.fractionBits : Int)) (.int .i64 (f.exponentBits : Int))))) | skip)
  all_goals (try go_wp2_with (first
    | (go_at_call_of 58 (Value.int IntKind.u64 a); refine (U1.out _).mono ?_; rintro e w1 ⟨rfl, g1⟩; obtain ⟨l1_0, h1_0_0, h1_0_1⟩ := g1.c2 (w.heap.size) (.int .i64 (f.fractionBits : Int)) (.int .i64 (f.exponentBits : Int)))
    | (go_at_call_of 58 (Value.int IntKind.u64 b); refine (U2.out _).mono ?_; rintro e w2 ⟨rfl, g2⟩; obtain ⟨l2_0, h2_0_0, h2_0_1⟩ := g2.c2 (w.heap.size) (.int .i64 (f.fractionBits : Int)) (.int .i64 (f.exponentBits : Int)))
    | (go_at_call_of 61 (Value.int IntKind.u64 A); refine (N1.out _).mono ?_; rintro e w3 ⟨rfl, g3⟩; obtain ⟨l3_0, h3_0_0, h3_0_1⟩ := g3.c2 (w.heap.size) (.int .i64 (f.fractionBits : Int)) (.int .i64 (f.exponentBits : Int)))
    | (go_at_call_of 61 (Value.int IntKind.u64 D); refine (N2.out _).mono ?_; rintro e w4 ⟨rfl, g4⟩; obtain ⟨l4_0, h4_0_0, h4_0_1⟩ := g4.c2 (w.heap.size) (.int .i64 (f.fractionBits : Int)) (.int .i64 (f.exponentBits : Int)))
    | (go_at_call 69; refine (Op.out _).mono ?_; rintro e w6 ⟨rfl, g6⟩; obtain ⟨l6_0, h6_0_0, h6_0_1⟩ := g6.c2 (w.heap.size) (.int .i64 (f.fractionBits : Int)) (.int .i64 (f.exponentBits : Int)))))
  all_goals go_ret
  all_goals go_light
  all_goals refine ⟨by first | rfl | simp, ?_⟩
  all_goals repeat (first | exact Grew.refl _ | assumption | refine Grew.drew ?_ | refine Grew.drewN ?_ _ | refine Grew.alloc ?_ _ | refine Grew.set ?_ (by first | (simp; done) | (simp; omega) | omega) _ | refine Grew.trans ?_ (by assumption))
set_option maxRecDepth 100000 in
set_option maxHeartbeats 2000000 in
theorem FBin_4 {f : Ieee.Format} (a b A D R S : Int) (w : World)
    (U1 : CG 58 #[.agg #[.int .i64 (f.fractionBits : Int), .int .i64 (f.exponentBits : Int)], .int .u64 a] (.int .u64 A))
    (U2 : CG 58 #[.agg #[.int .i64 (f.fractionBits : Int), .int .i64 (f.exponentBits : Int)], .int .u64 b] (.int .u64 D))
    (N1 : CG 61 #[.agg #[.int .i64 (f.fractionBits : Int), .int .i64 (f.exponentBits : Int)], .int .u64 A] (.bool false))
    (N2 : CG 61 #[.agg #[.int .i64 (f.fractionBits : Int), .int .i64 (f.exponentBits : Int)], .int .u64 D] (.bool false))
    (Op : CG 70 #[.agg #[.int .i64 (f.fractionBits : Int), .int .i64 (f.exponentBits : Int)], .int .u64 A, .int .u64 D, .bool false] (.int .u64 R)) :
    Calls Tryd.prog 32 #[.agg #[.int .i64 (f.fractionBits : Int), .int .i64 (f.exponentBits : Int)], .int .i64 4, .int .u64 a, .int .u64 b] w fun en w' => en = .returned (.int .u64 R) ∧ Grew w w' := by
  go_enter Tryd.func32, Tryd.ntmps32
  go_wp2_with (first
    | (go_at_call_of 58 (Value.int IntKind.u64 a); refine (U1.out _).mono ?_; rintro e w1 ⟨rfl, g1⟩; obtain ⟨l1_0, h1_0_0, h1_0_1⟩ := g1.c2 (w.heap.size) (.int .i64 (f.fractionBits : Int)) (.int .i64 (f.exponentBits : Int)))
    | (go_at_call_of 58 (Value.int IntKind.u64 b); refine (U2.out _).mono ?_; rintro e w2 ⟨rfl, g2⟩; obtain ⟨l2_0, h2_0_0, h2_0_1⟩ := g2.c2 (w.heap.size) (.int .i64 (f.fractionBits : Int)) (.int .i64 (f.exponentBits : Int)))
    | (go_at_call_of 61 (Value.int IntKind.u64 A); refine (N1.out _).mono ?_; rintro e w3 ⟨rfl, g3⟩; obtain ⟨l3_0, h3_0_0, h3_0_1⟩ := g3.c2 (w.heap.size) (.int .i64 (f.fractionBits : Int)) (.int .i64 (f.exponentBits : Int)))
    | (go_at_call_of 61 (Value.int IntKind.u64 D); refine (N2.out _).mono ?_; rintro e w4 ⟨rfl, g4⟩; obtain ⟨l4_0, h4_0_0, h4_0_1⟩ := g4.c2 (w.heap.size) (.int .i64 (f.fractionBits : Int)) (.int .i64 (f.exponentBits : Int)))
    | (go_at_call 70; refine (Op.out _).mono ?_; rintro e w6 ⟨rfl, g6⟩; obtain ⟨l6_0, h6_0_0, h6_0_1⟩ := g6.c2 (w.heap.size) (.int .i64 (f.fractionBits : Int)) (.int .i64 (f.exponentBits : Int))))
  all_goals (first | (
    go_region_held3 (fun w' => w'.cell? ⟨w.heap.size, 0, none⟩ = some (.int .i64 (f.fractionBits : Int)) ∧ w'.cell? ⟨w.heap.size, 1, none⟩ = some (.int .i64 (f.exponentBits : Int))) (go_keep)
      (first
      | (go_at_call_of 58 (Value.int IntKind.u64 a); refine (U1.out _).mono ?_; rintro e w1 ⟨rfl, g1⟩; obtain ⟨l1_0, h1_0_0, h1_0_1⟩ := g1.c2 (w.heap.size) (.int .i64 (f.fractionBits : Int)) (.int .i64 (f.exponentBits : Int)))
      | (go_at_call_of 58 (Value.int IntKind.u64 b); refine (U2.out _).mono ?_; rintro e w2 ⟨rfl, g2⟩; obtain ⟨l2_0, h2_0_0, h2_0_1⟩ := g2.c2 (w.heap.size) (.int .i64 (f.fractionBits : Int)) (.int .i64 (f.exponentBits : Int)))
      | (go_at_call_of 61 (Value.int IntKind.u64 A); refine (N1.out _).mono ?_; rintro e w3 ⟨rfl, g3⟩; obtain ⟨l3_0, h3_0_0, h3_0_1⟩ := g3.c2 (w.heap.size) (.int .i64 (f.fractionBits : Int)) (.int .i64 (f.exponentBits : Int)))
      | (go_at_call_of 61 (Value.int IntKind.u64 D); refine (N2.out _).mono ?_; rintro e w4 ⟨rfl, g4⟩; obtain ⟨l4_0, h4_0_0, h4_0_1⟩ := g4.c2 (w.heap.size) (.int .i64 (f.fractionBits : Int)) (.int .i64 (f.exponentBits : Int)))
      | (go_at_call 70; refine (Op.out _).mono ?_; rintro e w6 ⟨rfl, g6⟩; obtain ⟨l6_0, h6_0_0, h6_0_1⟩ := g6.c2 (w.heap.size) (.int .i64 (f.fractionBits : Int)) (.int .i64 (f.exponentBits : Int))))) | skip)
  all_goals (try go_wp2_with (first
    | (go_at_call_of 58 (Value.int IntKind.u64 a); refine (U1.out _).mono ?_; rintro e w1 ⟨rfl, g1⟩; obtain ⟨l1_0, h1_0_0, h1_0_1⟩ := g1.c2 (w.heap.size) (.int .i64 (f.fractionBits : Int)) (.int .i64 (f.exponentBits : Int)))
    | (go_at_call_of 58 (Value.int IntKind.u64 b); refine (U2.out _).mono ?_; rintro e w2 ⟨rfl, g2⟩; obtain ⟨l2_0, h2_0_0, h2_0_1⟩ := g2.c2 (w.heap.size) (.int .i64 (f.fractionBits : Int)) (.int .i64 (f.exponentBits : Int)))
    | (go_at_call_of 61 (Value.int IntKind.u64 A); refine (N1.out _).mono ?_; rintro e w3 ⟨rfl, g3⟩; obtain ⟨l3_0, h3_0_0, h3_0_1⟩ := g3.c2 (w.heap.size) (.int .i64 (f.fractionBits : Int)) (.int .i64 (f.exponentBits : Int)))
    | (go_at_call_of 61 (Value.int IntKind.u64 D); refine (N2.out _).mono ?_; rintro e w4 ⟨rfl, g4⟩; obtain ⟨l4_0, h4_0_0, h4_0_1⟩ := g4.c2 (w.heap.size) (.int .i64 (f.fractionBits : Int)) (.int .i64 (f.exponentBits : Int)))
    | (go_at_call 70; refine (Op.out _).mono ?_; rintro e w6 ⟨rfl, g6⟩; obtain ⟨l6_0, h6_0_0, h6_0_1⟩ := g6.c2 (w.heap.size) (.int .i64 (f.fractionBits : Int)) (.int .i64 (f.exponentBits : Int)))))
  all_goals (first | (
    go_region_held3 (fun w' => w'.cell? ⟨w.heap.size, 0, none⟩ = some (.int .i64 (f.fractionBits : Int)) ∧ w'.cell? ⟨w.heap.size, 1, none⟩ = some (.int .i64 (f.exponentBits : Int))) (go_keep)
      (first
      | (go_at_call_of 58 (Value.int IntKind.u64 a); refine (U1.out _).mono ?_; rintro e w1 ⟨rfl, g1⟩; obtain ⟨l1_0, h1_0_0, h1_0_1⟩ := g1.c2 (w.heap.size) (.int .i64 (f.fractionBits : Int)) (.int .i64 (f.exponentBits : Int)))
      | (go_at_call_of 58 (Value.int IntKind.u64 b); refine (U2.out _).mono ?_; rintro e w2 ⟨rfl, g2⟩; obtain ⟨l2_0, h2_0_0, h2_0_1⟩ := g2.c2 (w.heap.size) (.int .i64 (f.fractionBits : Int)) (.int .i64 (f.exponentBits : Int)))
      | (go_at_call_of 61 (Value.int IntKind.u64 A); refine (N1.out _).mono ?_; rintro e w3 ⟨rfl, g3⟩; obtain ⟨l3_0, h3_0_0, h3_0_1⟩ := g3.c2 (w.heap.size) (.int .i64 (f.fractionBits : Int)) (.int .i64 (f.exponentBits : Int)))
      | (go_at_call_of 61 (Value.int IntKind.u64 D); refine (N2.out _).mono ?_; rintro e w4 ⟨rfl, g4⟩; obtain ⟨l4_0, h4_0_0, h4_0_1⟩ := g4.c2 (w.heap.size) (.int .i64 (f.fractionBits : Int)) (.int .i64 (f.exponentBits : Int)))
      | (go_at_call 70; refine (Op.out _).mono ?_; rintro e w6 ⟨rfl, g6⟩; obtain ⟨l6_0, h6_0_0, h6_0_1⟩ := g6.c2 (w.heap.size) (.int .i64 (f.fractionBits : Int)) (.int .i64 (f.exponentBits : Int))))) | skip)
  all_goals (try go_wp2_with (first
    | (go_at_call_of 58 (Value.int IntKind.u64 a); refine (U1.out _).mono ?_; rintro e w1 ⟨rfl, g1⟩; obtain ⟨l1_0, h1_0_0, h1_0_1⟩ := g1.c2 (w.heap.size) (.int .i64 (f.fractionBits : Int)) (.int .i64 (f.exponentBits : Int)))
    | (go_at_call_of 58 (Value.int IntKind.u64 b); refine (U2.out _).mono ?_; rintro e w2 ⟨rfl, g2⟩; obtain ⟨l2_0, h2_0_0, h2_0_1⟩ := g2.c2 (w.heap.size) (.int .i64 (f.fractionBits : Int)) (.int .i64 (f.exponentBits : Int)))
    | (go_at_call_of 61 (Value.int IntKind.u64 A); refine (N1.out _).mono ?_; rintro e w3 ⟨rfl, g3⟩; obtain ⟨l3_0, h3_0_0, h3_0_1⟩ := g3.c2 (w.heap.size) (.int .i64 (f.fractionBits : Int)) (.int .i64 (f.exponentBits : Int)))
    | (go_at_call_of 61 (Value.int IntKind.u64 D); refine (N2.out _).mono ?_; rintro e w4 ⟨rfl, g4⟩; obtain ⟨l4_0, h4_0_0, h4_0_1⟩ := g4.c2 (w.heap.size) (.int .i64 (f.fractionBits : Int)) (.int .i64 (f.exponentBits : Int)))
    | (go_at_call 70; refine (Op.out _).mono ?_; rintro e w6 ⟨rfl, g6⟩; obtain ⟨l6_0, h6_0_0, h6_0_1⟩ := g6.c2 (w.heap.size) (.int .i64 (f.fractionBits : Int)) (.int .i64 (f.exponentBits : Int)))))
  all_goals go_ret
  all_goals go_light
  all_goals refine ⟨by first | rfl | simp, ?_⟩
  all_goals repeat (first | exact Grew.refl _ | assumption | refine Grew.drew ?_ | refine Grew.drewN ?_ _ | refine Grew.alloc ?_ _ | refine Grew.set ?_ (by first | (simp; done) | (simp; omega) | omega) _ | refine Grew.trans ?_ (by assumption))
set_option maxRecDepth 100000 in
set_option maxHeartbeats 2000000 in
theorem FBin_5 {f : Ieee.Format} (a b A D R S : Int) (w : World)
    (U1 : CG 58 #[.agg #[.int .i64 (f.fractionBits : Int), .int .i64 (f.exponentBits : Int)], .int .u64 a] (.int .u64 A))
    (U2 : CG 58 #[.agg #[.int .i64 (f.fractionBits : Int), .int .i64 (f.exponentBits : Int)], .int .u64 b] (.int .u64 D))
    (N1 : CG 61 #[.agg #[.int .i64 (f.fractionBits : Int), .int .i64 (f.exponentBits : Int)], .int .u64 A] (.bool false))
    (N2 : CG 61 #[.agg #[.int .i64 (f.fractionBits : Int), .int .i64 (f.exponentBits : Int)], .int .u64 D] (.bool false))
    (Op : CG 70 #[.agg #[.int .i64 (f.fractionBits : Int), .int .i64 (f.exponentBits : Int)], .int .u64 A, .int .u64 D, .bool true] (.int .u64 R)) :
    Calls Tryd.prog 32 #[.agg #[.int .i64 (f.fractionBits : Int), .int .i64 (f.exponentBits : Int)], .int .i64 5, .int .u64 a, .int .u64 b] w fun en w' => en = .returned (.int .u64 R) ∧ Grew w w' := by
  go_enter Tryd.func32, Tryd.ntmps32
  go_wp2_with (first
    | (go_at_call_of 58 (Value.int IntKind.u64 a); refine (U1.out _).mono ?_; rintro e w1 ⟨rfl, g1⟩; obtain ⟨l1_0, h1_0_0, h1_0_1⟩ := g1.c2 (w.heap.size) (.int .i64 (f.fractionBits : Int)) (.int .i64 (f.exponentBits : Int)))
    | (go_at_call_of 58 (Value.int IntKind.u64 b); refine (U2.out _).mono ?_; rintro e w2 ⟨rfl, g2⟩; obtain ⟨l2_0, h2_0_0, h2_0_1⟩ := g2.c2 (w.heap.size) (.int .i64 (f.fractionBits : Int)) (.int .i64 (f.exponentBits : Int)))
    | (go_at_call_of 61 (Value.int IntKind.u64 A); refine (N1.out _).mono ?_; rintro e w3 ⟨rfl, g3⟩; obtain ⟨l3_0, h3_0_0, h3_0_1⟩ := g3.c2 (w.heap.size) (.int .i64 (f.fractionBits : Int)) (.int .i64 (f.exponentBits : Int)))
    | (go_at_call_of 61 (Value.int IntKind.u64 D); refine (N2.out _).mono ?_; rintro e w4 ⟨rfl, g4⟩; obtain ⟨l4_0, h4_0_0, h4_0_1⟩ := g4.c2 (w.heap.size) (.int .i64 (f.fractionBits : Int)) (.int .i64 (f.exponentBits : Int)))
    | (go_at_call 70; refine (Op.out _).mono ?_; rintro e w6 ⟨rfl, g6⟩; obtain ⟨l6_0, h6_0_0, h6_0_1⟩ := g6.c2 (w.heap.size) (.int .i64 (f.fractionBits : Int)) (.int .i64 (f.exponentBits : Int))))
  all_goals (first | (
    go_region_held3 (fun w' => w'.cell? ⟨w.heap.size, 0, none⟩ = some (.int .i64 (f.fractionBits : Int)) ∧ w'.cell? ⟨w.heap.size, 1, none⟩ = some (.int .i64 (f.exponentBits : Int))) (go_keep)
      (first
      | (go_at_call_of 58 (Value.int IntKind.u64 a); refine (U1.out _).mono ?_; rintro e w1 ⟨rfl, g1⟩; obtain ⟨l1_0, h1_0_0, h1_0_1⟩ := g1.c2 (w.heap.size) (.int .i64 (f.fractionBits : Int)) (.int .i64 (f.exponentBits : Int)))
      | (go_at_call_of 58 (Value.int IntKind.u64 b); refine (U2.out _).mono ?_; rintro e w2 ⟨rfl, g2⟩; obtain ⟨l2_0, h2_0_0, h2_0_1⟩ := g2.c2 (w.heap.size) (.int .i64 (f.fractionBits : Int)) (.int .i64 (f.exponentBits : Int)))
      | (go_at_call_of 61 (Value.int IntKind.u64 A); refine (N1.out _).mono ?_; rintro e w3 ⟨rfl, g3⟩; obtain ⟨l3_0, h3_0_0, h3_0_1⟩ := g3.c2 (w.heap.size) (.int .i64 (f.fractionBits : Int)) (.int .i64 (f.exponentBits : Int)))
      | (go_at_call_of 61 (Value.int IntKind.u64 D); refine (N2.out _).mono ?_; rintro e w4 ⟨rfl, g4⟩; obtain ⟨l4_0, h4_0_0, h4_0_1⟩ := g4.c2 (w.heap.size) (.int .i64 (f.fractionBits : Int)) (.int .i64 (f.exponentBits : Int)))
      | (go_at_call 70; refine (Op.out _).mono ?_; rintro e w6 ⟨rfl, g6⟩; obtain ⟨l6_0, h6_0_0, h6_0_1⟩ := g6.c2 (w.heap.size) (.int .i64 (f.fractionBits : Int)) (.int .i64 (f.exponentBits : Int))))) | skip)
  all_goals (try go_wp2_with (first
    | (go_at_call_of 58 (Value.int IntKind.u64 a); refine (U1.out _).mono ?_; rintro e w1 ⟨rfl, g1⟩; obtain ⟨l1_0, h1_0_0, h1_0_1⟩ := g1.c2 (w.heap.size) (.int .i64 (f.fractionBits : Int)) (.int .i64 (f.exponentBits : Int)))
    | (go_at_call_of 58 (Value.int IntKind.u64 b); refine (U2.out _).mono ?_; rintro e w2 ⟨rfl, g2⟩; obtain ⟨l2_0, h2_0_0, h2_0_1⟩ := g2.c2 (w.heap.size) (.int .i64 (f.fractionBits : Int)) (.int .i64 (f.exponentBits : Int)))
    | (go_at_call_of 61 (Value.int IntKind.u64 A); refine (N1.out _).mono ?_; rintro e w3 ⟨rfl, g3⟩; obtain ⟨l3_0, h3_0_0, h3_0_1⟩ := g3.c2 (w.heap.size) (.int .i64 (f.fractionBits : Int)) (.int .i64 (f.exponentBits : Int)))
    | (go_at_call_of 61 (Value.int IntKind.u64 D); refine (N2.out _).mono ?_; rintro e w4 ⟨rfl, g4⟩; obtain ⟨l4_0, h4_0_0, h4_0_1⟩ := g4.c2 (w.heap.size) (.int .i64 (f.fractionBits : Int)) (.int .i64 (f.exponentBits : Int)))
    | (go_at_call 70; refine (Op.out _).mono ?_; rintro e w6 ⟨rfl, g6⟩; obtain ⟨l6_0, h6_0_0, h6_0_1⟩ := g6.c2 (w.heap.size) (.int .i64 (f.fractionBits : Int)) (.int .i64 (f.exponentBits : Int)))))
  all_goals (first | (
    go_region_held3 (fun w' => w'.cell? ⟨w.heap.size, 0, none⟩ = some (.int .i64 (f.fractionBits : Int)) ∧ w'.cell? ⟨w.heap.size, 1, none⟩ = some (.int .i64 (f.exponentBits : Int))) (go_keep)
      (first
      | (go_at_call_of 58 (Value.int IntKind.u64 a); refine (U1.out _).mono ?_; rintro e w1 ⟨rfl, g1⟩; obtain ⟨l1_0, h1_0_0, h1_0_1⟩ := g1.c2 (w.heap.size) (.int .i64 (f.fractionBits : Int)) (.int .i64 (f.exponentBits : Int)))
      | (go_at_call_of 58 (Value.int IntKind.u64 b); refine (U2.out _).mono ?_; rintro e w2 ⟨rfl, g2⟩; obtain ⟨l2_0, h2_0_0, h2_0_1⟩ := g2.c2 (w.heap.size) (.int .i64 (f.fractionBits : Int)) (.int .i64 (f.exponentBits : Int)))
      | (go_at_call_of 61 (Value.int IntKind.u64 A); refine (N1.out _).mono ?_; rintro e w3 ⟨rfl, g3⟩; obtain ⟨l3_0, h3_0_0, h3_0_1⟩ := g3.c2 (w.heap.size) (.int .i64 (f.fractionBits : Int)) (.int .i64 (f.exponentBits : Int)))
      | (go_at_call_of 61 (Value.int IntKind.u64 D); refine (N2.out _).mono ?_; rintro e w4 ⟨rfl, g4⟩; obtain ⟨l4_0, h4_0_0, h4_0_1⟩ := g4.c2 (w.heap.size) (.int .i64 (f.fractionBits : Int)) (.int .i64 (f.exponentBits : Int)))
      | (go_at_call 70; refine (Op.out _).mono ?_; rintro e w6 ⟨rfl, g6⟩; obtain ⟨l6_0, h6_0_0, h6_0_1⟩ := g6.c2 (w.heap.size) (.int .i64 (f.fractionBits : Int)) (.int .i64 (f.exponentBits : Int))))) | skip)
  all_goals (try go_wp2_with (first
    | (go_at_call_of 58 (Value.int IntKind.u64 a); refine (U1.out _).mono ?_; rintro e w1 ⟨rfl, g1⟩; obtain ⟨l1_0, h1_0_0, h1_0_1⟩ := g1.c2 (w.heap.size) (.int .i64 (f.fractionBits : Int)) (.int .i64 (f.exponentBits : Int)))
    | (go_at_call_of 58 (Value.int IntKind.u64 b); refine (U2.out _).mono ?_; rintro e w2 ⟨rfl, g2⟩; obtain ⟨l2_0, h2_0_0, h2_0_1⟩ := g2.c2 (w.heap.size) (.int .i64 (f.fractionBits : Int)) (.int .i64 (f.exponentBits : Int)))
    | (go_at_call_of 61 (Value.int IntKind.u64 A); refine (N1.out _).mono ?_; rintro e w3 ⟨rfl, g3⟩; obtain ⟨l3_0, h3_0_0, h3_0_1⟩ := g3.c2 (w.heap.size) (.int .i64 (f.fractionBits : Int)) (.int .i64 (f.exponentBits : Int)))
    | (go_at_call_of 61 (Value.int IntKind.u64 D); refine (N2.out _).mono ?_; rintro e w4 ⟨rfl, g4⟩; obtain ⟨l4_0, h4_0_0, h4_0_1⟩ := g4.c2 (w.heap.size) (.int .i64 (f.fractionBits : Int)) (.int .i64 (f.exponentBits : Int)))
    | (go_at_call 70; refine (Op.out _).mono ?_; rintro e w6 ⟨rfl, g6⟩; obtain ⟨l6_0, h6_0_0, h6_0_1⟩ := g6.c2 (w.heap.size) (.int .i64 (f.fractionBits : Int)) (.int .i64 (f.exponentBits : Int)))))
  all_goals go_ret
  all_goals go_light
  all_goals refine ⟨by first | rfl | simp, ?_⟩
  all_goals repeat (first | exact Grew.refl _ | assumption | refine Grew.drew ?_ | refine Grew.drewN ?_ _ | refine Grew.alloc ?_ _ | refine Grew.set ?_ (by first | (simp; done) | (simp; omega) | omega) _ | refine Grew.trans ?_ (by assumption))
set_option maxRecDepth 100000 in
set_option maxHeartbeats 2000000 in
theorem FBin_6 {f : Ieee.Format} (a b A D x S R : Int) (w : World) (hR : IntKind.u64.wrap (x + bits .and .u64 D S) = R)
    (U1 : CG 58 #[.agg #[.int .i64 (f.fractionBits : Int), .int .i64 (f.exponentBits : Int)], .int .u64 a] (.int .u64 A))
    (U2 : CG 58 #[.agg #[.int .i64 (f.fractionBits : Int), .int .i64 (f.exponentBits : Int)], .int .u64 b] (.int .u64 D))
    (Za : CG 59 #[.agg #[.int .i64 (f.fractionBits : Int), .int .i64 (f.exponentBits : Int)], .int .u64 A] (.int .u64 x))
    (Sg : CG 60 #[.agg #[.int .i64 (f.fractionBits : Int), .int .i64 (f.exponentBits : Int)]] (.int .u64 S)) :
    Calls Tryd.prog 32 #[.agg #[.int .i64 (f.fractionBits : Int), .int .i64 (f.exponentBits : Int)], .int .i64 6, .int .u64 a, .int .u64 b] w fun en w' => en = .returned (.int .u64 R) ∧ Grew w w' := by
  go_enter Tryd.func32, Tryd.ntmps32
  go_wp2_with (first
    | (go_at_call_of 58 (Value.int IntKind.u64 a); refine (U1.out _).mono ?_; rintro e w1 ⟨rfl, g1⟩; obtain ⟨l1_0, h1_0_0, h1_0_1⟩ := g1.c2 (w.heap.size) (.int .i64 (f.fractionBits : Int)) (.int .i64 (f.exponentBits : Int)))
    | (go_at_call_of 58 (Value.int IntKind.u64 b); refine (U2.out _).mono ?_; rintro e w2 ⟨rfl, g2⟩; obtain ⟨l2_0, h2_0_0, h2_0_1⟩ := g2.c2 (w.heap.size) (.int .i64 (f.fractionBits : Int)) (.int .i64 (f.exponentBits : Int)))
    | (go_at_call 59; refine (Za.out _).mono ?_; rintro e w3 ⟨rfl, g3⟩; obtain ⟨l3_0, h3_0_0, h3_0_1⟩ := g3.c2 (w.heap.size) (.int .i64 (f.fractionBits : Int)) (.int .i64 (f.exponentBits : Int)))
    | (go_at_call 60; refine (Sg.out _).mono ?_; rintro e w4 ⟨rfl, g4⟩; obtain ⟨l4_0, h4_0_0, h4_0_1⟩ := g4.c2 (w.heap.size) (.int .i64 (f.fractionBits : Int)) (.int .i64 (f.exponentBits : Int))))
  all_goals (first | (
    go_region_held3 (fun w' => w'.cell? ⟨w.heap.size, 0, none⟩ = some (.int .i64 (f.fractionBits : Int)) ∧ w'.cell? ⟨w.heap.size, 1, none⟩ = some (.int .i64 (f.exponentBits : Int))) (go_keep)
      (first
      | (go_at_call_of 58 (Value.int IntKind.u64 a); refine (U1.out _).mono ?_; rintro e w1 ⟨rfl, g1⟩; obtain ⟨l1_0, h1_0_0, h1_0_1⟩ := g1.c2 (w.heap.size) (.int .i64 (f.fractionBits : Int)) (.int .i64 (f.exponentBits : Int)))
      | (go_at_call_of 58 (Value.int IntKind.u64 b); refine (U2.out _).mono ?_; rintro e w2 ⟨rfl, g2⟩; obtain ⟨l2_0, h2_0_0, h2_0_1⟩ := g2.c2 (w.heap.size) (.int .i64 (f.fractionBits : Int)) (.int .i64 (f.exponentBits : Int)))
      | (go_at_call 59; refine (Za.out _).mono ?_; rintro e w3 ⟨rfl, g3⟩; obtain ⟨l3_0, h3_0_0, h3_0_1⟩ := g3.c2 (w.heap.size) (.int .i64 (f.fractionBits : Int)) (.int .i64 (f.exponentBits : Int)))
      | (go_at_call 60; refine (Sg.out _).mono ?_; rintro e w4 ⟨rfl, g4⟩; obtain ⟨l4_0, h4_0_0, h4_0_1⟩ := g4.c2 (w.heap.size) (.int .i64 (f.fractionBits : Int)) (.int .i64 (f.exponentBits : Int))))) | skip)
  all_goals (try go_wp2_with (first
    | (go_at_call_of 58 (Value.int IntKind.u64 a); refine (U1.out _).mono ?_; rintro e w1 ⟨rfl, g1⟩; obtain ⟨l1_0, h1_0_0, h1_0_1⟩ := g1.c2 (w.heap.size) (.int .i64 (f.fractionBits : Int)) (.int .i64 (f.exponentBits : Int)))
    | (go_at_call_of 58 (Value.int IntKind.u64 b); refine (U2.out _).mono ?_; rintro e w2 ⟨rfl, g2⟩; obtain ⟨l2_0, h2_0_0, h2_0_1⟩ := g2.c2 (w.heap.size) (.int .i64 (f.fractionBits : Int)) (.int .i64 (f.exponentBits : Int)))
    | (go_at_call 59; refine (Za.out _).mono ?_; rintro e w3 ⟨rfl, g3⟩; obtain ⟨l3_0, h3_0_0, h3_0_1⟩ := g3.c2 (w.heap.size) (.int .i64 (f.fractionBits : Int)) (.int .i64 (f.exponentBits : Int)))
    | (go_at_call 60; refine (Sg.out _).mono ?_; rintro e w4 ⟨rfl, g4⟩; obtain ⟨l4_0, h4_0_0, h4_0_1⟩ := g4.c2 (w.heap.size) (.int .i64 (f.fractionBits : Int)) (.int .i64 (f.exponentBits : Int)))))
  all_goals (first | (
    go_region_held3 (fun w' => w'.cell? ⟨w.heap.size, 0, none⟩ = some (.int .i64 (f.fractionBits : Int)) ∧ w'.cell? ⟨w.heap.size, 1, none⟩ = some (.int .i64 (f.exponentBits : Int))) (go_keep)
      (first
      | (go_at_call_of 58 (Value.int IntKind.u64 a); refine (U1.out _).mono ?_; rintro e w1 ⟨rfl, g1⟩; obtain ⟨l1_0, h1_0_0, h1_0_1⟩ := g1.c2 (w.heap.size) (.int .i64 (f.fractionBits : Int)) (.int .i64 (f.exponentBits : Int)))
      | (go_at_call_of 58 (Value.int IntKind.u64 b); refine (U2.out _).mono ?_; rintro e w2 ⟨rfl, g2⟩; obtain ⟨l2_0, h2_0_0, h2_0_1⟩ := g2.c2 (w.heap.size) (.int .i64 (f.fractionBits : Int)) (.int .i64 (f.exponentBits : Int)))
      | (go_at_call 59; refine (Za.out _).mono ?_; rintro e w3 ⟨rfl, g3⟩; obtain ⟨l3_0, h3_0_0, h3_0_1⟩ := g3.c2 (w.heap.size) (.int .i64 (f.fractionBits : Int)) (.int .i64 (f.exponentBits : Int)))
      | (go_at_call 60; refine (Sg.out _).mono ?_; rintro e w4 ⟨rfl, g4⟩; obtain ⟨l4_0, h4_0_0, h4_0_1⟩ := g4.c2 (w.heap.size) (.int .i64 (f.fractionBits : Int)) (.int .i64 (f.exponentBits : Int))))) | skip)
  all_goals (try go_wp2_with (first
    | (go_at_call_of 58 (Value.int IntKind.u64 a); refine (U1.out _).mono ?_; rintro e w1 ⟨rfl, g1⟩; obtain ⟨l1_0, h1_0_0, h1_0_1⟩ := g1.c2 (w.heap.size) (.int .i64 (f.fractionBits : Int)) (.int .i64 (f.exponentBits : Int)))
    | (go_at_call_of 58 (Value.int IntKind.u64 b); refine (U2.out _).mono ?_; rintro e w2 ⟨rfl, g2⟩; obtain ⟨l2_0, h2_0_0, h2_0_1⟩ := g2.c2 (w.heap.size) (.int .i64 (f.fractionBits : Int)) (.int .i64 (f.exponentBits : Int)))
    | (go_at_call 59; refine (Za.out _).mono ?_; rintro e w3 ⟨rfl, g3⟩; obtain ⟨l3_0, h3_0_0, h3_0_1⟩ := g3.c2 (w.heap.size) (.int .i64 (f.fractionBits : Int)) (.int .i64 (f.exponentBits : Int)))
    | (go_at_call 60; refine (Sg.out _).mono ?_; rintro e w4 ⟨rfl, g4⟩; obtain ⟨l4_0, h4_0_0, h4_0_1⟩ := g4.c2 (w.heap.size) (.int .i64 (f.fractionBits : Int)) (.int .i64 (f.exponentBits : Int)))))
  all_goals go_ret
  all_goals go_light
  all_goals refine ⟨by first | rfl | simp, ?_⟩
  all_goals repeat (first | exact Grew.refl _ | assumption | refine Grew.drew ?_ | refine Grew.drewN ?_ _ | refine Grew.alloc ?_ _ | refine Grew.set ?_ (by first | (simp; done) | (simp; omega) | omega) _ | refine Grew.trans ?_ (by assumption))
set_option maxRecDepth 100000 in
set_option maxHeartbeats 2000000 in
theorem rBinary_1 (k : Nat) (hk : k < 7) (R a b : Int) (w : World)
    (C : CG 32 #[fv Ieee.single, .int .i64 (k : Int), .int .u64 a, .int .u64 b] (.int .u64 R)) :
    Calls Tryd.prog 11 #[.int .i64 ((146 + k : Nat) : Int), .int .u64 a, .int .u64 b] w fun e w' => e = .returned (.tuple #[.int .u64 R, .int .i64 0]) ∧ Grew w w' := by
  have F' := fun w : World => format_1 ((146 + k : Nat) : Int) 146 160 7 w (by omega) (by omega) (by omega) (by omega) (by omega) (by omega) (by omega) (by omega) (by omega) (by omega)
  have e1 : ((146 + k : Nat) : Int) - 146 = (k : Int) := by omega
  rw [e1] at F'
  generalize ((146 + k : Nat) : Int) = op at *
  generalize (k : Int) = K at *
  have F : CG 28 #[.int .i64 op, .int .i64 146, .int .i64 160, .int .i64 7] (.tuple #[fv Ieee.single, .int .i64 K, .bool true]) := F'
  clear F' e1
  rw [fv1] at F C
  go_enter Tryd.func11, Tryd.ntmps11
  go_wp2_with fail
  refine (F.out _).mono ?_
  rintro e w1 ⟨rfl, g1⟩
  go_wp2_with fail
  refine (C.out _).mono ?_
  rintro e w2 ⟨rfl, g2⟩
  go_wp2
  go_ret2
  go_light
  refine ⟨rfl, ?_⟩
  repeat (first | exact Grew.refl _ | refine Grew.drew ?_ | refine Grew.drewN ?_ _ | refine Grew.alloc ?_ _ | refine Grew.set ?_ (by first | (simp; done) | (simp; omega) | omega) _ | refine Grew.trans ?_ g1 | refine Grew.trans ?_ g2 | assumption)
set_option maxRecDepth 100000 in
set_option maxHeartbeats 2000000 in
theorem rBinary_2 (k : Nat) (hk : k < 7) (R a b : Int) (w : World)
    (C : CG 32 #[fv Ieee.double, .int .i64 (k : Int), .int .u64 a, .int .u64 b] (.int .u64 R)) :
    Calls Tryd.prog 11 #[.int .i64 ((160 + k : Nat) : Int), .int .u64 a, .int .u64 b] w fun e w' => e = .returned (.tuple #[.int .u64 R, .int .i64 0]) ∧ Grew w w' := by
  have F' := fun w : World => format_2 ((160 + k : Nat) : Int) 146 160 7 w (by omega) (by omega) (by omega) (by omega) (by omega) (by omega) (by omega) (by omega) (by omega) (by omega) (by omega)
  have e1 : ((160 + k : Nat) : Int) - 160 = (k : Int) := by omega
  rw [e1] at F'
  generalize ((160 + k : Nat) : Int) = op at *
  generalize (k : Int) = K at *
  have F : CG 28 #[.int .i64 op, .int .i64 146, .int .i64 160, .int .i64 7] (.tuple #[fv Ieee.double, .int .i64 K, .bool true]) := F'
  clear F' e1
  rw [fv2] at F C
  go_enter Tryd.func11, Tryd.ntmps11
  go_wp2_with fail
  refine (F.out _).mono ?_
  rintro e w1 ⟨rfl, g1⟩
  go_wp2_with fail
  refine (C.out _).mono ?_
  rintro e w2 ⟨rfl, g2⟩
  go_wp2
  go_ret2
  go_light
  refine ⟨rfl, ?_⟩
  repeat (first | exact Grew.refl _ | refine Grew.drew ?_ | refine Grew.drewN ?_ _ | refine Grew.alloc ?_ _ | refine Grew.set ?_ (by first | (simp; done) | (simp; omega) | omega) _ | refine Grew.trans ?_ g1 | refine Grew.trans ?_ g2 | assumption)
set_option maxRecDepth 100000 in
set_option maxHeartbeats 2000000 in
theorem rBinary_no (op a b : Int) (w : World) (o0 : -9223372036854775808 ≤ op) (o1 : op ≤ 9223372036854775807) (h1 : op < 146 ∨ 153 ≤ op) (h2 : op < 160 ∨ 167 ≤ op) :
    Calls Tryd.prog 11 #[.int .i64 op, .int .u64 a, .int .u64 b] w fun e w' => e = .returned (.tuple #[.int .u64 0, .int .i64 1]) ∧ Grew w w' := by
  have F : Hid (∀ w : World, Calls Tryd.prog 28 #[.int .i64 op, .int .i64 146, .int .i64 160, .int .i64 7] w fun e w' => ∃ k : Int, e = .returned (.tuple #[.agg #[.int .i64 52, .int .i64 11], .int .i64 k, .bool false]) ∧ Grew w w') :=
    fun w => format_3 op 146 160 7 w o0 o1 (by omega) (by omega) (by omega) (by omega) (by omega) (by omega) (by omega) (by omega)
  go_enter Tryd.func11, Tryd.ntmps11
  go_wp2_with fail
  refine (F.out _).mono ?_
  rintro e w1 ⟨k, rfl, g1⟩
  go_wp2
  go_ret2
  go_light
  refine ⟨rfl, ?_⟩
  repeat (first | exact Grew.refl _ | refine Grew.drew ?_ | refine Grew.drewN ?_ _ | refine Grew.alloc ?_ _ | refine Grew.set ?_ (by first | (simp; done) | (simp; omega) | omega) _ | refine Grew.trans ?_ g1 | assumption)
end Go.Proofs.YtjkebimmddlccaaDoor
