/-
  The walks of the document's product and least; no statement is proved here.
-/
import Derived.Test.YtjkebimmddlccaaDoorWideD
import Derived.Test.YtjkebimmddlccaaDoorParts
namespace Go.Proofs.YtjkebimmddlccaaDoor
open Go.RowKit
set_option linter.unusedVariables false
set_option linter.unusedSimpArgs false

set_option maxRecDepth 100000 in
set_option maxHeartbeats 2000000 in
theorem product_w {f : Ieee.Format} (a b m n e d H1 K1 R : Int) (p q : Bool) (w : World) (e0 : -2000 ≤ e) (e1 : e ≤ 2000) (d0 : -2000 ≤ d) (d1 : d ≤ 2000)
    (PX : CG 80 #[.agg #[.int .i64 (f.fractionBits : Int), .int .i64 (f.exponentBits : Int)], .int .u64 a] (.tuple #[.int .u64 m, .int .i64 e]))
    (PY : CG 80 #[.agg #[.int .i64 (f.fractionBits : Int), .int .i64 (f.exponentBits : Int)], .int .u64 b] (.tuple #[.int .u64 n, .int .i64 d]))
    (NX : CG 63 #[.agg #[.int .i64 (f.fractionBits : Int), .int .i64 (f.exponentBits : Int)], .int .u64 a] (.bool p))
    (NY : CG 63 #[.agg #[.int .i64 (f.fractionBits : Int), .int .i64 (f.exponentBits : Int)], .int .u64 b] (.bool q))
    (Ti : CG 92 #[.int .u64 m, .int .u64 n] (.agg #[.int .u64 H1, .int .u64 K1, .bool false]))
    (Rd : CG 79 #[.agg #[.int .i64 (f.fractionBits : Int), .int .i64 (f.exponentBits : Int)], .bool (p != q), .agg #[.int .u64 H1, .int .u64 K1, .bool false], .int .i64 (e + d)] (.int .u64 R)) :
    Calls Tryd.prog 95 #[.agg #[.int .i64 (f.fractionBits : Int), .int .i64 (f.exponentBits : Int)], .int .u64 a, .int .u64 b] w fun en w' => en = .returned (.int .u64 R) ∧ Grew w w' := by
  have we : IntKind.i64.wrap (e + d) = e + d := by rw [IntKind.wrap_i64]; omega
  go_enter Tryd.func95, Tryd.ntmps95
  go_wp2_with fail
  refine (PX.out _).mono ?_
  rintro e w1 ⟨rfl, g1⟩
  obtain ⟨l1_0, h1_0_0, h1_0_1⟩ := g1.c2 (w.heap.size) (.int .i64 (f.fractionBits : Int)) (.int .i64 (f.exponentBits : Int))
  go_wp2_with fail
  refine (PY.out _).mono ?_
  rintro e w2 ⟨rfl, g2⟩
  obtain ⟨l2_0, h2_0_0, h2_0_1⟩ := g2.c2 (w.heap.size) (.int .i64 (f.fractionBits : Int)) (.int .i64 (f.exponentBits : Int))
  go_wp2_with fail
  go_region_held3 (fun w' => w'.cell? ⟨w.heap.size, 0, none⟩ = some (.int .i64 (f.fractionBits : Int)) ∧ w'.cell? ⟨w.heap.size, 1, none⟩ = some (.int .i64 (f.exponentBits : Int))) (go_keep)
    (first
    | (go_at_call_of 63 (Value.int IntKind.u64 a); refine (NX.out _).mono ?_; rintro e w3 ⟨rfl, g3⟩; obtain ⟨l3_0, h3_0_0, h3_0_1⟩ := g3.c2 (w.heap.size) (.int .i64 (f.fractionBits : Int)) (.int .i64 (f.exponentBits : Int)))
    | (go_at_call_of 63 (Value.int IntKind.u64 b); refine (NY.out _).mono ?_; rintro e w4 ⟨rfl, g4⟩; obtain ⟨l4_0, h4_0_0, h4_0_1⟩ := g4.c2 (w.heap.size) (.int .i64 (f.fractionBits : Int)) (.int .i64 (f.exponentBits : Int)))
    | (go_at_call 92; refine (Ti.out _).mono ?_; rintro e w5 ⟨rfl, g5⟩; obtain ⟨l5_0, h5_0_0, h5_0_1⟩ := g5.c2 (w.heap.size) (.int .i64 (f.fractionBits : Int)) (.int .i64 (f.exponentBits : Int)))
    | (go_at_call 79; refine (Rd.out _).mono ?_; rintro e w6 ⟨rfl, g6⟩; obtain ⟨l6_0, h6_0_0, h6_0_1⟩ := g6.c2 (w.heap.size) (.int .i64 (f.fractionBits : Int)) (.int .i64 (f.exponentBits : Int))))
  all_goals go_wp2
  all_goals go_ret
  all_goals go_light
  all_goals refine ⟨by first | rfl | simp, ?_⟩
  all_goals have sg1 := g1.2
  all_goals have sg2 := g2.2
  all_goals have sg3 := g3.2
  all_goals have sg4 := g4.2
  all_goals have sg5 := g5.2
  all_goals have sg6 := g6.2
  all_goals simp at sg1 sg2 sg3 sg4 sg5 sg6
  all_goals repeat (first | exact Grew.refl _ | refine Grew.drew ?_ | refine Grew.drewN ?_ _ | refine Grew.alloc ?_ _ | refine Grew.set ?_ (by first | (simp; done) | (simp; omega) | omega) _ | refine Grew.trans ?_ g1 | refine Grew.trans ?_ g2 | refine Grew.trans ?_ g3 | refine Grew.trans ?_ g4 | refine Grew.trans ?_ g5 | refine Grew.trans ?_ g6 | assumption)
set_option maxRecDepth 100000 in
set_option maxHeartbeats 2000000 in
theorem least_fe {f : Ieee.Format} (a b x y : Int) (w : World) (hx : (x == y) = true) 
    (K1 : CG 71 #[.agg #[.int .i64 (f.fractionBits : Int), .int .i64 (f.exponentBits : Int)], .int .u64 a] (.int .i64 x))
    (K2 : CG 71 #[.agg #[.int .i64 (f.fractionBits : Int), .int .i64 (f.exponentBits : Int)], .int .u64 b] (.int .i64 y)) :
    Calls Tryd.prog 70 #[.agg #[.int .i64 (f.fractionBits : Int), .int .i64 (f.exponentBits : Int)], .int .u64 a, .int .u64 b, .bool false] w fun en w' => en = .returned (.int .u64 (bits .or .u64 a b)) ∧ Grew w w' := by
  go_enter Tryd.func70, Tryd.ntmps70
  go_wp2_with fail
  go_region_held3 (fun w' => w'.cell? ⟨w.heap.size, 0, none⟩ = some (.int .i64 (f.fractionBits : Int)) ∧ w'.cell? ⟨w.heap.size, 1, none⟩ = some (.int .i64 (f.exponentBits : Int))) (go_keep)
    (first
    | (go_at_call_of 71 (Value.int IntKind.u64 a); refine (K1.out _).mono ?_; rintro e w1 ⟨rfl, g1⟩; obtain ⟨l1_0, h1_0_0, h1_0_1⟩ := g1.c2 (w.heap.size) (.int .i64 (f.fractionBits : Int)) (.int .i64 (f.exponentBits : Int)))
    | (go_at_call_of 71 (Value.int IntKind.u64 b); refine (K2.out _).mono ?_; rintro e w2 ⟨rfl, g2⟩; obtain ⟨l2_0, h2_0_0, h2_0_1⟩ := g2.c2 (w.heap.size) (.int .i64 (f.fractionBits : Int)) (.int .i64 (f.exponentBits : Int))))
  all_goals go_wp2
  all_goals go_ret
  all_goals go_light
  all_goals refine ⟨by first | rfl | simp, ?_⟩
  all_goals have sg1 := g1.2
  all_goals have sg2 := g2.2
  all_goals simp at sg1 sg2
  all_goals repeat (first | exact Grew.refl _ | refine Grew.drew ?_ | refine Grew.drewN ?_ _ | refine Grew.alloc ?_ _ | refine Grew.set ?_ (by first | (simp; done) | (simp; omega) | omega) _ | refine Grew.trans ?_ g1 | refine Grew.trans ?_ g2 | assumption)
set_option maxRecDepth 100000 in
set_option maxHeartbeats 2000000 in
theorem least_fl {f : Ieee.Format} (a b x y : Int) (w : World) (hx : (x == y) = false) (hl : (decide (x < y)) = true) (hl2 : x < y)
    (K1 : CG 71 #[.agg #[.int .i64 (f.fractionBits : Int), .int .i64 (f.exponentBits : Int)], .int .u64 a] (.int .i64 x))
    (K2 : CG 71 #[.agg #[.int .i64 (f.fractionBits : Int), .int .i64 (f.exponentBits : Int)], .int .u64 b] (.int .i64 y)) :
    Calls Tryd.prog 70 #[.agg #[.int .i64 (f.fractionBits : Int), .int .i64 (f.exponentBits : Int)], .int .u64 a, .int .u64 b, .bool false] w fun en w' => en = .returned (.int .u64 a) ∧ Grew w w' := by
  go_enter Tryd.func70, Tryd.ntmps70
  go_wp2_with fail
  go_region_held3 (fun w' => w'.cell? ⟨w.heap.size, 0, none⟩ = some (.int .i64 (f.fractionBits : Int)) ∧ w'.cell? ⟨w.heap.size, 1, none⟩ = some (.int .i64 (f.exponentBits : Int))) (go_keep)
    (first
    | (go_at_call_of 71 (Value.int IntKind.u64 a); refine (K1.out _).mono ?_; rintro e w1 ⟨rfl, g1⟩; obtain ⟨l1_0, h1_0_0, h1_0_1⟩ := g1.c2 (w.heap.size) (.int .i64 (f.fractionBits : Int)) (.int .i64 (f.exponentBits : Int)))
    | (go_at_call_of 71 (Value.int IntKind.u64 b); refine (K2.out _).mono ?_; rintro e w2 ⟨rfl, g2⟩; obtain ⟨l2_0, h2_0_0, h2_0_1⟩ := g2.c2 (w.heap.size) (.int .i64 (f.fractionBits : Int)) (.int .i64 (f.exponentBits : Int))))
  all_goals go_wp2
  all_goals go_ret
  all_goals go_light
  all_goals refine ⟨by first | rfl | simp, ?_⟩
  all_goals have sg1 := g1.2
  all_goals have sg2 := g2.2
  all_goals simp at sg1 sg2
  all_goals repeat (first | exact Grew.refl _ | refine Grew.drew ?_ | refine Grew.drewN ?_ _ | refine Grew.alloc ?_ _ | refine Grew.set ?_ (by first | (simp; done) | (simp; omega) | omega) _ | refine Grew.trans ?_ g1 | refine Grew.trans ?_ g2 | assumption)
set_option maxRecDepth 100000 in
set_option maxHeartbeats 2000000 in
theorem least_fg {f : Ieee.Format} (a b x y : Int) (w : World) (hx : (x == y) = false) (hl : (decide (x < y)) = false) (hl2 : ¬ x < y)
    (K1 : CG 71 #[.agg #[.int .i64 (f.fractionBits : Int), .int .i64 (f.exponentBits : Int)], .int .u64 a] (.int .i64 x))
    (K2 : CG 71 #[.agg #[.int .i64 (f.fractionBits : Int), .int .i64 (f.exponentBits : Int)], .int .u64 b] (.int .i64 y)) :
    Calls Tryd.prog 70 #[.agg #[.int .i64 (f.fractionBits : Int), .int .i64 (f.exponentBits : Int)], .int .u64 a, .int .u64 b, .bool false] w fun en w' => en = .returned (.int .u64 b) ∧ Grew w w' := by
  go_enter Tryd.func70, Tryd.ntmps70
  go_wp2_with fail
  go_region_held3 (fun w' => w'.cell? ⟨w.heap.size, 0, none⟩ = some (.int .i64 (f.fractionBits : Int)) ∧ w'.cell? ⟨w.heap.size, 1, none⟩ = some (.int .i64 (f.exponentBits : Int))) (go_keep)
    (first
    | (go_at_call_of 71 (Value.int IntKind.u64 a); refine (K1.out _).mono ?_; rintro e w1 ⟨rfl, g1⟩; obtain ⟨l1_0, h1_0_0, h1_0_1⟩ := g1.c2 (w.heap.size) (.int .i64 (f.fractionBits : Int)) (.int .i64 (f.exponentBits : Int)))
    | (go_at_call_of 71 (Value.int IntKind.u64 b); refine (K2.out _).mono ?_; rintro e w2 ⟨rfl, g2⟩; obtain ⟨l2_0, h2_0_0, h2_0_1⟩ := g2.c2 (w.heap.size) (.int .i64 (f.fractionBits : Int)) (.int .i64 (f.exponentBits : Int))))
  all_goals go_wp2
  all_goals go_ret
  all_goals go_light
  all_goals refine ⟨by first | rfl | simp, ?_⟩
  all_goals have sg1 := g1.2
  all_goals have sg2 := g2.2
  all_goals simp at sg1 sg2
  all_goals repeat (first | exact Grew.refl _ | refine Grew.drew ?_ | refine Grew.drewN ?_ _ | refine Grew.alloc ?_ _ | refine Grew.set ?_ (by first | (simp; done) | (simp; omega) | omega) _ | refine Grew.trans ?_ g1 | refine Grew.trans ?_ g2 | assumption)
set_option maxRecDepth 100000 in
set_option maxHeartbeats 2000000 in
theorem least_te {f : Ieee.Format} (a b x y : Int) (w : World) (hx : (x == y) = true) 
    (K1 : CG 71 #[.agg #[.int .i64 (f.fractionBits : Int), .int .i64 (f.exponentBits : Int)], .int .u64 a] (.int .i64 x))
    (K2 : CG 71 #[.agg #[.int .i64 (f.fractionBits : Int), .int .i64 (f.exponentBits : Int)], .int .u64 b] (.int .i64 y)) :
    Calls Tryd.prog 70 #[.agg #[.int .i64 (f.fractionBits : Int), .int .i64 (f.exponentBits : Int)], .int .u64 a, .int .u64 b, .bool true] w fun en w' => en = .returned (.int .u64 (bits .and .u64 a b)) ∧ Grew w w' := by
  go_enter Tryd.func70, Tryd.ntmps70
  go_wp2_with fail
  go_region_held3 (fun w' => w'.cell? ⟨w.heap.size, 0, none⟩ = some (.int .i64 (f.fractionBits : Int)) ∧ w'.cell? ⟨w.heap.size, 1, none⟩ = some (.int .i64 (f.exponentBits : Int))) (go_keep)
    (first
    | (go_at_call_of 71 (Value.int IntKind.u64 a); refine (K1.out _).mono ?_; rintro e w1 ⟨rfl, g1⟩; obtain ⟨l1_0, h1_0_0, h1_0_1⟩ := g1.c2 (w.heap.size) (.int .i64 (f.fractionBits : Int)) (.int .i64 (f.exponentBits : Int)))
    | (go_at_call_of 71 (Value.int IntKind.u64 b); refine (K2.out _).mono ?_; rintro e w2 ⟨rfl, g2⟩; obtain ⟨l2_0, h2_0_0, h2_0_1⟩ := g2.c2 (w.heap.size) (.int .i64 (f.fractionBits : Int)) (.int .i64 (f.exponentBits : Int))))
  all_goals go_wp2
  all_goals go_ret
  all_goals go_light
  all_goals refine ⟨by first | rfl | simp, ?_⟩
  all_goals have sg1 := g1.2
  all_goals have sg2 := g2.2
  all_goals simp at sg1 sg2
  all_goals repeat (first | exact Grew.refl _ | refine Grew.drew ?_ | refine Grew.drewN ?_ _ | refine Grew.alloc ?_ _ | refine Grew.set ?_ (by first | (simp; done) | (simp; omega) | omega) _ | refine Grew.trans ?_ g1 | refine Grew.trans ?_ g2 | assumption)
set_option maxRecDepth 100000 in
set_option maxHeartbeats 2000000 in
theorem least_tl {f : Ieee.Format} (a b x y : Int) (w : World) (hx : (x == y) = false) (hl : (decide (x < y)) = true) (hl2 : x < y)
    (K1 : CG 71 #[.agg #[.int .i64 (f.fractionBits : Int), .int .i64 (f.exponentBits : Int)], .int .u64 a] (.int .i64 x))
    (K2 : CG 71 #[.agg #[.int .i64 (f.fractionBits : Int), .int .i64 (f.exponentBits : Int)], .int .u64 b] (.int .i64 y)) :
    Calls Tryd.prog 70 #[.agg #[.int .i64 (f.fractionBits : Int), .int .i64 (f.exponentBits : Int)], .int .u64 a, .int .u64 b, .bool true] w fun en w' => en = .returned (.int .u64 b) ∧ Grew w w' := by
  go_enter Tryd.func70, Tryd.ntmps70
  go_wp2_with fail
  go_region_held3 (fun w' => w'.cell? ⟨w.heap.size, 0, none⟩ = some (.int .i64 (f.fractionBits : Int)) ∧ w'.cell? ⟨w.heap.size, 1, none⟩ = some (.int .i64 (f.exponentBits : Int))) (go_keep)
    (first
    | (go_at_call_of 71 (Value.int IntKind.u64 a); refine (K1.out _).mono ?_; rintro e w1 ⟨rfl, g1⟩; obtain ⟨l1_0, h1_0_0, h1_0_1⟩ := g1.c2 (w.heap.size) (.int .i64 (f.fractionBits : Int)) (.int .i64 (f.exponentBits : Int)))
    | (go_at_call_of 71 (Value.int IntKind.u64 b); refine (K2.out _).mono ?_; rintro e w2 ⟨rfl, g2⟩; obtain ⟨l2_0, h2_0_0, h2_0_1⟩ := g2.c2 (w.heap.size) (.int .i64 (f.fractionBits : Int)) (.int .i64 (f.exponentBits : Int))))
  all_goals go_wp2
  all_goals go_ret
  all_goals go_light
  all_goals refine ⟨by first | rfl | simp, ?_⟩
  all_goals have sg1 := g1.2
  all_goals have sg2 := g2.2
  all_goals simp at sg1 sg2
  all_goals repeat (first | exact Grew.refl _ | refine Grew.drew ?_ | refine Grew.drewN ?_ _ | refine Grew.alloc ?_ _ | refine Grew.set ?_ (by first | (simp; done) | (simp; omega) | omega) _ | refine Grew.trans ?_ g1 | refine Grew.trans ?_ g2 | assumption)
set_option maxRecDepth 100000 in
set_option maxHeartbeats 2000000 in
theorem least_tg {f : Ieee.Format} (a b x y : Int) (w : World) (hx : (x == y) = false) (hl : (decide (x < y)) = false) (hl2 : ¬ x < y)
    (K1 : CG 71 #[.agg #[.int .i64 (f.fractionBits : Int), .int .i64 (f.exponentBits : Int)], .int .u64 a] (.int .i64 x))
    (K2 : CG 71 #[.agg #[.int .i64 (f.fractionBits : Int), .int .i64 (f.exponentBits : Int)], .int .u64 b] (.int .i64 y)) :
    Calls Tryd.prog 70 #[.agg #[.int .i64 (f.fractionBits : Int), .int .i64 (f.exponentBits : Int)], .int .u64 a, .int .u64 b, .bool true] w fun en w' => en = .returned (.int .u64 a) ∧ Grew w w' := by
  go_enter Tryd.func70, Tryd.ntmps70
  go_wp2_with fail
  go_region_held3 (fun w' => w'.cell? ⟨w.heap.size, 0, none⟩ = some (.int .i64 (f.fractionBits : Int)) ∧ w'.cell? ⟨w.heap.size, 1, none⟩ = some (.int .i64 (f.exponentBits : Int))) (go_keep)
    (first
    | (go_at_call_of 71 (Value.int IntKind.u64 a); refine (K1.out _).mono ?_; rintro e w1 ⟨rfl, g1⟩; obtain ⟨l1_0, h1_0_0, h1_0_1⟩ := g1.c2 (w.heap.size) (.int .i64 (f.fractionBits : Int)) (.int .i64 (f.exponentBits : Int)))
    | (go_at_call_of 71 (Value.int IntKind.u64 b); refine (K2.out _).mono ?_; rintro e w2 ⟨rfl, g2⟩; obtain ⟨l2_0, h2_0_0, h2_0_1⟩ := g2.c2 (w.heap.size) (.int .i64 (f.fractionBits : Int)) (.int .i64 (f.exponentBits : Int))))
  all_goals go_wp2
  all_goals go_ret
  all_goals go_light
  all_goals refine ⟨by first | rfl | simp, ?_⟩
  all_goals have sg1 := g1.2
  all_goals have sg2 := g2.2
  all_goals simp at sg1 sg2
  all_goals repeat (first | exact Grew.refl _ | refine Grew.drew ?_ | refine Grew.drewN ?_ _ | refine Grew.alloc ?_ _ | refine Grew.set ?_ (by first | (simp; done) | (simp; omega) | omega) _ | refine Grew.trans ?_ g1 | refine Grew.trans ?_ g2 | assumption)
end Go.Proofs.YtjkebimmddlccaaDoor
