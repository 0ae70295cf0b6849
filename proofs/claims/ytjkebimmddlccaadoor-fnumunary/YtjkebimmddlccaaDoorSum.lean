/-
  The walk of the document's sum; no statement is proved here.
-/
import Derived.Test.YtjkebimmddlccaaDoorWideD
import Derived.Test.YtjkebimmddlccaaDoorParts
namespace Go.Proofs.YtjkebimmddlccaaDoor
open Go.RowKit
set_option linter.unusedVariables false
set_option linter.unusedSimpArgs false

set_option maxRecDepth 100000 in
set_option maxHeartbeats 2000000 in
theorem sum_de {f : Ieee.Format} (a b sa sb m n e d H1 K1 H2 K2 H3 K3 H4 K4 R : Int) (p q vm rm : Bool) (w : World) (sl : (sa < sb) = False)  (e0 : -2000 ≤ e) (e1 : e ≤ 2000) (d0 : -2000 ≤ d) (d1 : d ≤ 2000)
    (Za : CG 59 #[.agg #[.int .i64 (f.fractionBits : Int), .int .i64 (f.exponentBits : Int)], .int .u64 a] (.int .u64 sa))
    (Zb : CG 59 #[.agg #[.int .i64 (f.fractionBits : Int), .int .i64 (f.exponentBits : Int)], .int .u64 b] (.int .u64 sb))
    (PX : CG 80 #[.agg #[.int .i64 (f.fractionBits : Int), .int .i64 (f.exponentBits : Int)], .int .u64 a] (.tuple #[.int .u64 m, .int .i64 e]))
    (PY : CG 80 #[.agg #[.int .i64 (f.fractionBits : Int), .int .i64 (f.exponentBits : Int)], .int .u64 b] (.tuple #[.int .u64 n, .int .i64 d]))
    (L1 : CG 89 #[.agg #[.int .u64 0, .int .u64 m, .bool false], .int .i64 60] (.agg #[.int .u64 H1, .int .u64 K1, .bool false]))
    (L2 : CG 89 #[.agg #[.int .u64 0, .int .u64 n, .bool false], .int .i64 60] (.agg #[.int .u64 H2, .int .u64 K2, .bool false]))
    (Rt : CG 93 #[.agg #[.int .u64 H2, .int .u64 K2, .bool false], .int .i64 (e - d)] (.agg #[.int .u64 H3, .int .u64 K3, .bool vm]))
    (NX : CG 63 #[.agg #[.int .i64 (f.fractionBits : Int), .int .i64 (f.exponentBits : Int)], .int .u64 a] (.bool p))
    (NY : CG 63 #[.agg #[.int .i64 (f.fractionBits : Int), .int .i64 (f.exponentBits : Int)], .int .u64 b] (.bool p))
    (Pl : CG 104 #[.agg #[.int .u64 H1, .int .u64 K1, .bool false], .agg #[.int .u64 H3, .int .u64 K3, .bool vm]] (.agg #[.int .u64 H4, .int .u64 K4, .bool rm]))
    (Rd : CG 79 #[.agg #[.int .i64 (f.fractionBits : Int), .int .i64 (f.exponentBits : Int)], .bool p, .agg #[.int .u64 H4, .int .u64 K4, .bool rm], .int .i64 (e - 60)] (.int .u64 R)) :
    Calls Tryd.prog 94 #[.agg #[.int .i64 (f.fractionBits : Int), .int .i64 (f.exponentBits : Int)], .int .u64 a, .int .u64 b] w fun en w' => en = .returned (.int .u64 R) ∧ Grew w w' := by
  have we : IntKind.i64.wrap (e - d) = e - d := by rw [IntKind.wrap_i64]; omega
  have w6 : IntKind.i64.wrap (e - 60) = e - 60 := by rw [IntKind.wrap_i64]; omega
  go_enter Tryd.func94, Tryd.ntmps94
  go_wp2_with fail
  go_region_held3 (fun w' => w'.cell? ⟨w.heap.size, 0, none⟩ = some (.int .i64 (f.fractionBits : Int)) ∧ w'.cell? ⟨w.heap.size, 1, none⟩ = some (.int .i64 (f.exponentBits : Int))) (go_keep)
    (first
    | (go_at_call_of 59 (Value.int IntKind.u64 a); refine (Za.out _).mono ?_; rintro e w1 ⟨rfl, g1⟩; obtain ⟨l1_0, h1_0_0, h1_0_1⟩ := g1.c2 (w.heap.size) (.int .i64 (f.fractionBits : Int)) (.int .i64 (f.exponentBits : Int)))
    | (go_at_call_of 59 (Value.int IntKind.u64 b); refine (Zb.out _).mono ?_; rintro e w2 ⟨rfl, g2⟩; obtain ⟨l2_0, h2_0_0, h2_0_1⟩ := g2.c2 (w.heap.size) (.int .i64 (f.fractionBits : Int)) (.int .i64 (f.exponentBits : Int))))
  all_goals go_wp2_with fail
  refine (PX.out _).mono ?_
  rintro e w3 ⟨rfl, g3⟩
  obtain ⟨l3_0, h3_0_0, h3_0_1⟩ := g3.c2 (w.heap.size) (.int .i64 (f.fractionBits : Int)) (.int .i64 (f.exponentBits : Int))
  go_wp2_with fail
  refine (PY.out _).mono ?_
  rintro e w4 ⟨rfl, g4⟩
  obtain ⟨l4_0, h4_0_0, h4_0_1⟩ := g4.c2 (w.heap.size) (.int .i64 (f.fractionBits : Int)) (.int .i64 (f.exponentBits : Int))
  go_wp2_with fail
  refine (L1.out _).mono ?_
  rintro e w5 ⟨rfl, g5⟩
  obtain ⟨l5_0, h5_0_0, h5_0_1⟩ := g5.c2 (w.heap.size) (.int .i64 (f.fractionBits : Int)) (.int .i64 (f.exponentBits : Int))
  go_wp2_with fail
  refine (L2.out _).mono ?_
  rintro e w6 ⟨rfl, g6⟩
  obtain ⟨l6_0, h6_0_0, h6_0_1⟩ := g6.c2 (w.heap.size) (.int .i64 (f.fractionBits : Int)) (.int .i64 (f.exponentBits : Int))
  obtain ⟨l6_1, h6_1_0, h6_1_1, h6_1_2⟩ := g6.c3 (w5.heap.size) (.int .u64 H1) (.int .u64 K1) (.bool false)
  go_wp2_with fail
  refine (Rt.out _).mono ?_
  rintro e w7 ⟨rfl, g7⟩
  obtain ⟨l7_0, h7_0_0, h7_0_1⟩ := g7.c2 (w.heap.size) (.int .i64 (f.fractionBits : Int)) (.int .i64 (f.exponentBits : Int))
  obtain ⟨l7_1, h7_1_0, h7_1_1, h7_1_2⟩ := g7.c3 (w5.heap.size) (.int .u64 H1) (.int .u64 K1) (.bool false)
  go_wp2_with fail
  go_region_held3 (fun w' => w'.cell? ⟨w.heap.size, 0, none⟩ = some (.int .i64 (f.fractionBits : Int)) ∧ w'.cell? ⟨w.heap.size, 1, none⟩ = some (.int .i64 (f.exponentBits : Int)) ∧ w'.cell? ⟨w5.heap.size, 0, none⟩ = some (.int .u64 H1) ∧ w'.cell? ⟨w5.heap.size, 1, none⟩ = some (.int .u64 K1) ∧ w'.cell? ⟨w5.heap.size, 2, none⟩ = some (.bool false) ∧ w'.cell? ⟨w7.heap.size, 0, none⟩ = some (.int .u64 H3) ∧ w'.cell? ⟨w7.heap.size, 1, none⟩ = some (.int .u64 K3) ∧ w'.cell? ⟨w7.heap.size, 2, none⟩ = some (.bool vm)) (go_keep)
    (first
    | (go_at_call_of 63 (Value.int IntKind.u64 a); refine (NX.out _).mono ?_; rintro e w8 ⟨rfl, g8⟩; obtain ⟨l8_0, h8_0_0, h8_0_1⟩ := g8.c2 (w.heap.size) (.int .i64 (f.fractionBits : Int)) (.int .i64 (f.exponentBits : Int)); obtain ⟨l8_1, h8_1_0, h8_1_1, h8_1_2⟩ := g8.c3 (w5.heap.size) (.int .u64 H1) (.int .u64 K1) (.bool false); obtain ⟨l8_2, h8_2_0, h8_2_1, h8_2_2⟩ := g8.c3 (w7.heap.size) (.int .u64 H3) (.int .u64 K3) (.bool vm))
    | (go_at_call_of 63 (Value.int IntKind.u64 b); refine (NY.out _).mono ?_; rintro e w9 ⟨rfl, g9⟩; obtain ⟨l9_0, h9_0_0, h9_0_1⟩ := g9.c2 (w.heap.size) (.int .i64 (f.fractionBits : Int)) (.int .i64 (f.exponentBits : Int)); obtain ⟨l9_1, h9_1_0, h9_1_1, h9_1_2⟩ := g9.c3 (w5.heap.size) (.int .u64 H1) (.int .u64 K1) (.bool false); obtain ⟨l9_2, h9_2_0, h9_2_1, h9_2_2⟩ := g9.c3 (w7.heap.size) (.int .u64 H3) (.int .u64 K3) (.bool vm)))
  all_goals go_wp2_with fail
  go_region_held3 (fun w' => w'.cell? ⟨w.heap.size, 0, none⟩ = some (.int .i64 (f.fractionBits : Int)) ∧ w'.cell? ⟨w.heap.size, 1, none⟩ = some (.int .i64 (f.exponentBits : Int)) ∧ w'.cell? ⟨w5.heap.size, 0, none⟩ = some (.int .u64 H1) ∧ w'.cell? ⟨w5.heap.size, 1, none⟩ = some (.int .u64 K1) ∧ w'.cell? ⟨w5.heap.size, 2, none⟩ = some (.bool false) ∧ w'.cell? ⟨w7.heap.size, 0, none⟩ = some (.int .u64 H3) ∧ w'.cell? ⟨w7.heap.size, 1, none⟩ = some (.int .u64 K3) ∧ w'.cell? ⟨w7.heap.size, 2, none⟩ = some (.bool vm)) (go_keep)
    (first
    | (go_at_call 63; refine (NX.out _).mono ?_; rintro e w10 ⟨rfl, g10⟩; obtain ⟨l10_0, h10_0_0, h10_0_1⟩ := g10.c2 (w.heap.size) (.int .i64 (f.fractionBits : Int)) (.int .i64 (f.exponentBits : Int)); obtain ⟨l10_1, h10_1_0, h10_1_1, h10_1_2⟩ := g10.c3 (w5.heap.size) (.int .u64 H1) (.int .u64 K1) (.bool false); obtain ⟨l10_2, h10_2_0, h10_2_1, h10_2_2⟩ := g10.c3 (w7.heap.size) (.int .u64 H3) (.int .u64 K3) (.bool vm))
    | (go_at_call 104; refine (Pl.out _).mono ?_; rintro e w11 ⟨rfl, g11⟩; obtain ⟨l11_0, h11_0_0, h11_0_1⟩ := g11.c2 (w.heap.size) (.int .i64 (f.fractionBits : Int)) (.int .i64 (f.exponentBits : Int)); obtain ⟨l11_1, h11_1_0, h11_1_1, h11_1_2⟩ := g11.c3 (w5.heap.size) (.int .u64 H1) (.int .u64 K1) (.bool false); obtain ⟨l11_2, h11_2_0, h11_2_1, h11_2_2⟩ := g11.c3 (w7.heap.size) (.int .u64 H3) (.int .u64 K3) (.bool vm))
    | (go_at_call 79; refine (Rd.out _).mono ?_; rintro e w12 ⟨rfl, g12⟩; obtain ⟨l12_0, h12_0_0, h12_0_1⟩ := g12.c2 (w.heap.size) (.int .i64 (f.fractionBits : Int)) (.int .i64 (f.exponentBits : Int)); obtain ⟨l12_1, h12_1_0, h12_1_1, h12_1_2⟩ := g12.c3 (w5.heap.size) (.int .u64 H1) (.int .u64 K1) (.bool false); obtain ⟨l12_2, h12_2_0, h12_2_1, h12_2_2⟩ := g12.c3 (w7.heap.size) (.int .u64 H3) (.int .u64 K3) (.bool vm)))
  all_goals go_wp2
  all_goals go_ret
  all_goals go_light
  all_goals refine ⟨by first | rfl | simp, ?_⟩
  all_goals have sg1 := g1.2
  all_goals have sg2 := g2.2
  all_goals have sg3 := g3.2
  all_goals have sg4 := g4.2
  all_goals have sg5 := g5.2
  all_goals have sg6 := g6.2
  all_goals have sg7 := g7.2
  all_goals have sg8 := g8.2
  all_goals have sg9 := g9.2
  all_goals have sg10 := g10.2
  all_goals have sg11 := g11.2
  all_goals have sg12 := g12.2
  all_goals simp at sg1 sg2 sg3 sg4 sg5 sg6 sg7 sg8 sg9 sg10 sg11 sg12
  all_goals repeat (first | exact Grew.refl _ | refine Grew.drew ?_ | refine Grew.drewN ?_ _ | refine Grew.alloc ?_ _ | refine Grew.set ?_ (by first | (simp; done) | (simp; omega) | omega) _ | refine Grew.trans ?_ g1 | refine Grew.trans ?_ g2 | refine Grew.trans ?_ g3 | refine Grew.trans ?_ g4 | refine Grew.trans ?_ g5 | refine Grew.trans ?_ g6 | refine Grew.trans ?_ g7 | refine Grew.trans ?_ g8 | refine Grew.trans ?_ g9 | refine Grew.trans ?_ g10 | refine Grew.trans ?_ g11 | refine Grew.trans ?_ g12 | assumption)
set_option maxRecDepth 100000 in
set_option maxHeartbeats 2000000 in
theorem sum_dn {f : Ieee.Format} (a b sa sb m n e d H1 K1 H2 K2 H3 K3 H4 K4 R : Int) (p q vm rm : Bool) (w : World) (sl : (sa < sb) = False) (pq : (p == q) = false) (hz : ¬ (H4 = 0 ∧ K4 = 0)) (e0 : -2000 ≤ e) (e1 : e ≤ 2000) (d0 : -2000 ≤ d) (d1 : d ≤ 2000)
    (Za : CG 59 #[.agg #[.int .i64 (f.fractionBits : Int), .int .i64 (f.exponentBits : Int)], .int .u64 a] (.int .u64 sa))
    (Zb : CG 59 #[.agg #[.int .i64 (f.fractionBits : Int), .int .i64 (f.exponentBits : Int)], .int .u64 b] (.int .u64 sb))
    (PX : CG 80 #[.agg #[.int .i64 (f.fractionBits : Int), .int .i64 (f.exponentBits : Int)], .int .u64 a] (.tuple #[.int .u64 m, .int .i64 e]))
    (PY : CG 80 #[.agg #[.int .i64 (f.fractionBits : Int), .int .i64 (f.exponentBits : Int)], .int .u64 b] (.tuple #[.int .u64 n, .int .i64 d]))
    (L1 : CG 89 #[.agg #[.int .u64 0, .int .u64 m, .bool false], .int .i64 60] (.agg #[.int .u64 H1, .int .u64 K1, .bool false]))
    (L2 : CG 89 #[.agg #[.int .u64 0, .int .u64 n, .bool false], .int .i64 60] (.agg #[.int .u64 H2, .int .u64 K2, .bool false]))
    (Rt : CG 93 #[.agg #[.int .u64 H2, .int .u64 K2, .bool false], .int .i64 (e - d)] (.agg #[.int .u64 H3, .int .u64 K3, .bool vm]))
    (NX : CG 63 #[.agg #[.int .i64 (f.fractionBits : Int), .int .i64 (f.exponentBits : Int)], .int .u64 a] (.bool p))
    (NY : CG 63 #[.agg #[.int .i64 (f.fractionBits : Int), .int .i64 (f.exponentBits : Int)], .int .u64 b] (.bool q))
    (Mi : CG 105 #[.agg #[.int .u64 H1, .int .u64 K1, .bool false], .agg #[.int .u64 H3, .int .u64 K3, .bool vm]] (.agg #[.int .u64 H4, .int .u64 K4, .bool rm]))
    (Rd : CG 79 #[.agg #[.int .i64 (f.fractionBits : Int), .int .i64 (f.exponentBits : Int)], .bool p, .agg #[.int .u64 H4, .int .u64 K4, .bool rm], .int .i64 (e - 60)] (.int .u64 R)) :
    Calls Tryd.prog 94 #[.agg #[.int .i64 (f.fractionBits : Int), .int .i64 (f.exponentBits : Int)], .int .u64 a, .int .u64 b] w fun en w' => en = .returned (.int .u64 R) ∧ Grew w w' := by
  have hzc : (H4 == 0) = false ∨ (H4 == 0) = true ∧ (K4 == 0) = false := by
    by_cases c : H4 = 0
    · exact Or.inr ⟨beq_iff_eq.2 c, beq_eq_false_iff_ne.2 (fun k => hz ⟨c, k⟩)⟩
    · exact Or.inl (beq_eq_false_iff_ne.2 c)
  have HZC : Hid ((H4 == 0) = false ∨ (H4 == 0) = true ∧ (K4 == 0) = false) := hzc
  clear hz hzc
  have we : IntKind.i64.wrap (e - d) = e - d := by rw [IntKind.wrap_i64]; omega
  have w6 : IntKind.i64.wrap (e - 60) = e - 60 := by rw [IntKind.wrap_i64]; omega
  go_enter Tryd.func94, Tryd.ntmps94
  go_wp2_with fail
  go_region_held3 (fun w' => w'.cell? ⟨w.heap.size, 0, none⟩ = some (.int .i64 (f.fractionBits : Int)) ∧ w'.cell? ⟨w.heap.size, 1, none⟩ = some (.int .i64 (f.exponentBits : Int))) (go_keep)
    (first
    | (go_at_call_of 59 (Value.int IntKind.u64 a); refine (Za.out _).mono ?_; rintro e w1 ⟨rfl, g1⟩; obtain ⟨l1_0, h1_0_0, h1_0_1⟩ := g1.c2 (w.heap.size) (.int .i64 (f.fractionBits : Int)) (.int .i64 (f.exponentBits : Int)))
    | (go_at_call_of 59 (Value.int IntKind.u64 b); refine (Zb.out _).mono ?_; rintro e w2 ⟨rfl, g2⟩; obtain ⟨l2_0, h2_0_0, h2_0_1⟩ := g2.c2 (w.heap.size) (.int .i64 (f.fractionBits : Int)) (.int .i64 (f.exponentBits : Int))))
  all_goals go_wp2_with fail
  refine (PX.out _).mono ?_
  rintro e w3 ⟨rfl, g3⟩
  obtain ⟨l3_0, h3_0_0, h3_0_1⟩ := g3.c2 (w.heap.size) (.int .i64 (f.fractionBits : Int)) (.int .i64 (f.exponentBits : Int))
  go_wp2_with fail
  refine (PY.out _).mono ?_
  rintro e w4 ⟨rfl, g4⟩
  obtain ⟨l4_0, h4_0_0, h4_0_1⟩ := g4.c2 (w.heap.size) (.int .i64 (f.fractionBits : Int)) (.int .i64 (f.exponentBits : Int))
  go_wp2_with fail
  refine (L1.out _).mono ?_
  rintro e w5 ⟨rfl, g5⟩
  obtain ⟨l5_0, h5_0_0, h5_0_1⟩ := g5.c2 (w.heap.size) (.int .i64 (f.fractionBits : Int)) (.int .i64 (f.exponentBits : Int))
  go_wp2_with fail
  refine (L2.out _).mono ?_
  rintro e w6 ⟨rfl, g6⟩
  obtain ⟨l6_0, h6_0_0, h6_0_1⟩ := g6.c2 (w.heap.size) (.int .i64 (f.fractionBits : Int)) (.int .i64 (f.exponentBits : Int))
  obtain ⟨l6_1, h6_1_0, h6_1_1, h6_1_2⟩ := g6.c3 (w5.heap.size) (.int .u64 H1) (.int .u64 K1) (.bool false)
  go_wp2_with fail
  refine (Rt.out _).mono ?_
  rintro e w7 ⟨rfl, g7⟩
  obtain ⟨l7_0, h7_0_0, h7_0_1⟩ := g7.c2 (w.heap.size) (.int .i64 (f.fractionBits : Int)) (.int .i64 (f.exponentBits : Int))
  obtain ⟨l7_1, h7_1_0, h7_1_1, h7_1_2⟩ := g7.c3 (w5.heap.size) (.int .u64 H1) (.int .u64 K1) (.bool false)
  go_wp2_with fail
  go_region_held3 (fun w' => w'.cell? ⟨w.heap.size, 0, none⟩ = some (.int .i64 (f.fractionBits : Int)) ∧ w'.cell? ⟨w.heap.size, 1, none⟩ = some (.int .i64 (f.exponentBits : Int)) ∧ w'.cell? ⟨w5.heap.size, 0, none⟩ = some (.int .u64 H1) ∧ w'.cell? ⟨w5.heap.size, 1, none⟩ = some (.int .u64 K1) ∧ w'.cell? ⟨w5.heap.size, 2, none⟩ = some (.bool false) ∧ w'.cell? ⟨w7.heap.size, 0, none⟩ = some (.int .u64 H3) ∧ w'.cell? ⟨w7.heap.size, 1, none⟩ = some (.int .u64 K3) ∧ w'.cell? ⟨w7.heap.size, 2, none⟩ = some (.bool vm)) (go_keep)
    (first
    | (go_at_call_of 63 (Value.int IntKind.u64 a); refine (NX.out _).mono ?_; rintro e w8 ⟨rfl, g8⟩; obtain ⟨l8_0, h8_0_0, h8_0_1⟩ := g8.c2 (w.heap.size) (.int .i64 (f.fractionBits : Int)) (.int .i64 (f.exponentBits : Int)); obtain ⟨l8_1, h8_1_0, h8_1_1, h8_1_2⟩ := g8.c3 (w5.heap.size) (.int .u64 H1) (.int .u64 K1) (.bool false); obtain ⟨l8_2, h8_2_0, h8_2_1, h8_2_2⟩ := g8.c3 (w7.heap.size) (.int .u64 H3) (.int .u64 K3) (.bool vm))
    | (go_at_call_of 63 (Value.int IntKind.u64 b); refine (NY.out _).mono ?_; rintro e w9 ⟨rfl, g9⟩; obtain ⟨l9_0, h9_0_0, h9_0_1⟩ := g9.c2 (w.heap.size) (.int .i64 (f.fractionBits : Int)) (.int .i64 (f.exponentBits : Int)); obtain ⟨l9_1, h9_1_0, h9_1_1, h9_1_2⟩ := g9.c3 (w5.heap.size) (.int .u64 H1) (.int .u64 K1) (.bool false); obtain ⟨l9_2, h9_2_0, h9_2_1, h9_2_2⟩ := g9.c3 (w7.heap.size) (.int .u64 H3) (.int .u64 K3) (.bool vm)))
  all_goals go_wp2_with fail
  refine (Mi.out _).mono ?_
  rintro e w10 ⟨rfl, g10⟩
  obtain ⟨l10_0, h10_0_0, h10_0_1⟩ := g10.c2 (w.heap.size) (.int .i64 (f.fractionBits : Int)) (.int .i64 (f.exponentBits : Int))
  obtain ⟨l10_1, h10_1_0, h10_1_1, h10_1_2⟩ := g10.c3 (w5.heap.size) (.int .u64 H1) (.int .u64 K1) (.bool false)
  obtain ⟨l10_2, h10_2_0, h10_2_1, h10_2_2⟩ := g10.c3 (w7.heap.size) (.int .u64 H3) (.int .u64 K3) (.bool vm)
  rcases HZC.out with c1 | ⟨c1, c2⟩
  · go_wp2_with fail
    go_region_held3 (fun w' => w'.cell? ⟨w.heap.size, 0, none⟩ = some (.int .i64 (f.fractionBits : Int)) ∧ w'.cell? ⟨w.heap.size, 1, none⟩ = some (.int .i64 (f.exponentBits : Int)) ∧ w'.cell? ⟨w5.heap.size, 0, none⟩ = some (.int .u64 H1) ∧ w'.cell? ⟨w5.heap.size, 1, none⟩ = some (.int .u64 K1) ∧ w'.cell? ⟨w5.heap.size, 2, none⟩ = some (.bool false) ∧ w'.cell? ⟨w7.heap.size, 0, none⟩ = some (.int .u64 H3) ∧ w'.cell? ⟨w7.heap.size, 1, none⟩ = some (.int .u64 K3) ∧ w'.cell? ⟨w7.heap.size, 2, none⟩ = some (.bool vm) ∧ w'.cell? ⟨w10.heap.size, 0, none⟩ = some (.int .u64 H4) ∧ w'.cell? ⟨w10.heap.size, 1, none⟩ = some (.int .u64 K4) ∧ w'.cell? ⟨w10.heap.size, 2, none⟩ = some (.bool rm)) (go_keep)
      (first
      | (go_at_call 63; refine (NX.out _).mono ?_; rintro e w11 ⟨rfl, g11⟩; obtain ⟨l11_0, h11_0_0, h11_0_1⟩ := g11.c2 (w.heap.size) (.int .i64 (f.fractionBits : Int)) (.int .i64 (f.exponentBits : Int)); obtain ⟨l11_1, h11_1_0, h11_1_1, h11_1_2⟩ := g11.c3 (w5.heap.size) (.int .u64 H1) (.int .u64 K1) (.bool false); obtain ⟨l11_2, h11_2_0, h11_2_1, h11_2_2⟩ := g11.c3 (w7.heap.size) (.int .u64 H3) (.int .u64 K3) (.bool vm); obtain ⟨l11_3, h11_3_0, h11_3_1, h11_3_2⟩ := g11.c3 (w10.heap.size) (.int .u64 H4) (.int .u64 K4) (.bool rm))
      | (go_at_call 79; refine (Rd.out _).mono ?_; rintro e w12 ⟨rfl, g12⟩; obtain ⟨l12_0, h12_0_0, h12_0_1⟩ := g12.c2 (w.heap.size) (.int .i64 (f.fractionBits : Int)) (.int .i64 (f.exponentBits : Int)); obtain ⟨l12_1, h12_1_0, h12_1_1, h12_1_2⟩ := g12.c3 (w5.heap.size) (.int .u64 H1) (.int .u64 K1) (.bool false); obtain ⟨l12_2, h12_2_0, h12_2_1, h12_2_2⟩ := g12.c3 (w7.heap.size) (.int .u64 H3) (.int .u64 K3) (.bool vm); obtain ⟨l12_3, h12_3_0, h12_3_1, h12_3_2⟩ := g12.c3 (w10.heap.size) (.int .u64 H4) (.int .u64 K4) (.bool rm)))
    all_goals go_wp2
    all_goals go_ret
    all_goals go_light
    all_goals refine ⟨by first | rfl | simp, ?_⟩
    all_goals have sg1 := g1.2
    all_goals have sg2 := g2.2
    all_goals have sg3 := g3.2
    all_goals have sg4 := g4.2
    all_goals have sg5 := g5.2
    all_goals have sg6 := g6.2
    all_goals have sg7 := g7.2
    all_goals have sg8 := g8.2
    all_goals have sg9 := g9.2
    all_goals have sg10 := g10.2
    all_goals have sg11 := g11.2
    all_goals have sg12 := g12.2
    all_goals simp at sg1 sg2 sg3 sg4 sg5 sg6 sg7 sg8 sg9 sg10 sg11 sg12
    all_goals repeat (first | exact Grew.refl _ | refine Grew.drew ?_ | refine Grew.drewN ?_ _ | refine Grew.alloc ?_ _ | refine Grew.set ?_ (by first | (simp; done) | (simp; omega) | omega) _ | refine Grew.trans ?_ g1 | refine Grew.trans ?_ g2 | refine Grew.trans ?_ g3 | refine Grew.trans ?_ g4 | refine Grew.trans ?_ g5 | refine Grew.trans ?_ g6 | refine Grew.trans ?_ g7 | refine Grew.trans ?_ g8 | refine Grew.trans ?_ g9 | refine Grew.trans ?_ g10 | refine Grew.trans ?_ g11 | refine Grew.trans ?_ g12 | assumption)
  · go_wp2_with fail
    go_region_held3 (fun w' => w'.cell? ⟨w.heap.size, 0, none⟩ = some (.int .i64 (f.fractionBits : Int)) ∧ w'.cell? ⟨w.heap.size, 1, none⟩ = some (.int .i64 (f.exponentBits : Int)) ∧ w'.cell? ⟨w5.heap.size, 0, none⟩ = some (.int .u64 H1) ∧ w'.cell? ⟨w5.heap.size, 1, none⟩ = some (.int .u64 K1) ∧ w'.cell? ⟨w5.heap.size, 2, none⟩ = some (.bool false) ∧ w'.cell? ⟨w7.heap.size, 0, none⟩ = some (.int .u64 H3) ∧ w'.cell? ⟨w7.heap.size, 1, none⟩ = some (.int .u64 K3) ∧ w'.cell? ⟨w7.heap.size, 2, none⟩ = some (.bool vm) ∧ w'.cell? ⟨w10.heap.size, 0, none⟩ = some (.int .u64 H4) ∧ w'.cell? ⟨w10.heap.size, 1, none⟩ = some (.int .u64 K4) ∧ w'.cell? ⟨w10.heap.size, 2, none⟩ = some (.bool rm)) (go_keep)
      (first
      | (go_at_call 63; refine (NX.out _).mono ?_; rintro e w11 ⟨rfl, g11⟩; obtain ⟨l11_0, h11_0_0, h11_0_1⟩ := g11.c2 (w.heap.size) (.int .i64 (f.fractionBits : Int)) (.int .i64 (f.exponentBits : Int)); obtain ⟨l11_1, h11_1_0, h11_1_1, h11_1_2⟩ := g11.c3 (w5.heap.size) (.int .u64 H1) (.int .u64 K1) (.bool false); obtain ⟨l11_2, h11_2_0, h11_2_1, h11_2_2⟩ := g11.c3 (w7.heap.size) (.int .u64 H3) (.int .u64 K3) (.bool vm); obtain ⟨l11_3, h11_3_0, h11_3_1, h11_3_2⟩ := g11.c3 (w10.heap.size) (.int .u64 H4) (.int .u64 K4) (.bool rm))
      | (go_at_call 79; refine (Rd.out _).mono ?_; rintro e w12 ⟨rfl, g12⟩; obtain ⟨l12_0, h12_0_0, h12_0_1⟩ := g12.c2 (w.heap.size) (.int .i64 (f.fractionBits : Int)) (.int .i64 (f.exponentBits : Int)); obtain ⟨l12_1, h12_1_0, h12_1_1, h12_1_2⟩ := g12.c3 (w5.heap.size) (.int .u64 H1) (.int .u64 K1) (.bool false); obtain ⟨l12_2, h12_2_0, h12_2_1, h12_2_2⟩ := g12.c3 (w7.heap.size) (.int .u64 H3) (.int .u64 K3) (.bool vm); obtain ⟨l12_3, h12_3_0, h12_3_1, h12_3_2⟩ := g12.c3 (w10.heap.size) (.int .u64 H4) (.int .u64 K4) (.bool rm)))
    all_goals go_wp2
    all_goals go_ret
    all_goals go_light
    all_goals refine ⟨by first | rfl | simp, ?_⟩
    all_goals have sg1 := g1.2
    all_goals have sg2 := g2.2
    all_goals have sg3 := g3.2
    all_goals have sg4 := g4.2
    all_goals have sg5 := g5.2
    all_goals have sg6 := g6.2
    all_goals have sg7 := g7.2
    all_goals have sg8 := g8.2
    all_goals have sg9 := g9.2
    all_goals have sg10 := g10.2
    all_goals have sg11 := g11.2
    all_goals have sg12 := g12.2
    all_goals simp at sg1 sg2 sg3 sg4 sg5 sg6 sg7 sg8 sg9 sg10 sg11 sg12
    all_goals repeat (first | exact Grew.refl _ | refine Grew.drew ?_ | refine Grew.drewN ?_ _ | refine Grew.alloc ?_ _ | refine Grew.set ?_ (by first | (simp; done) | (simp; omega) | omega) _ | refine Grew.trans ?_ g1 | refine Grew.trans ?_ g2 | refine Grew.trans ?_ g3 | refine Grew.trans ?_ g4 | refine Grew.trans ?_ g5 | refine Grew.trans ?_ g6 | refine Grew.trans ?_ g7 | refine Grew.trans ?_ g8 | refine Grew.trans ?_ g9 | refine Grew.trans ?_ g10 | refine Grew.trans ?_ g11 | refine Grew.trans ?_ g12 | assumption)
set_option maxRecDepth 100000 in
set_option maxHeartbeats 2000000 in
theorem sum_dz {f : Ieee.Format} (a b sa sb m n e d H1 K1 H2 K2 H3 K3 H4 K4 R : Int) (p q vm rm : Bool) (w : World) (sl : (sa < sb) = False) (pq : (p == q) = false) (hz : H4 = 0 ∧ K4 = 0 ∧ rm = false) (e0 : -2000 ≤ e) (e1 : e ≤ 2000) (d0 : -2000 ≤ d) (d1 : d ≤ 2000)
    (Za : CG 59 #[.agg #[.int .i64 (f.fractionBits : Int), .int .i64 (f.exponentBits : Int)], .int .u64 a] (.int .u64 sa))
    (Zb : CG 59 #[.agg #[.int .i64 (f.fractionBits : Int), .int .i64 (f.exponentBits : Int)], .int .u64 b] (.int .u64 sb))
    (PX : CG 80 #[.agg #[.int .i64 (f.fractionBits : Int), .int .i64 (f.exponentBits : Int)], .int .u64 a] (.tuple #[.int .u64 m, .int .i64 e]))
    (PY : CG 80 #[.agg #[.int .i64 (f.fractionBits : Int), .int .i64 (f.exponentBits : Int)], .int .u64 b] (.tuple #[.int .u64 n, .int .i64 d]))
    (L1 : CG 89 #[.agg #[.int .u64 0, .int .u64 m, .bool false], .int .i64 60] (.agg #[.int .u64 H1, .int .u64 K1, .bool false]))
    (L2 : CG 89 #[.agg #[.int .u64 0, .int .u64 n, .bool false], .int .i64 60] (.agg #[.int .u64 H2, .int .u64 K2, .bool false]))
    (Rt : CG 93 #[.agg #[.int .u64 H2, .int .u64 K2, .bool false], .int .i64 (e - d)] (.agg #[.int .u64 H3, .int .u64 K3, .bool vm]))
    (NX : CG 63 #[.agg #[.int .i64 (f.fractionBits : Int), .int .i64 (f.exponentBits : Int)], .int .u64 a] (.bool p))
    (NY : CG 63 #[.agg #[.int .i64 (f.fractionBits : Int), .int .i64 (f.exponentBits : Int)], .int .u64 b] (.bool q))
    (Mi : CG 105 #[.agg #[.int .u64 H1, .int .u64 K1, .bool false], .agg #[.int .u64 H3, .int .u64 K3, .bool vm]] (.agg #[.int .u64 H4, .int .u64 K4, .bool rm])) :
    Calls Tryd.prog 94 #[.agg #[.int .i64 (f.fractionBits : Int), .int .i64 (f.exponentBits : Int)], .int .u64 a, .int .u64 b] w fun en w' => en = .returned (.int .u64 0) ∧ Grew w w' := by
  obtain ⟨rfl, rfl, rfl⟩ := hz
  have we : IntKind.i64.wrap (e - d) = e - d := by rw [IntKind.wrap_i64]; omega
  have w6 : IntKind.i64.wrap (e - 60) = e - 60 := by rw [IntKind.wrap_i64]; omega
  go_enter Tryd.func94, Tryd.ntmps94
  go_wp2_with fail
  go_region_held3 (fun w' => w'.cell? ⟨w.heap.size, 0, none⟩ = some (.int .i64 (f.fractionBits : Int)) ∧ w'.cell? ⟨w.heap.size, 1, none⟩ = some (.int .i64 (f.exponentBits : Int))) (go_keep)
    (first
    | (go_at_call_of 59 (Value.int IntKind.u64 a); refine (Za.out _).mono ?_; rintro e w1 ⟨rfl, g1⟩; obtain ⟨l1_0, h1_0_0, h1_0_1⟩ := g1.c2 (w.heap.size) (.int .i64 (f.fractionBits : Int)) (.int .i64 (f.exponentBits : Int)))
    | (go_at_call_of 59 (Value.int IntKind.u64 b); refine (Zb.out _).mono ?_; rintro e w2 ⟨rfl, g2⟩; obtain ⟨l2_0, h2_0_0, h2_0_1⟩ := g2.c2 (w.heap.size) (.int .i64 (f.fractionBits : Int)) (.int .i64 (f.exponentBits : Int))))
  all_goals go_wp2_with fail
  refine (PX.out _).mono ?_
  rintro e w3 ⟨rfl, g3⟩
  obtain ⟨l3_0, h3_0_0, h3_0_1⟩ := g3.c2 (w.heap.size) (.int .i64 (f.fractionBits : Int)) (.int .i64 (f.exponentBits : Int))
  go_wp2_with fail
  refine (PY.out _).mono ?_
  rintro e w4 ⟨rfl, g4⟩
  obtain ⟨l4_0, h4_0_0, h4_0_1⟩ := g4.c2 (w.heap.size) (.int .i64 (f.fractionBits : Int)) (.int .i64 (f.exponentBits : Int))
  go_wp2_with fail
  refine (L1.out _).mono ?_
  rintro e w5 ⟨rfl, g5⟩
  obtain ⟨l5_0, h5_0_0, h5_0_1⟩ := g5.c2 (w.heap.size) (.int .i64 (f.fractionBits : Int)) (.int .i64 (f.exponentBits : Int))
  go_wp2_with fail
  refine (L2.out _).mono ?_
  rintro e w6 ⟨rfl, g6⟩
  obtain ⟨l6_0, h6_0_0, h6_0_1⟩ := g6.c2 (w.heap.size) (.int .i64 (f.fractionBits : Int)) (.int .i64 (f.exponentBits : Int))
  obtain ⟨l6_1, h6_1_0, h6_1_1, h6_1_2⟩ := g6.c3 (w5.heap.size) (.int .u64 H1) (.int .u64 K1) (.bool false)
  go_wp2_with fail
  refine (Rt.out _).mono ?_
  rintro e w7 ⟨rfl, g7⟩
  obtain ⟨l7_0, h7_0_0, h7_0_1⟩ := g7.c2 (w.heap.size) (.int .i64 (f.fractionBits : Int)) (.int .i64 (f.exponentBits : Int))
  obtain ⟨l7_1, h7_1_0, h7_1_1, h7_1_2⟩ := g7.c3 (w5.heap.size) (.int .u64 H1) (.int .u64 K1) (.bool false)
  go_wp2_with fail
  go_region_held3 (fun w' => w'.cell? ⟨w.heap.size, 0, none⟩ = some (.int .i64 (f.fractionBits : Int)) ∧ w'.cell? ⟨w.heap.size, 1, none⟩ = some (.int .i64 (f.exponentBits : Int)) ∧ w'.cell? ⟨w5.heap.size, 0, none⟩ = some (.int .u64 H1) ∧ w'.cell? ⟨w5.heap.size, 1, none⟩ = some (.int .u64 K1) ∧ w'.cell? ⟨w5.heap.size, 2, none⟩ = some (.bool false) ∧ w'.cell? ⟨w7.heap.size, 0, none⟩ = some (.int .u64 H3) ∧ w'.cell? ⟨w7.heap.size, 1, none⟩ = some (.int .u64 K3) ∧ w'.cell? ⟨w7.heap.size, 2, none⟩ = some (.bool vm)) (go_keep)
    (first
    | (go_at_call_of 63 (Value.int IntKind.u64 a); refine (NX.out _).mono ?_; rintro e w8 ⟨rfl, g8⟩; obtain ⟨l8_0, h8_0_0, h8_0_1⟩ := g8.c2 (w.heap.size) (.int .i64 (f.fractionBits : Int)) (.int .i64 (f.exponentBits : Int)); obtain ⟨l8_1, h8_1_0, h8_1_1, h8_1_2⟩ := g8.c3 (w5.heap.size) (.int .u64 H1) (.int .u64 K1) (.bool false); obtain ⟨l8_2, h8_2_0, h8_2_1, h8_2_2⟩ := g8.c3 (w7.heap.size) (.int .u64 H3) (.int .u64 K3) (.bool vm))
    | (go_at_call_of 63 (Value.int IntKind.u64 b); refine (NY.out _).mono ?_; rintro e w9 ⟨rfl, g9⟩; obtain ⟨l9_0, h9_0_0, h9_0_1⟩ := g9.c2 (w.heap.size) (.int .i64 (f.fractionBits : Int)) (.int .i64 (f.exponentBits : Int)); obtain ⟨l9_1, h9_1_0, h9_1_1, h9_1_2⟩ := g9.c3 (w5.heap.size) (.int .u64 H1) (.int .u64 K1) (.bool false); obtain ⟨l9_2, h9_2_0, h9_2_1, h9_2_2⟩ := g9.c3 (w7.heap.size) (.int .u64 H3) (.int .u64 K3) (.bool vm)))
  all_goals go_wp2_with fail
  refine (Mi.out _).mono ?_
  rintro e w10 ⟨rfl, g10⟩
  obtain ⟨l10_0, h10_0_0, h10_0_1⟩ := g10.c2 (w.heap.size) (.int .i64 (f.fractionBits : Int)) (.int .i64 (f.exponentBits : Int))
  obtain ⟨l10_1, h10_1_0, h10_1_1, h10_1_2⟩ := g10.c3 (w5.heap.size) (.int .u64 H1) (.int .u64 K1) (.bool false)
  obtain ⟨l10_2, h10_2_0, h10_2_1, h10_2_2⟩ := g10.c3 (w7.heap.size) (.int .u64 H3) (.int .u64 K3) (.bool vm)
  all_goals go_wp2
  all_goals go_ret
  all_goals go_light
  all_goals refine ⟨by first | rfl | simp, ?_⟩
  all_goals have sg1 := g1.2
  all_goals have sg2 := g2.2
  all_goals have sg3 := g3.2
  all_goals have sg4 := g4.2
  all_goals have sg5 := g5.2
  all_goals have sg6 := g6.2
  all_goals have sg7 := g7.2
  all_goals have sg8 := g8.2
  all_goals have sg9 := g9.2
  all_goals have sg10 := g10.2
  all_goals simp at sg1 sg2 sg3 sg4 sg5 sg6 sg7 sg8 sg9 sg10
  all_goals repeat (first | exact Grew.refl _ | refine Grew.drew ?_ | refine Grew.drewN ?_ _ | refine Grew.alloc ?_ _ | refine Grew.set ?_ (by first | (simp; done) | (simp; omega) | omega) _ | refine Grew.trans ?_ g1 | refine Grew.trans ?_ g2 | refine Grew.trans ?_ g3 | refine Grew.trans ?_ g4 | refine Grew.trans ?_ g5 | refine Grew.trans ?_ g6 | refine Grew.trans ?_ g7 | refine Grew.trans ?_ g8 | refine Grew.trans ?_ g9 | refine Grew.trans ?_ g10 | assumption)
set_option maxRecDepth 100000 in
set_option maxHeartbeats 2000000 in
theorem sum_se {f : Ieee.Format} (a b sa sb m n e d H1 K1 H2 K2 H3 K3 H4 K4 R : Int) (p q vm rm : Bool) (w : World) (sl : (sa < sb) = True)  (e0 : -2000 ≤ e) (e1 : e ≤ 2000) (d0 : -2000 ≤ d) (d1 : d ≤ 2000)
    (Za : CG 59 #[.agg #[.int .i64 (f.fractionBits : Int), .int .i64 (f.exponentBits : Int)], .int .u64 a] (.int .u64 sa))
    (Zb : CG 59 #[.agg #[.int .i64 (f.fractionBits : Int), .int .i64 (f.exponentBits : Int)], .int .u64 b] (.int .u64 sb))
    (PX : CG 80 #[.agg #[.int .i64 (f.fractionBits : Int), .int .i64 (f.exponentBits : Int)], .int .u64 b] (.tuple #[.int .u64 m, .int .i64 e]))
    (PY : CG 80 #[.agg #[.int .i64 (f.fractionBits : Int), .int .i64 (f.exponentBits : Int)], .int .u64 a] (.tuple #[.int .u64 n, .int .i64 d]))
    (L1 : CG 89 #[.agg #[.int .u64 0, .int .u64 m, .bool false], .int .i64 60] (.agg #[.int .u64 H1, .int .u64 K1, .bool false]))
    (L2 : CG 89 #[.agg #[.int .u64 0, .int .u64 n, .bool false], .int .i64 60] (.agg #[.int .u64 H2, .int .u64 K2, .bool false]))
    (Rt : CG 93 #[.agg #[.int .u64 H2, .int .u64 K2, .bool false], .int .i64 (e - d)] (.agg #[.int .u64 H3, .int .u64 K3, .bool vm]))
    (NX : CG 63 #[.agg #[.int .i64 (f.fractionBits : Int), .int .i64 (f.exponentBits : Int)], .int .u64 b] (.bool p))
    (NY : CG 63 #[.agg #[.int .i64 (f.fractionBits : Int), .int .i64 (f.exponentBits : Int)], .int .u64 a] (.bool p))
    (Pl : CG 104 #[.agg #[.int .u64 H1, .int .u64 K1, .bool false], .agg #[.int .u64 H3, .int .u64 K3, .bool vm]] (.agg #[.int .u64 H4, .int .u64 K4, .bool rm]))
    (Rd : CG 79 #[.agg #[.int .i64 (f.fractionBits : Int), .int .i64 (f.exponentBits : Int)], .bool p, .agg #[.int .u64 H4, .int .u64 K4, .bool rm], .int .i64 (e - 60)] (.int .u64 R)) :
    Calls Tryd.prog 94 #[.agg #[.int .i64 (f.fractionBits : Int), .int .i64 (f.exponentBits : Int)], .int .u64 a, .int .u64 b] w fun en w' => en = .returned (.int .u64 R) ∧ Grew w w' := by
  have we : IntKind.i64.wrap (e - d) = e - d := by rw [IntKind.wrap_i64]; omega
  have w6 : IntKind.i64.wrap (e - 60) = e - 60 := by rw [IntKind.wrap_i64]; omega
  go_enter Tryd.func94, Tryd.ntmps94
  go_wp2_with fail
  go_region_held3 (fun w' => w'.cell? ⟨w.heap.size, 0, none⟩ = some (.int .i64 (f.fractionBits : Int)) ∧ w'.cell? ⟨w.heap.size, 1, none⟩ = some (.int .i64 (f.exponentBits : Int))) (go_keep)
    (first
    | (go_at_call_of 59 (Value.int IntKind.u64 a); refine (Za.out _).mono ?_; rintro e w1 ⟨rfl, g1⟩; obtain ⟨l1_0, h1_0_0, h1_0_1⟩ := g1.c2 (w.heap.size) (.int .i64 (f.fractionBits : Int)) (.int .i64 (f.exponentBits : Int)))
    | (go_at_call_of 59 (Value.int IntKind.u64 b); refine (Zb.out _).mono ?_; rintro e w2 ⟨rfl, g2⟩; obtain ⟨l2_0, h2_0_0, h2_0_1⟩ := g2.c2 (w.heap.size) (.int .i64 (f.fractionBits : Int)) (.int .i64 (f.exponentBits : Int))))
  all_goals go_wp2_with fail
  refine (PX.out _).mono ?_
  rintro e w3 ⟨rfl, g3⟩
  obtain ⟨l3_0, h3_0_0, h3_0_1⟩ := g3.c2 (w.heap.size) (.int .i64 (f.fractionBits : Int)) (.int .i64 (f.exponentBits : Int))
  go_wp2_with fail
  refine (PY.out _).mono ?_
  rintro e w4 ⟨rfl, g4⟩
  obtain ⟨l4_0, h4_0_0, h4_0_1⟩ := g4.c2 (w.heap.size) (.int .i64 (f.fractionBits : Int)) (.int .i64 (f.exponentBits : Int))
  go_wp2_with fail
  refine (L1.out _).mono ?_
  rintro e w5 ⟨rfl, g5⟩
  obtain ⟨l5_0, h5_0_0, h5_0_1⟩ := g5.c2 (w.heap.size) (.int .i64 (f.fractionBits : Int)) (.int .i64 (f.exponentBits : Int))
  go_wp2_with fail
  refine (L2.out _).mono ?_
  rintro e w6 ⟨rfl, g6⟩
  obtain ⟨l6_0, h6_0_0, h6_0_1⟩ := g6.c2 (w.heap.size) (.int .i64 (f.fractionBits : Int)) (.int .i64 (f.exponentBits : Int))
  obtain ⟨l6_1, h6_1_0, h6_1_1, h6_1_2⟩ := g6.c3 (w5.heap.size) (.int .u64 H1) (.int .u64 K1) (.bool false)
  go_wp2_with fail
  refine (Rt.out _).mono ?_
  rintro e w7 ⟨rfl, g7⟩
  obtain ⟨l7_0, h7_0_0, h7_0_1⟩ := g7.c2 (w.heap.size) (.int .i64 (f.fractionBits : Int)) (.int .i64 (f.exponentBits : Int))
  obtain ⟨l7_1, h7_1_0, h7_1_1, h7_1_2⟩ := g7.c3 (w5.heap.size) (.int .u64 H1) (.int .u64 K1) (.bool false)
  go_wp2_with fail
  go_region_held3 (fun w' => w'.cell? ⟨w.heap.size, 0, none⟩ = some (.int .i64 (f.fractionBits : Int)) ∧ w'.cell? ⟨w.heap.size, 1, none⟩ = some (.int .i64 (f.exponentBits : Int)) ∧ w'.cell? ⟨w5.heap.size, 0, none⟩ = some (.int .u64 H1) ∧ w'.cell? ⟨w5.heap.size, 1, none⟩ = some (.int .u64 K1) ∧ w'.cell? ⟨w5.heap.size, 2, none⟩ = some (.bool false) ∧ w'.cell? ⟨w7.heap.size, 0, none⟩ = some (.int .u64 H3) ∧ w'.cell? ⟨w7.heap.size, 1, none⟩ = some (.int .u64 K3) ∧ w'.cell? ⟨w7.heap.size, 2, none⟩ = some (.bool vm)) (go_keep)
    (first
    | (go_at_call_of 63 (Value.int IntKind.u64 b); refine (NX.out _).mono ?_; rintro e w8 ⟨rfl, g8⟩; obtain ⟨l8_0, h8_0_0, h8_0_1⟩ := g8.c2 (w.heap.size) (.int .i64 (f.fractionBits : Int)) (.int .i64 (f.exponentBits : Int)); obtain ⟨l8_1, h8_1_0, h8_1_1, h8_1_2⟩ := g8.c3 (w5.heap.size) (.int .u64 H1) (.int .u64 K1) (.bool false); obtain ⟨l8_2, h8_2_0, h8_2_1, h8_2_2⟩ := g8.c3 (w7.heap.size) (.int .u64 H3) (.int .u64 K3) (.bool vm))
    | (go_at_call_of 63 (Value.int IntKind.u64 a); refine (NY.out _).mono ?_; rintro e w9 ⟨rfl, g9⟩; obtain ⟨l9_0, h9_0_0, h9_0_1⟩ := g9.c2 (w.heap.size) (.int .i64 (f.fractionBits : Int)) (.int .i64 (f.exponentBits : Int)); obtain ⟨l9_1, h9_1_0, h9_1_1, h9_1_2⟩ := g9.c3 (w5.heap.size) (.int .u64 H1) (.int .u64 K1) (.bool false); obtain ⟨l9_2, h9_2_0, h9_2_1, h9_2_2⟩ := g9.c3 (w7.heap.size) (.int .u64 H3) (.int .u64 K3) (.bool vm)))
  all_goals go_wp2_with fail
  go_region_held3 (fun w' => w'.cell? ⟨w.heap.size, 0, none⟩ = some (.int .i64 (f.fractionBits : Int)) ∧ w'.cell? ⟨w.heap.size, 1, none⟩ = some (.int .i64 (f.exponentBits : Int)) ∧ w'.cell? ⟨w5.heap.size, 0, none⟩ = some (.int .u64 H1) ∧ w'.cell? ⟨w5.heap.size, 1, none⟩ = some (.int .u64 K1) ∧ w'.cell? ⟨w5.heap.size, 2, none⟩ = some (.bool false) ∧ w'.cell? ⟨w7.heap.size, 0, none⟩ = some (.int .u64 H3) ∧ w'.cell? ⟨w7.heap.size, 1, none⟩ = some (.int .u64 K3) ∧ w'.cell? ⟨w7.heap.size, 2, none⟩ = some (.bool vm)) (go_keep)
    (first
    | (go_at_call 63; refine (NX.out _).mono ?_; rintro e w10 ⟨rfl, g10⟩; obtain ⟨l10_0, h10_0_0, h10_0_1⟩ := g10.c2 (w.heap.size) (.int .i64 (f.fractionBits : Int)) (.int .i64 (f.exponentBits : Int)); obtain ⟨l10_1, h10_1_0, h10_1_1, h10_1_2⟩ := g10.c3 (w5.heap.size) (.int .u64 H1) (.int .u64 K1) (.bool false); obtain ⟨l10_2, h10_2_0, h10_2_1, h10_2_2⟩ := g10.c3 (w7.heap.size) (.int .u64 H3) (.int .u64 K3) (.bool vm))
    | (go_at_call 104; refine (Pl.out _).mono ?_; rintro e w11 ⟨rfl, g11⟩; obtain ⟨l11_0, h11_0_0, h11_0_1⟩ := g11.c2 (w.heap.size) (.int .i64 (f.fractionBits : Int)) (.int .i64 (f.exponentBits : Int)); obtain ⟨l11_1, h11_1_0, h11_1_1, h11_1_2⟩ := g11.c3 (w5.heap.size) (.int .u64 H1) (.int .u64 K1) (.bool false); obtain ⟨l11_2, h11_2_0, h11_2_1, h11_2_2⟩ := g11.c3 (w7.heap.size) (.int .u64 H3) (.int .u64 K3) (.bool vm))
    | (go_at_call 79; refine (Rd.out _).mono ?_; rintro e w12 ⟨rfl, g12⟩; obtain ⟨l12_0, h12_0_0, h12_0_1⟩ := g12.c2 (w.heap.size) (.int .i64 (f.fractionBits : Int)) (.int .i64 (f.exponentBits : Int)); obtain ⟨l12_1, h12_1_0, h12_1_1, h12_1_2⟩ := g12.c3 (w5.heap.size) (.int .u64 H1) (.int .u64 K1) (.bool false); obtain ⟨l12_2, h12_2_0, h12_2_1, h12_2_2⟩ := g12.c3 (w7.heap.size) (.int .u64 H3) (.int .u64 K3) (.bool vm)))
  all_goals go_wp2
  all_goals go_ret
  all_goals go_light
  all_goals refine ⟨by first | rfl | simp, ?_⟩
  all_goals have sg1 := g1.2
  all_goals have sg2 := g2.2
  all_goals have sg3 := g3.2
  all_goals have sg4 := g4.2
  all_goals have sg5 := g5.2
  all_goals have sg6 := g6.2
  all_goals have sg7 := g7.2
  all_goals have sg8 := g8.2
  all_goals have sg9 := g9.2
  all_goals have sg10 := g10.2
  all_goals have sg11 := g11.2
  all_goals have sg12 := g12.2
  all_goals simp at sg1 sg2 sg3 sg4 sg5 sg6 sg7 sg8 sg9 sg10 sg11 sg12
  all_goals repeat (first | exact Grew.refl _ | refine Grew.drew ?_ | refine Grew.drewN ?_ _ | refine Grew.alloc ?_ _ | refine Grew.set ?_ (by first | (simp; done) | (simp; omega) | omega) _ | refine Grew.trans ?_ g1 | refine Grew.trans ?_ g2 | refine Grew.trans ?_ g3 | refine Grew.trans ?_ g4 | refine Grew.trans ?_ g5 | refine Grew.trans ?_ g6 | refine Grew.trans ?_ g7 | refine Grew.trans ?_ g8 | refine Grew.trans ?_ g9 | refine Grew.trans ?_ g10 | refine Grew.trans ?_ g11 | refine Grew.trans ?_ g12 | assumption)
set_option maxRecDepth 100000 in
set_option maxHeartbeats 2000000 in
theorem sum_sn {f : Ieee.Format} (a b sa sb m n e d H1 K1 H2 K2 H3 K3 H4 K4 R : Int) (p q vm rm : Bool) (w : World) (sl : (sa < sb) = True) (pq : (p == q) = false) (hz : ¬ (H4 = 0 ∧ K4 = 0)) (e0 : -2000 ≤ e) (e1 : e ≤ 2000) (d0 : -2000 ≤ d) (d1 : d ≤ 2000)
    (Za : CG 59 #[.agg #[.int .i64 (f.fractionBits : Int), .int .i64 (f.exponentBits : Int)], .int .u64 a] (.int .u64 sa))
    (Zb : CG 59 #[.agg #[.int .i64 (f.fractionBits : Int), .int .i64 (f.exponentBits : Int)], .int .u64 b] (.int .u64 sb))
    (PX : CG 80 #[.agg #[.int .i64 (f.fractionBits : Int), .int .i64 (f.exponentBits : Int)], .int .u64 b] (.tuple #[.int .u64 m, .int .i64 e]))
    (PY : CG 80 #[.agg #[.int .i64 (f.fractionBits : Int), .int .i64 (f.exponentBits : Int)], .int .u64 a] (.tuple #[.int .u64 n, .int .i64 d]))
    (L1 : CG 89 #[.agg #[.int .u64 0, .int .u64 m, .bool false], .int .i64 60] (.agg #[.int .u64 H1, .int .u64 K1, .bool false]))
    (L2 : CG 89 #[.agg #[.int .u64 0, .int .u64 n, .bool false], .int .i64 60] (.agg #[.int .u64 H2, .int .u64 K2, .bool false]))
    (Rt : CG 93 #[.agg #[.int .u64 H2, .int .u64 K2, .bool false], .int .i64 (e - d)] (.agg #[.int .u64 H3, .int .u64 K3, .bool vm]))
    (NX : CG 63 #[.agg #[.int .i64 (f.fractionBits : Int), .int .i64 (f.exponentBits : Int)], .int .u64 b] (.bool p))
    (NY : CG 63 #[.agg #[.int .i64 (f.fractionBits : Int), .int .i64 (f.exponentBits : Int)], .int .u64 a] (.bool q))
    (Mi : CG 105 #[.agg #[.int .u64 H1, .int .u64 K1, .bool false], .agg #[.int .u64 H3, .int .u64 K3, .bool vm]] (.agg #[.int .u64 H4, .int .u64 K4, .bool rm]))
    (Rd : CG 79 #[.agg #[.int .i64 (f.fractionBits : Int), .int .i64 (f.exponentBits : Int)], .bool p, .agg #[.int .u64 H4, .int .u64 K4, .bool rm], .int .i64 (e - 60)] (.int .u64 R)) :
    Calls Tryd.prog 94 #[.agg #[.int .i64 (f.fractionBits : Int), .int .i64 (f.exponentBits : Int)], .int .u64 a, .int .u64 b] w fun en w' => en = .returned (.int .u64 R) ∧ Grew w w' := by
  have hzc : (H4 == 0) = false ∨ (H4 == 0) = true ∧ (K4 == 0) = false := by
    by_cases c : H4 = 0
    · exact Or.inr ⟨beq_iff_eq.2 c, beq_eq_false_iff_ne.2 (fun k => hz ⟨c, k⟩)⟩
    · exact Or.inl (beq_eq_false_iff_ne.2 c)
  have HZC : Hid ((H4 == 0) = false ∨ (H4 == 0) = true ∧ (K4 == 0) = false) := hzc
  clear hz hzc
  have we : IntKind.i64.wrap (e - d) = e - d := by rw [IntKind.wrap_i64]; omega
  have w6 : IntKind.i64.wrap (e - 60) = e - 60 := by rw [IntKind.wrap_i64]; omega
  go_enter Tryd.func94, Tryd.ntmps94
  go_wp2_with fail
  go_region_held3 (fun w' => w'.cell? ⟨w.heap.size, 0, none⟩ = some (.int .i64 (f.fractionBits : Int)) ∧ w'.cell? ⟨w.heap.size, 1, none⟩ = some (.int .i64 (f.exponentBits : Int))) (go_keep)
    (first
    | (go_at_call_of 59 (Value.int IntKind.u64 a); refine (Za.out _).mono ?_; rintro e w1 ⟨rfl, g1⟩; obtain ⟨l1_0, h1_0_0, h1_0_1⟩ := g1.c2 (w.heap.size) (.int .i64 (f.fractionBits : Int)) (.int .i64 (f.exponentBits : Int)))
    | (go_at_call_of 59 (Value.int IntKind.u64 b); refine (Zb.out _).mono ?_; rintro e w2 ⟨rfl, g2⟩; obtain ⟨l2_0, h2_0_0, h2_0_1⟩ := g2.c2 (w.heap.size) (.int .i64 (f.fractionBits : Int)) (.int .i64 (f.exponentBits : Int))))
  all_goals go_wp2_with fail
  refine (PX.out _).mono ?_
  rintro e w3 ⟨rfl, g3⟩
  obtain ⟨l3_0, h3_0_0, h3_0_1⟩ := g3.c2 (w.heap.size) (.int .i64 (f.fractionBits : Int)) (.int .i64 (f.exponentBits : Int))
  go_wp2_with fail
  refine (PY.out _).mono ?_
  rintro e w4 ⟨rfl, g4⟩
  obtain ⟨l4_0, h4_0_0, h4_0_1⟩ := g4.c2 (w.heap.size) (.int .i64 (f.fractionBits : Int)) (.int .i64 (f.exponentBits : Int))
  go_wp2_with fail
  refine (L1.out _).mono ?_
  rintro e w5 ⟨rfl, g5⟩
  obtain ⟨l5_0, h5_0_0, h5_0_1⟩ := g5.c2 (w.heap.size) (.int .i64 (f.fractionBits : Int)) (.int .i64 (f.exponentBits : Int))
  go_wp2_with fail
  refine (L2.out _).mono ?_
  rintro e w6 ⟨rfl, g6⟩
  obtain ⟨l6_0, h6_0_0, h6_0_1⟩ := g6.c2 (w.heap.size) (.int .i64 (f.fractionBits : Int)) (.int .i64 (f.exponentBits : Int))
  obtain ⟨l6_1, h6_1_0, h6_1_1, h6_1_2⟩ := g6.c3 (w5.heap.size) (.int .u64 H1) (.int .u64 K1) (.bool false)
  go_wp2_with fail
  refine (Rt.out _).mono ?_
  rintro e w7 ⟨rfl, g7⟩
  obtain ⟨l7_0, h7_0_0, h7_0_1⟩ := g7.c2 (w.heap.size) (.int .i64 (f.fractionBits : Int)) (.int .i64 (f.exponentBits : Int))
  obtain ⟨l7_1, h7_1_0, h7_1_1, h7_1_2⟩ := g7.c3 (w5.heap.size) (.int .u64 H1) (.int .u64 K1) (.bool false)
  go_wp2_with fail
  go_region_held3 (fun w' => w'.cell? ⟨w.heap.size, 0, none⟩ = some (.int .i64 (f.fractionBits : Int)) ∧ w'.cell? ⟨w.heap.size, 1, none⟩ = some (.int .i64 (f.exponentBits : Int)) ∧ w'.cell? ⟨w5.heap.size, 0, none⟩ = some (.int .u64 H1) ∧ w'.cell? ⟨w5.heap.size, 1, none⟩ = some (.int .u64 K1) ∧ w'.cell? ⟨w5.heap.size, 2, none⟩ = some (.bool false) ∧ w'.cell? ⟨w7.heap.size, 0, none⟩ = some (.int .u64 H3) ∧ w'.cell? ⟨w7.heap.size, 1, none⟩ = some (.int .u64 K3) ∧ w'.cell? ⟨w7.heap.size, 2, none⟩ = some (.bool vm)) (go_keep)
    (first
    | (go_at_call_of 63 (Value.int IntKind.u64 b); refine (NX.out _).mono ?_; rintro e w8 ⟨rfl, g8⟩; obtain ⟨l8_0, h8_0_0, h8_0_1⟩ := g8.c2 (w.heap.size) (.int .i64 (f.fractionBits : Int)) (.int .i64 (f.exponentBits : Int)); obtain ⟨l8_1, h8_1_0, h8_1_1, h8_1_2⟩ := g8.c3 (w5.heap.size) (.int .u64 H1) (.int .u64 K1) (.bool false); obtain ⟨l8_2, h8_2_0, h8_2_1, h8_2_2⟩ := g8.c3 (w7.heap.size) (.int .u64 H3) (.int .u64 K3) (.bool vm))
    | (go_at_call_of 63 (Value.int IntKind.u64 a); refine (NY.out _).mono ?_; rintro e w9 ⟨rfl, g9⟩; obtain ⟨l9_0, h9_0_0, h9_0_1⟩ := g9.c2 (w.heap.size) (.int .i64 (f.fractionBits : Int)) (.int .i64 (f.exponentBits : Int)); obtain ⟨l9_1, h9_1_0, h9_1_1, h9_1_2⟩ := g9.c3 (w5.heap.size) (.int .u64 H1) (.int .u64 K1) (.bool false); obtain ⟨l9_2, h9_2_0, h9_2_1, h9_2_2⟩ := g9.c3 (w7.heap.size) (.int .u64 H3) (.int .u64 K3) (.bool vm)))
  all_goals go_wp2_with fail
  refine (Mi.out _).mono ?_
  rintro e w10 ⟨rfl, g10⟩
  obtain ⟨l10_0, h10_0_0, h10_0_1⟩ := g10.c2 (w.heap.size) (.int .i64 (f.fractionBits : Int)) (.int .i64 (f.exponentBits : Int))
  obtain ⟨l10_1, h10_1_0, h10_1_1, h10_1_2⟩ := g10.c3 (w5.heap.size) (.int .u64 H1) (.int .u64 K1) (.bool false)
  obtain ⟨l10_2, h10_2_0, h10_2_1, h10_2_2⟩ := g10.c3 (w7.heap.size) (.int .u64 H3) (.int .u64 K3) (.bool vm)
  rcases HZC.out with c1 | ⟨c1, c2⟩
  · go_wp2_with fail
    go_region_held3 (fun w' => w'.cell? ⟨w.heap.size, 0, none⟩ = some (.int .i64 (f.fractionBits : Int)) ∧ w'.cell? ⟨w.heap.size, 1, none⟩ = some (.int .i64 (f.exponentBits : Int)) ∧ w'.cell? ⟨w5.heap.size, 0, none⟩ = some (.int .u64 H1) ∧ w'.cell? ⟨w5.heap.size, 1, none⟩ = some (.int .u64 K1) ∧ w'.cell? ⟨w5.heap.size, 2, none⟩ = some (.bool false) ∧ w'.cell? ⟨w7.heap.size, 0, none⟩ = some (.int .u64 H3) ∧ w'.cell? ⟨w7.heap.size, 1, none⟩ = some (.int .u64 K3) ∧ w'.cell? ⟨w7.heap.size, 2, none⟩ = some (.bool vm) ∧ w'.cell? ⟨w10.heap.size, 0, none⟩ = some (.int .u64 H4) ∧ w'.cell? ⟨w10.heap.size, 1, none⟩ = some (.int .u64 K4) ∧ w'.cell? ⟨w10.heap.size, 2, none⟩ = some (.bool rm)) (go_keep)
      (first
      | (go_at_call 63; refine (NX.out _).mono ?_; rintro e w11 ⟨rfl, g11⟩; obtain ⟨l11_0, h11_0_0, h11_0_1⟩ := g11.c2 (w.heap.size) (.int .i64 (f.fractionBits : Int)) (.int .i64 (f.exponentBits : Int)); obtain ⟨l11_1, h11_1_0, h11_1_1, h11_1_2⟩ := g11.c3 (w5.heap.size) (.int .u64 H1) (.int .u64 K1) (.bool false); obtain ⟨l11_2, h11_2_0, h11_2_1, h11_2_2⟩ := g11.c3 (w7.heap.size) (.int .u64 H3) (.int .u64 K3) (.bool vm); obtain ⟨l11_3, h11_3_0, h11_3_1, h11_3_2⟩ := g11.c3 (w10.heap.size) (.int .u64 H4) (.int .u64 K4) (.bool rm))
      | (go_at_call 79; refine (Rd.out _).mono ?_; rintro e w12 ⟨rfl, g12⟩; obtain ⟨l12_0, h12_0_0, h12_0_1⟩ := g12.c2 (w.heap.size) (.int .i64 (f.fractionBits : Int)) (.int .i64 (f.exponentBits : Int)); obtain ⟨l12_1, h12_1_0, h12_1_1, h12_1_2⟩ := g12.c3 (w5.heap.size) (.int .u64 H1) (.int .u64 K1) (.bool false); obtain ⟨l12_2, h12_2_0, h12_2_1, h12_2_2⟩ := g12.c3 (w7.heap.size) (.int .u64 H3) (.int .u64 K3) (.bool vm); obtain ⟨l12_3, h12_3_0, h12_3_1, h12_3_2⟩ := g12.c3 (w10.heap.size) (.int .u64 H4) (.int .u64 K4) (.bool rm)))
    all_goals go_wp2
    all_goals go_ret
    all_goals go_light
    all_goals refine ⟨by first | rfl | simp, ?_⟩
    all_goals have sg1 := g1.2
    all_goals have sg2 := g2.2
    all_goals have sg3 := g3.2
    all_goals have sg4 := g4.2
    all_goals have sg5 := g5.2
    all_goals have sg6 := g6.2
    all_goals have sg7 := g7.2
    all_goals have sg8 := g8.2
    all_goals have sg9 := g9.2
    all_goals have sg10 := g10.2
    all_goals have sg11 := g11.2
    all_goals have sg12 := g12.2
    all_goals simp at sg1 sg2 sg3 sg4 sg5 sg6 sg7 sg8 sg9 sg10 sg11 sg12
    all_goals repeat (first | exact Grew.refl _ | refine Grew.drew ?_ | refine Grew.drewN ?_ _ | refine Grew.alloc ?_ _ | refine Grew.set ?_ (by first | (simp; done) | (simp; omega) | omega) _ | refine Grew.trans ?_ g1 | refine Grew.trans ?_ g2 | refine Grew.trans ?_ g3 | refine Grew.trans ?_ g4 | refine Grew.trans ?_ g5 | refine Grew.trans ?_ g6 | refine Grew.trans ?_ g7 | refine Grew.trans ?_ g8 | refine Grew.trans ?_ g9 | refine Grew.trans ?_ g10 | refine Grew.trans ?_ g11 | refine Grew.trans ?_ g12 | assumption)
  · go_wp2_with fail
    go_region_held3 (fun w' => w'.cell? ⟨w.heap.size, 0, none⟩ = some (.int .i64 (f.fractionBits : Int)) ∧ w'.cell? ⟨w.heap.size, 1, none⟩ = some (.int .i64 (f.exponentBits : Int)) ∧ w'.cell? ⟨w5.heap.size, 0, none⟩ = some (.int .u64 H1) ∧ w'.cell? ⟨w5.heap.size, 1, none⟩ = some (.int .u64 K1) ∧ w'.cell? ⟨w5.heap.size, 2, none⟩ = some (.bool false) ∧ w'.cell? ⟨w7.heap.size, 0, none⟩ = some (.int .u64 H3) ∧ w'.cell? ⟨w7.heap.size, 1, none⟩ = some (.int .u64 K3) ∧ w'.cell? ⟨w7.heap.size, 2, none⟩ = some (.bool vm) ∧ w'.cell? ⟨w10.heap.size, 0, none⟩ = some (.int .u64 H4) ∧ w'.cell? ⟨w10.heap.size, 1, none⟩ = some (.int .u64 K4) ∧ w'.cell? ⟨w10.heap.size, 2, none⟩ = some (.bool rm)) (go_keep)
      (first
      | (go_at_call 63; refine (NX.out _).mono ?_; rintro e w11 ⟨rfl, g11⟩; obtain ⟨l11_0, h11_0_0, h11_0_1⟩ := g11.c2 (w.heap.size) (.int .i64 (f.fractionBits : Int)) (.int .i64 (f.exponentBits : Int)); obtain ⟨l11_1, h11_1_0, h11_1_1, h11_1_2⟩ := g11.c3 (w5.heap.size) (.int .u64 H1) (.int .u64 K1) (.bool false); obtain ⟨l11_2, h11_2_0, h11_2_1, h11_2_2⟩ := g11.c3 (w7.heap.size) (.int .u64 H3) (.int .u64 K3) (.bool vm); obtain ⟨l11_3, h11_3_0, h11_3_1, h11_3_2⟩ := g11.c3 (w10.heap.size) (.int .u64 H4) (.int .u64 K4) (.bool rm))
      | (go_at_call 79; refine (Rd.out _).mono ?_; rintro e w12 ⟨rfl, g12⟩; obtain ⟨l12_0, h12_0_0, h12_0_1⟩ := g12.c2 (w.heap.size) (.int .i64 (f.fractionBits : Int)) (.int .i64 (f.exponentBits : Int)); obtain ⟨l12_1, h12_1_0, h12_1_1, h12_1_2⟩ := g12.c3 (w5.heap.size) (.int .u64 H1) (.int .u64 K1) (.bool false); obtain ⟨l12_2, h12_2_0, h12_2_1, h12_2_2⟩ := g12.c3 (w7.heap.size) (.int .u64 H3) (.int .u64 K3) (.bool vm); obtain ⟨l12_3, h12_3_0, h12_3_1, h12_3_2⟩ := g12.c3 (w10.heap.size) (.int .u64 H4) (.int .u64 K4) (.bool rm)))
    all_goals go_wp2
    all_goals go_ret
    all_goals go_light
    all_goals refine ⟨by first | rfl | simp, ?_⟩
    all_goals have sg1 := g1.2
    all_goals have sg2 := g2.2
    all_goals have sg3 := g3.2
    all_goals have sg4 := g4.2
    all_goals have sg5 := g5.2
    all_goals have sg6 := g6.2
    all_goals have sg7 := g7.2
    all_goals have sg8 := g8.2
    all_goals have sg9 := g9.2
    all_goals have sg10 := g10.2
    all_goals have sg11 := g11.2
    all_goals have sg12 := g12.2
    all_goals simp at sg1 sg2 sg3 sg4 sg5 sg6 sg7 sg8 sg9 sg10 sg11 sg12
    all_goals repeat (first | exact Grew.refl _ | refine Grew.drew ?_ | refine Grew.drewN ?_ _ | refine Grew.alloc ?_ _ | refine Grew.set ?_ (by first | (simp; done) | (simp; omega) | omega) _ | refine Grew.trans ?_ g1 | refine Grew.trans ?_ g2 | refine Grew.trans ?_ g3 | refine Grew.trans ?_ g4 | refine Grew.trans ?_ g5 | refine Grew.trans ?_ g6 | refine Grew.trans ?_ g7 | refine Grew.trans ?_ g8 | refine Grew.trans ?_ g9 | refine Grew.trans ?_ g10 | refine Grew.trans ?_ g11 | refine Grew.trans ?_ g12 | assumption)
set_option maxRecDepth 100000 in
set_option maxHeartbeats 2000000 in
theorem sum_sz {f : Ieee.Format} (a b sa sb m n e d H1 K1 H2 K2 H3 K3 H4 K4 R : Int) (p q vm rm : Bool) (w : World) (sl : (sa < sb) = True) (pq : (p == q) = false) (hz : H4 = 0 ∧ K4 = 0 ∧ rm = false) (e0 : -2000 ≤ e) (e1 : e ≤ 2000) (d0 : -2000 ≤ d) (d1 : d ≤ 2000)
    (Za : CG 59 #[.agg #[.int .i64 (f.fractionBits : Int), .int .i64 (f.exponentBits : Int)], .int .u64 a] (.int .u64 sa))
    (Zb : CG 59 #[.agg #[.int .i64 (f.fractionBits : Int), .int .i64 (f.exponentBits : Int)], .int .u64 b] (.int .u64 sb))
    (PX : CG 80 #[.agg #[.int .i64 (f.fractionBits : Int), .int .i64 (f.exponentBits : Int)], .int .u64 b] (.tuple #[.int .u64 m, .int .i64 e]))
    (PY : CG 80 #[.agg #[.int .i64 (f.fractionBits : Int), .int .i64 (f.exponentBits : Int)], .int .u64 a] (.tuple #[.int .u64 n, .int .i64 d]))
    (L1 : CG 89 #[.agg #[.int .u64 0, .int .u64 m, .bool false], .int .i64 60] (.agg #[.int .u64 H1, .int .u64 K1, .bool false]))
    (L2 : CG 89 #[.agg #[.int .u64 0, .int .u64 n, .bool false], .int .i64 60] (.agg #[.int .u64 H2, .int .u64 K2, .bool false]))
    (Rt : CG 93 #[.agg #[.int .u64 H2, .int .u64 K2, .bool false], .int .i64 (e - d)] (.agg #[.int .u64 H3, .int .u64 K3, .bool vm]))
    (NX : CG 63 #[.agg #[.int .i64 (f.fractionBits : Int), .int .i64 (f.exponentBits : Int)], .int .u64 b] (.bool p))
    (NY : CG 63 #[.agg #[.int .i64 (f.fractionBits : Int), .int .i64 (f.exponentBits : Int)], .int .u64 a] (.bool q))
    (Mi : CG 105 #[.agg #[.int .u64 H1, .int .u64 K1, .bool false], .agg #[.int .u64 H3, .int .u64 K3, .bool vm]] (.agg #[.int .u64 H4, .int .u64 K4, .bool rm])) :
    Calls Tryd.prog 94 #[.agg #[.int .i64 (f.fractionBits : Int), .int .i64 (f.exponentBits : Int)], .int .u64 a, .int .u64 b] w fun en w' => en = .returned (.int .u64 0) ∧ Grew w w' := by
  obtain ⟨rfl, rfl, rfl⟩ := hz
  have we : IntKind.i64.wrap (e - d) = e - d := by rw [IntKind.wrap_i64]; omega
  have w6 : IntKind.i64.wrap (e - 60) = e - 60 := by rw [IntKind.wrap_i64]; omega
  go_enter Tryd.func94, Tryd.ntmps94
  go_wp2_with fail
  go_region_held3 (fun w' => w'.cell? ⟨w.heap.size, 0, none⟩ = some (.int .i64 (f.fractionBits : Int)) ∧ w'.cell? ⟨w.heap.size, 1, none⟩ = some (.int .i64 (f.exponentBits : Int))) (go_keep)
    (first
    | (go_at_call_of 59 (Value.int IntKind.u64 a); refine (Za.out _).mono ?_; rintro e w1 ⟨rfl, g1⟩; obtain ⟨l1_0, h1_0_0, h1_0_1⟩ := g1.c2 (w.heap.size) (.int .i64 (f.fractionBits : Int)) (.int .i64 (f.exponentBits : Int)))
    | (go_at_call_of 59 (Value.int IntKind.u64 b); refine (Zb.out _).mono ?_; rintro e w2 ⟨rfl, g2⟩; obtain ⟨l2_0, h2_0_0, h2_0_1⟩ := g2.c2 (w.heap.size) (.int .i64 (f.fractionBits : Int)) (.int .i64 (f.exponentBits : Int))))
  all_goals go_wp2_with fail
  refine (PX.out _).mono ?_
  rintro e w3 ⟨rfl, g3⟩
  obtain ⟨l3_0, h3_0_0, h3_0_1⟩ := g3.c2 (w.heap.size) (.int .i64 (f.fractionBits : Int)) (.int .i64 (f.exponentBits : Int))
  go_wp2_with fail
  refine (PY.out _).mono ?_
  rintro e w4 ⟨rfl, g4⟩
  obtain ⟨l4_0, h4_0_0, h4_0_1⟩ := g4.c2 (w.heap.size) (.int .i64 (f.fractionBits : Int)) (.int .i64 (f.exponentBits : Int))
  go_wp2_with fail
  refine (L1.out _).mono ?_
  rintro e w5 ⟨rfl, g5⟩
  obtain ⟨l5_0, h5_0_0, h5_0_1⟩ := g5.c2 (w.heap.size) (.int .i64 (f.fractionBits : Int)) (.int .i64 (f.exponentBits : Int))
  go_wp2_with fail
  refine (L2.out _).mono ?_
  rintro e w6 ⟨rfl, g6⟩
  obtain ⟨l6_0, h6_0_0, h6_0_1⟩ := g6.c2 (w.heap.size) (.int .i64 (f.fractionBits : Int)) (.int .i64 (f.exponentBits : Int))
  obtain ⟨l6_1, h6_1_0, h6_1_1, h6_1_2⟩ := g6.c3 (w5.heap.size) (.int .u64 H1) (.int .u64 K1) (.bool false)
  go_wp2_with fail
  refine (Rt.out _).mono ?_
  rintro e w7 ⟨rfl, g7⟩
  obtain ⟨l7_0, h7_0_0, h7_0_1⟩ := g7.c2 (w.heap.size) (.int .i64 (f.fractionBits : Int)) (.int .i64 (f.exponentBits : Int))
  obtain ⟨l7_1, h7_1_0, h7_1_1, h7_1_2⟩ := g7.c3 (w5.heap.size) (.int .u64 H1) (.int .u64 K1) (.bool false)
  go_wp2_with fail
  go_region_held3 (fun w' => w'.cell? ⟨w.heap.size, 0, none⟩ = some (.int .i64 (f.fractionBits : Int)) ∧ w'.cell? ⟨w.heap.size, 1, none⟩ = some (.int .i64 (f.exponentBits : Int)) ∧ w'.cell? ⟨w5.heap.size, 0, none⟩ = some (.int .u64 H1) ∧ w'.cell? ⟨w5.heap.size, 1, none⟩ = some (.int .u64 K1) ∧ w'.cell? ⟨w5.heap.size, 2, none⟩ = some (.bool false) ∧ w'.cell? ⟨w7.heap.size, 0, none⟩ = some (.int .u64 H3) ∧ w'.cell? ⟨w7.heap.size, 1, none⟩ = some (.int .u64 K3) ∧ w'.cell? ⟨w7.heap.size, 2, none⟩ = some (.bool vm)) (go_keep)
    (first
    | (go_at_call_of 63 (Value.int IntKind.u64 b); refine (NX.out _).mono ?_; rintro e w8 ⟨rfl, g8⟩; obtain ⟨l8_0, h8_0_0, h8_0_1⟩ := g8.c2 (w.heap.size) (.int .i64 (f.fractionBits : Int)) (.int .i64 (f.exponentBits : Int)); obtain ⟨l8_1, h8_1_0, h8_1_1, h8_1_2⟩ := g8.c3 (w5.heap.size) (.int .u64 H1) (.int .u64 K1) (.bool false); obtain ⟨l8_2, h8_2_0, h8_2_1, h8_2_2⟩ := g8.c3 (w7.heap.size) (.int .u64 H3) (.int .u64 K3) (.bool vm))
    | (go_at_call_of 63 (Value.int IntKind.u64 a); refine (NY.out _).mono ?_; rintro e w9 ⟨rfl, g9⟩; obtain ⟨l9_0, h9_0_0, h9_0_1⟩ := g9.c2 (w.heap.size) (.int .i64 (f.fractionBits : Int)) (.int .i64 (f.exponentBits : Int)); obtain ⟨l9_1, h9_1_0, h9_1_1, h9_1_2⟩ := g9.c3 (w5.heap.size) (.int .u64 H1) (.int .u64 K1) (.bool false); obtain ⟨l9_2, h9_2_0, h9_2_1, h9_2_2⟩ := g9.c3 (w7.heap.size) (.int .u64 H3) (.int .u64 K3) (.bool vm)))
  all_goals go_wp2_with fail
  refine (Mi.out _).mono ?_
  rintro e w10 ⟨rfl, g10⟩
  obtain ⟨l10_0, h10_0_0, h10_0_1⟩ := g10.c2 (w.heap.size) (.int .i64 (f.fractionBits : Int)) (.int .i64 (f.exponentBits : Int))
  obtain ⟨l10_1, h10_1_0, h10_1_1, h10_1_2⟩ := g10.c3 (w5.heap.size) (.int .u64 H1) (.int .u64 K1) (.bool false)
  obtain ⟨l10_2, h10_2_0, h10_2_1, h10_2_2⟩ := g10.c3 (w7.heap.size) (.int .u64 H3) (.int .u64 K3) (.bool vm)
  all_goals go_wp2
  all_goals go_ret
  all_goals go_light
  all_goals refine ⟨by first | rfl | simp, ?_⟩
  all_goals have sg1 := g1.2
  all_goals have sg2 := g2.2
  all_goals have sg3 := g3.2
  all_goals have sg4 := g4.2
  all_goals have sg5 := g5.2
  all_goals have sg6 := g6.2
  all_goals have sg7 := g7.2
  all_goals have sg8 := g8.2
  all_goals have sg9 := g9.2
  all_goals have sg10 := g10.2
  all_goals simp at sg1 sg2 sg3 sg4 sg5 sg6 sg7 sg8 sg9 sg10
  all_goals repeat (first | exact Grew.refl _ | refine Grew.drew ?_ | refine Grew.drewN ?_ _ | refine Grew.alloc ?_ _ | refine Grew.set ?_ (by first | (simp; done) | (simp; omega) | omega) _ | refine Grew.trans ?_ g1 | refine Grew.trans ?_ g2 | refine Grew.trans ?_ g3 | refine Grew.trans ?_ g4 | refine Grew.trans ?_ g5 | refine Grew.trans ?_ g6 | refine Grew.trans ?_ g7 | refine Grew.trans ?_ g8 | refine Grew.trans ?_ g9 | refine Grew.trans ?_ g10 | assumption)
end Go.Proofs.YtjkebimmddlccaaDoor
