/-
  The walks of the document's Round; no statement is proved here.
-/
import Derived.Test.YtjkebimmddlccaaDoorWideD
import Derived.Test.YtjkebimmddlccaaDoorParts
namespace Go.Proofs.YtjkebimmddlccaaDoor
open Go.RowKit
set_option linter.unusedVariables false
set_option linter.unusedSimpArgs false

set_option maxRecDepth 100000 in
set_option maxHeartbeats 2000000 in
theorem Rd2_p_Z1 (H L M h : Nat) (g : Int) (m mm hb : Bool) (e lg drop R : Int) (w : World) (e0 : -5000 ≤ e) (e1 : e ≤ 5000) (l0 : 0 ≤ lg) (l1 : lg ≤ 128)
    (hd : Hid (drop = max (lg - 53) (-1074 - e))) (d0 : -6000 ≤ drop) (d1 : drop ≤ 6000) (dp : 0 < drop) (hz : H = 0 ∧ L = 0) (HR : Hid (R = 0))
    (Lg : CG 97 #[.agg #[.int .u64 (H : Int), .int .u64 (L : Int), .bool m]] (.int .i64 lg))
    (Bi : CG 98 #[.agg #[.int .i64 52, .int .i64 11]] (.int .i64 1075))
    (R1 : CG 93 #[.agg #[.int .u64 (H : Int), .int .u64 (L : Int), .bool m], .int .i64 drop] (.agg #[.int .u64 0, .int .u64 (M : Int), .bool mm])) :
    Calls Tryd.prog 79 #[.agg #[.int .i64 52, .int .i64 11], .bool false, .agg #[.int .u64 (H : Int), .int .u64 (L : Int), .bool m], .int .i64 e] w fun e w' => e = .returned (.int .u64 R) ∧ Grew w w' := by
  have hdrop : (if IntKind.i64.wrap (IntKind.i64.wrap (lg - 52) - 1) < IntKind.i64.wrap (IntKind.i64.wrap (-1074) - e) then IntKind.i64.wrap (IntKind.i64.wrap (-1074) - e) else IntKind.i64.wrap (IntKind.i64.wrap (lg - 52) - 1)) = drop := by
    have := hd.out
    simp only [IntKind.wrap_i64]
    split <;> omega
  obtain ⟨rfl, rfl⟩ := hz
  go_enter Tryd.func79, Tryd.ntmps79
  go_wp2_with fail
  go_region_held3 (fun w' => w'.cell? ⟨w.heap.size, 0, none⟩ = some (.int .i64 52) ∧ w'.cell? ⟨w.heap.size, 1, none⟩ = some (.int .i64 11) ∧ w'.cell? ⟨w.heap.size + 1, 0, none⟩ = some (.int .u64 0) ∧ w'.cell? ⟨w.heap.size + 1, 1, none⟩ = some (.int .u64 0) ∧ w'.cell? ⟨w.heap.size + 1, 2, none⟩ = some (.bool m)) (go_keep)
    (first
    | (go_at_call 97; refine (Lg.out _).mono ?_; rintro e w1 ⟨rfl, g1⟩; obtain ⟨l1_0, h1_0_0, h1_0_1⟩ := g1.c2 (w.heap.size) (.int .i64 52) (.int .i64 11); obtain ⟨l1_1, h1_1_0, h1_1_1, h1_1_2⟩ := g1.c3 (w.heap.size + 1) (.int .u64 0) (.int .u64 0) (.bool m))
    | (go_at_call 98; refine (Bi.out _).mono ?_; rintro e w2 ⟨rfl, g2⟩; obtain ⟨l2_0, h2_0_0, h2_0_1⟩ := g2.c2 (w.heap.size) (.int .i64 52) (.int .i64 11); obtain ⟨l2_1, h2_1_0, h2_1_1, h2_1_2⟩ := g2.c3 (w.heap.size + 1) (.int .u64 0) (.int .u64 0) (.bool m)))
  all_goals (try simp only [hdrop])
  all_goals go_wp2_with fail
  refine (R1.out _).mono ?_
  rintro e w3 ⟨rfl, g3⟩
  obtain ⟨l3_0, h3_0_0, h3_0_1⟩ := g3.c2 (w.heap.size) (.int .i64 52) (.int .i64 11)
  obtain ⟨l3_1, h3_1_0, h3_1_1, h3_1_2⟩ := g3.c3 (w.heap.size + 1) (.int .u64 0) (.int .u64 0) (.bool m)
  go_wp2
  go_ret
  go_light
  refine ⟨by rw [HR.out]; first | rfl | (congr 2; omega) | (simp; done) | (congr 2; simp; omega), ?_⟩
  have sg1 := g1.2
  have sg2 := g2.2
  have sg3 := g3.2
  simp at sg1 sg2 sg3
  repeat (first | exact Grew.refl _ | refine Grew.drew ?_ | refine Grew.drewN ?_ _ | refine Grew.alloc ?_ _ | refine Grew.set ?_ (by first | (simp; done) | (simp; omega) | omega) _ | refine Grew.trans ?_ g1 | refine Grew.trans ?_ g2 | refine Grew.trans ?_ g3 | assumption)
set_option maxRecDepth 100000 in
set_option maxHeartbeats 2000000 in
theorem Rd2_p_Z0 (H L M h : Nat) (g : Int) (m mm hb : Bool) (e lg drop R : Int) (w : World) (e0 : -5000 ≤ e) (e1 : e ≤ 5000) (l0 : 0 ≤ lg) (l1 : lg ≤ 128)
    (hd : Hid (drop = max (lg - 53) (-1074 - e))) (d0 : -6000 ≤ drop) (d1 : drop ≤ 6000) (dp : drop ≤ 0) (hz : H = 0 ∧ L = 0) (HR : Hid (R = 0))
    (Lg : CG 97 #[.agg #[.int .u64 (H : Int), .int .u64 (L : Int), .bool m]] (.int .i64 lg))
    (Bi : CG 98 #[.agg #[.int .i64 52, .int .i64 11]] (.int .i64 1075))
    (R1 : CG 93 #[.agg #[.int .u64 (H : Int), .int .u64 (L : Int), .bool m], .int .i64 drop] (.agg #[.int .u64 (H : Int), .int .u64 (L : Int), .bool m]))
    (Lf : CG 89 #[.agg #[.int .u64 (H : Int), .int .u64 (L : Int), .bool m], .int .i64 (-drop)] (.agg #[.int .u64 0, .int .u64 (M : Int), .bool mm])) :
    Calls Tryd.prog 79 #[.agg #[.int .i64 52, .int .i64 11], .bool false, .agg #[.int .u64 (H : Int), .int .u64 (L : Int), .bool m], .int .i64 e] w fun e w' => e = .returned (.int .u64 R) ∧ Grew w w' := by
  have hdrop : (if IntKind.i64.wrap (IntKind.i64.wrap (lg - 52) - 1) < IntKind.i64.wrap (IntKind.i64.wrap (-1074) - e) then IntKind.i64.wrap (IntKind.i64.wrap (-1074) - e) else IntKind.i64.wrap (IntKind.i64.wrap (lg - 52) - 1)) = drop := by
    have := hd.out
    simp only [IntKind.wrap_i64]
    split <;> omega
  obtain ⟨rfl, rfl⟩ := hz
  go_enter Tryd.func79, Tryd.ntmps79
  go_wp2_with fail
  go_region_held3 (fun w' => w'.cell? ⟨w.heap.size, 0, none⟩ = some (.int .i64 52) ∧ w'.cell? ⟨w.heap.size, 1, none⟩ = some (.int .i64 11) ∧ w'.cell? ⟨w.heap.size + 1, 0, none⟩ = some (.int .u64 0) ∧ w'.cell? ⟨w.heap.size + 1, 1, none⟩ = some (.int .u64 0) ∧ w'.cell? ⟨w.heap.size + 1, 2, none⟩ = some (.bool m)) (go_keep)
    (first
    | (go_at_call 97; refine (Lg.out _).mono ?_; rintro e w1 ⟨rfl, g1⟩; obtain ⟨l1_0, h1_0_0, h1_0_1⟩ := g1.c2 (w.heap.size) (.int .i64 52) (.int .i64 11); obtain ⟨l1_1, h1_1_0, h1_1_1, h1_1_2⟩ := g1.c3 (w.heap.size + 1) (.int .u64 0) (.int .u64 0) (.bool m))
    | (go_at_call 98; refine (Bi.out _).mono ?_; rintro e w2 ⟨rfl, g2⟩; obtain ⟨l2_0, h2_0_0, h2_0_1⟩ := g2.c2 (w.heap.size) (.int .i64 52) (.int .i64 11); obtain ⟨l2_1, h2_1_0, h2_1_1, h2_1_2⟩ := g2.c3 (w.heap.size + 1) (.int .u64 0) (.int .u64 0) (.bool m)))
  all_goals (try simp only [hdrop])
  all_goals go_wp2_with fail
  refine (R1.out _).mono ?_
  rintro e w3 ⟨rfl, g3⟩
  obtain ⟨l3_0, h3_0_0, h3_0_1⟩ := g3.c2 (w.heap.size) (.int .i64 52) (.int .i64 11)
  obtain ⟨l3_1, h3_1_0, h3_1_1, h3_1_2⟩ := g3.c3 (w.heap.size + 1) (.int .u64 0) (.int .u64 0) (.bool m)
  go_wp2_with fail
  refine (Lf.out _).mono ?_
  rintro e w4 ⟨rfl, g4⟩
  obtain ⟨l4_0, h4_0_0, h4_0_1⟩ := g4.c2 (w.heap.size) (.int .i64 52) (.int .i64 11)
  obtain ⟨l4_1, h4_1_0, h4_1_1, h4_1_2⟩ := g4.c3 (w.heap.size + 1) (.int .u64 0) (.int .u64 0) (.bool m)
  obtain ⟨l4_2, q4_2⟩ := g4.blk (B := w3.heap.size) (by first | (simp; done) | (simp; omega) | omega)
  have h4_2_0 := q4_2.out 0 (.int .u64 0) (by go_simp)
  have z4_2_0 : w4.frozen? ⟨w3.heap.size, 0, none⟩ = false := (by rw [g4.1.frozen (by first | (simp; done) | (simp; omega) | omega)]; go_simp)
  have h4_2_1 := q4_2.out 1 (.int .u64 0) (by go_simp)
  have z4_2_1 : w4.frozen? ⟨w3.heap.size, 1, none⟩ = false := (by rw [g4.1.frozen (by first | (simp; done) | (simp; omega) | omega)]; go_simp)
  have h4_2_2 := q4_2.out 2 (.bool m) (by go_simp)
  have z4_2_2 : w4.frozen? ⟨w3.heap.size, 2, none⟩ = false := (by rw [g4.1.frozen (by first | (simp; done) | (simp; omega) | omega)]; go_simp)
  go_wp2
  go_ret
  go_light
  refine ⟨by rw [HR.out]; first | rfl | (congr 2; omega) | (simp; done) | (congr 2; simp; omega), ?_⟩
  have sg1 := g1.2
  have sg2 := g2.2
  have sg3 := g3.2
  have sg4 := g4.2
  simp at sg1 sg2 sg3 sg4
  repeat (first | exact Grew.refl _ | refine Grew.drew ?_ | refine Grew.drewN ?_ _ | refine Grew.alloc ?_ _ | refine Grew.set ?_ (by first | (simp; done) | (simp; omega) | omega) _ | refine Grew.trans ?_ g1 | refine Grew.trans ?_ g2 | refine Grew.trans ?_ g3 | refine Grew.trans ?_ g4 | assumption)
set_option maxRecDepth 100000 in
set_option maxHeartbeats 2000000 in
theorem Rd2_p_NT3 (H L M h : Nat) (g : Int) (m mm hb : Bool) (e lg drop R : Int) (w : World) (e0 : -5000 ≤ e) (e1 : e ≤ 5000) (l0 : 0 ≤ lg) (l1 : lg ≤ 128)
    (hd : Hid (drop = max (lg - 53) (-1074 - e))) (d0 : -6000 ≤ drop) (d1 : drop ≤ 6000) (dp : drop ≤ 0) (hz : ¬ (H = 0 ∧ L = 0)) (ml : Hid (M < 9007199254740992)) (mb : M < 9007199254740993) (ms : Hid (M < 4503599627370496)) (HR : Hid (R = 0 + (M : Int)))
    (Lg : CG 97 #[.agg #[.int .u64 (H : Int), .int .u64 (L : Int), .bool m]] (.int .i64 lg))
    (Bi : CG 98 #[.agg #[.int .i64 52, .int .i64 11]] (.int .i64 1075))
    (R1 : CG 93 #[.agg #[.int .u64 (H : Int), .int .u64 (L : Int), .bool m], .int .i64 drop] (.agg #[.int .u64 (H : Int), .int .u64 (L : Int), .bool m]))
    (Lf : CG 89 #[.agg #[.int .u64 (H : Int), .int .u64 (L : Int), .bool m], .int .i64 (-drop)] (.agg #[.int .u64 0, .int .u64 (M : Int), .bool mm])) :
    Calls Tryd.prog 79 #[.agg #[.int .i64 52, .int .i64 11], .bool false, .agg #[.int .u64 (H : Int), .int .u64 (L : Int), .bool m], .int .i64 e] w fun e w' => e = .returned (.int .u64 R) ∧ Grew w w' := by
  have hdrop : (if IntKind.i64.wrap (IntKind.i64.wrap (lg - 52) - 1) < IntKind.i64.wrap (IntKind.i64.wrap (-1074) - e) then IntKind.i64.wrap (IntKind.i64.wrap (-1074) - e) else IntKind.i64.wrap (IntKind.i64.wrap (lg - 52) - 1)) = drop := by
    have := hd.out
    simp only [IntKind.wrap_i64]
    split <;> omega
  have hzc : ((H : Int) == 0) = false ∨ ((H : Int) == 0) = true ∧ ((L : Int) == 0) = false := by
    by_cases c : (H : Int) = 0
    · exact Or.inr ⟨beq_iff_eq.2 c, beq_eq_false_iff_ne.2 (by omega)⟩
    · exact Or.inl (beq_eq_false_iff_ne.2 c)
  have HZC : Hid (((H : Int) == 0) = false ∨ ((H : Int) == 0) = true ∧ ((L : Int) == 0) = false) := hzc
  clear hz hzc
  have q1 : ((M : Int) / 9007199254740992 == 1) = false := beq_eq_false_iff_ne.2 (by have := ml.out; omega)
  have q4 : ((M : Int) / 4503599627370496 == 0) = true := beq_iff_eq.2 (by have := ms.out; omega)
  go_enter Tryd.func79, Tryd.ntmps79
  go_wp2_with fail
  go_region_held3 (fun w' => w'.cell? ⟨w.heap.size, 0, none⟩ = some (.int .i64 52) ∧ w'.cell? ⟨w.heap.size, 1, none⟩ = some (.int .i64 11) ∧ w'.cell? ⟨w.heap.size + 1, 0, none⟩ = some (.int .u64 (H : Int)) ∧ w'.cell? ⟨w.heap.size + 1, 1, none⟩ = some (.int .u64 (L : Int)) ∧ w'.cell? ⟨w.heap.size + 1, 2, none⟩ = some (.bool m)) (go_keep)
    (first
    | (go_at_call 97; refine (Lg.out _).mono ?_; rintro e w1 ⟨rfl, g1⟩; obtain ⟨l1_0, h1_0_0, h1_0_1⟩ := g1.c2 (w.heap.size) (.int .i64 52) (.int .i64 11); obtain ⟨l1_1, h1_1_0, h1_1_1, h1_1_2⟩ := g1.c3 (w.heap.size + 1) (.int .u64 (H : Int)) (.int .u64 (L : Int)) (.bool m))
    | (go_at_call 98; refine (Bi.out _).mono ?_; rintro e w2 ⟨rfl, g2⟩; obtain ⟨l2_0, h2_0_0, h2_0_1⟩ := g2.c2 (w.heap.size) (.int .i64 52) (.int .i64 11); obtain ⟨l2_1, h2_1_0, h2_1_1, h2_1_2⟩ := g2.c3 (w.heap.size + 1) (.int .u64 (H : Int)) (.int .u64 (L : Int)) (.bool m)))
  all_goals (try simp only [hdrop])
  all_goals go_wp2_with fail
  refine (R1.out _).mono ?_
  rintro e w3 ⟨rfl, g3⟩
  obtain ⟨l3_0, h3_0_0, h3_0_1⟩ := g3.c2 (w.heap.size) (.int .i64 52) (.int .i64 11)
  obtain ⟨l3_1, h3_1_0, h3_1_1, h3_1_2⟩ := g3.c3 (w.heap.size + 1) (.int .u64 (H : Int)) (.int .u64 (L : Int)) (.bool m)
  go_wp2_with fail
  refine (Lf.out _).mono ?_
  rintro e w4 ⟨rfl, g4⟩
  obtain ⟨l4_0, h4_0_0, h4_0_1⟩ := g4.c2 (w.heap.size) (.int .i64 52) (.int .i64 11)
  obtain ⟨l4_1, h4_1_0, h4_1_1, h4_1_2⟩ := g4.c3 (w.heap.size + 1) (.int .u64 (H : Int)) (.int .u64 (L : Int)) (.bool m)
  obtain ⟨l4_2, q4_2⟩ := g4.blk (B := w3.heap.size) (by first | (simp; done) | (simp; omega) | omega)
  have h4_2_0 := q4_2.out 0 (.int .u64 (H : Int)) (by go_simp)
  have z4_2_0 : w4.frozen? ⟨w3.heap.size, 0, none⟩ = false := (by rw [g4.1.frozen (by first | (simp; done) | (simp; omega) | omega)]; go_simp)
  have h4_2_1 := q4_2.out 1 (.int .u64 (L : Int)) (by go_simp)
  have z4_2_1 : w4.frozen? ⟨w3.heap.size, 1, none⟩ = false := (by rw [g4.1.frozen (by first | (simp; done) | (simp; omega) | omega)]; go_simp)
  have h4_2_2 := q4_2.out 2 (.bool m) (by go_simp)
  have z4_2_2 : w4.frozen? ⟨w3.heap.size, 2, none⟩ = false := (by rw [g4.1.frozen (by first | (simp; done) | (simp; omega) | omega)]; go_simp)
  rcases HZC.out with c1 | ⟨c1, c2⟩
  · go_wp2_with fail
    go_ret
    go_light
    refine ⟨by rw [HR.out]; have := ml.out; have := ms.out; first | rfl | (congr 2; omega) | (simp; done) | (congr 2; simp; omega), ?_⟩
    have sg1 := g1.2
    have sg2 := g2.2
    have sg3 := g3.2
    have sg4 := g4.2
    simp at sg1 sg2 sg3 sg4
    repeat (first | exact Grew.refl _ | refine Grew.drew ?_ | refine Grew.drewN ?_ _ | refine Grew.alloc ?_ _ | refine Grew.set ?_ (by first | (simp; done) | (simp; omega) | omega) _ | refine Grew.trans ?_ g1 | refine Grew.trans ?_ g2 | refine Grew.trans ?_ g3 | refine Grew.trans ?_ g4 | assumption)
  · go_wp2_with fail
    go_ret
    go_light
    refine ⟨by rw [HR.out]; have := ml.out; have := ms.out; first | rfl | (congr 2; omega) | (simp; done) | (congr 2; simp; omega), ?_⟩
    have sg1 := g1.2
    have sg2 := g2.2
    have sg3 := g3.2
    have sg4 := g4.2
    simp at sg1 sg2 sg3 sg4
    repeat (first | exact Grew.refl _ | refine Grew.drew ?_ | refine Grew.drewN ?_ _ | refine Grew.alloc ?_ _ | refine Grew.set ?_ (by first | (simp; done) | (simp; omega) | omega) _ | refine Grew.trans ?_ g1 | refine Grew.trans ?_ g2 | refine Grew.trans ?_ g3 | refine Grew.trans ?_ g4 | assumption)
set_option maxRecDepth 100000 in
set_option maxHeartbeats 2000000 in
theorem Rd2_p_NT4 (H L M h : Nat) (g : Int) (m mm hb : Bool) (e lg drop R : Int) (w : World) (e0 : -5000 ≤ e) (e1 : e ≤ 5000) (l0 : 0 ≤ lg) (l1 : lg ≤ 128)
    (hd : Hid (drop = max (lg - 53) (-1074 - e))) (d0 : -6000 ≤ drop) (d1 : drop ≤ 6000) (dp : drop ≤ 0) (hz : ¬ (H = 0 ∧ L = 0)) (ml : Hid (M < 9007199254740992)) (mb : M < 9007199254740993) (ms : Hid (4503599627370496 ≤ M)) (x0 : 1 ≤ e + drop + 1075) (x1 : e + drop + 1075 < 2047) (HR : Hid (R = 0 + (e + drop + 1075) * 4503599627370496 + (M : Int) - 4503599627370496))
    (Lg : CG 97 #[.agg #[.int .u64 (H : Int), .int .u64 (L : Int), .bool m]] (.int .i64 lg))
    (Bi : CG 98 #[.agg #[.int .i64 52, .int .i64 11]] (.int .i64 1075))
    (R1 : CG 93 #[.agg #[.int .u64 (H : Int), .int .u64 (L : Int), .bool m], .int .i64 drop] (.agg #[.int .u64 (H : Int), .int .u64 (L : Int), .bool m]))
    (Lf : CG 89 #[.agg #[.int .u64 (H : Int), .int .u64 (L : Int), .bool m], .int .i64 (-drop)] (.agg #[.int .u64 0, .int .u64 (M : Int), .bool mm])) :
    Calls Tryd.prog 79 #[.agg #[.int .i64 52, .int .i64 11], .bool false, .agg #[.int .u64 (H : Int), .int .u64 (L : Int), .bool m], .int .i64 e] w fun e w' => e = .returned (.int .u64 R) ∧ Grew w w' := by
  have hdrop : (if IntKind.i64.wrap (IntKind.i64.wrap (lg - 52) - 1) < IntKind.i64.wrap (IntKind.i64.wrap (-1074) - e) then IntKind.i64.wrap (IntKind.i64.wrap (-1074) - e) else IntKind.i64.wrap (IntKind.i64.wrap (lg - 52) - 1)) = drop := by
    have := hd.out
    simp only [IntKind.wrap_i64]
    split <;> omega
  have hzc : ((H : Int) == 0) = false ∨ ((H : Int) == 0) = true ∧ ((L : Int) == 0) = false := by
    by_cases c : (H : Int) = 0
    · exact Or.inr ⟨beq_iff_eq.2 c, beq_eq_false_iff_ne.2 (by omega)⟩
    · exact Or.inl (beq_eq_false_iff_ne.2 c)
  have HZC : Hid (((H : Int) == 0) = false ∨ ((H : Int) == 0) = true ∧ ((L : Int) == 0) = false) := hzc
  clear hz hzc
  have q1 : ((M : Int) / 9007199254740992 == 1) = false := beq_eq_false_iff_ne.2 (by have := ml.out; omega)
  have q4 : ((M : Int) / 4503599627370496 == 0) = false := beq_eq_false_iff_ne.2 (by have := ms.out; omega)
  go_enter Tryd.func79, Tryd.ntmps79
  go_wp2_with fail
  go_region_held3 (fun w' => w'.cell? ⟨w.heap.size, 0, none⟩ = some (.int .i64 52) ∧ w'.cell? ⟨w.heap.size, 1, none⟩ = some (.int .i64 11) ∧ w'.cell? ⟨w.heap.size + 1, 0, none⟩ = some (.int .u64 (H : Int)) ∧ w'.cell? ⟨w.heap.size + 1, 1, none⟩ = some (.int .u64 (L : Int)) ∧ w'.cell? ⟨w.heap.size + 1, 2, none⟩ = some (.bool m)) (go_keep)
    (first
    | (go_at_call 97; refine (Lg.out _).mono ?_; rintro e w1 ⟨rfl, g1⟩; obtain ⟨l1_0, h1_0_0, h1_0_1⟩ := g1.c2 (w.heap.size) (.int .i64 52) (.int .i64 11); obtain ⟨l1_1, h1_1_0, h1_1_1, h1_1_2⟩ := g1.c3 (w.heap.size + 1) (.int .u64 (H : Int)) (.int .u64 (L : Int)) (.bool m))
    | (go_at_call 98; refine (Bi.out _).mono ?_; rintro e w2 ⟨rfl, g2⟩; obtain ⟨l2_0, h2_0_0, h2_0_1⟩ := g2.c2 (w.heap.size) (.int .i64 52) (.int .i64 11); obtain ⟨l2_1, h2_1_0, h2_1_1, h2_1_2⟩ := g2.c3 (w.heap.size + 1) (.int .u64 (H : Int)) (.int .u64 (L : Int)) (.bool m)))
  all_goals (try simp only [hdrop])
  all_goals go_wp2_with fail
  refine (R1.out _).mono ?_
  rintro e w3 ⟨rfl, g3⟩
  obtain ⟨l3_0, h3_0_0, h3_0_1⟩ := g3.c2 (w.heap.size) (.int .i64 52) (.int .i64 11)
  obtain ⟨l3_1, h3_1_0, h3_1_1, h3_1_2⟩ := g3.c3 (w.heap.size + 1) (.int .u64 (H : Int)) (.int .u64 (L : Int)) (.bool m)
  go_wp2_with fail
  refine (Lf.out _).mono ?_
  rintro e w4 ⟨rfl, g4⟩
  obtain ⟨l4_0, h4_0_0, h4_0_1⟩ := g4.c2 (w.heap.size) (.int .i64 52) (.int .i64 11)
  obtain ⟨l4_1, h4_1_0, h4_1_1, h4_1_2⟩ := g4.c3 (w.heap.size + 1) (.int .u64 (H : Int)) (.int .u64 (L : Int)) (.bool m)
  obtain ⟨l4_2, q4_2⟩ := g4.blk (B := w3.heap.size) (by first | (simp; done) | (simp; omega) | omega)
  have h4_2_0 := q4_2.out 0 (.int .u64 (H : Int)) (by go_simp)
  have z4_2_0 : w4.frozen? ⟨w3.heap.size, 0, none⟩ = false := (by rw [g4.1.frozen (by first | (simp; done) | (simp; omega) | omega)]; go_simp)
  have h4_2_1 := q4_2.out 1 (.int .u64 (L : Int)) (by go_simp)
  have z4_2_1 : w4.frozen? ⟨w3.heap.size, 1, none⟩ = false := (by rw [g4.1.frozen (by first | (simp; done) | (simp; omega) | omega)]; go_simp)
  have h4_2_2 := q4_2.out 2 (.bool m) (by go_simp)
  have z4_2_2 : w4.frozen? ⟨w3.heap.size, 2, none⟩ = false := (by rw [g4.1.frozen (by first | (simp; done) | (simp; omega) | omega)]; go_simp)
  rcases HZC.out with c1 | ⟨c1, c2⟩
  · go_wp2_with fail
    refine (Bi.out _).mono ?_
    rintro e w6 ⟨rfl, g6⟩
    obtain ⟨l6_0, h6_0_0, h6_0_1⟩ := g6.c2 (w.heap.size) (.int .i64 52) (.int .i64 11)
    obtain ⟨l6_1, h6_1_0, h6_1_1, h6_1_2⟩ := g6.c3 (w.heap.size + 1) (.int .u64 (H : Int)) (.int .u64 (L : Int)) (.bool m)
    obtain ⟨l6_2, h6_2_0, h6_2_1, h6_2_2⟩ := g6.c3 (w3.heap.size) (.int .u64 0) (.int .u64 ((M : Int))) (.bool mm)
    go_wp2
    go_ret
    go_light
    refine ⟨by rw [HR.out]; have := ml.out; have := ms.out; first | rfl | (congr 2; omega) | (simp; done) | (congr 2; simp; omega), ?_⟩
    have sg1 := g1.2
    have sg2 := g2.2
    have sg3 := g3.2
    have sg4 := g4.2
    have sg6 := g6.2
    simp at sg1 sg2 sg3 sg4 sg6
    repeat (first | exact Grew.refl _ | refine Grew.drew ?_ | refine Grew.drewN ?_ _ | refine Grew.alloc ?_ _ | refine Grew.set ?_ (by first | (simp; done) | (simp; omega) | omega) _ | refine Grew.trans ?_ g1 | refine Grew.trans ?_ g2 | refine Grew.trans ?_ g3 | refine Grew.trans ?_ g4 | refine Grew.trans ?_ g6 | assumption)
  · go_wp2_with fail
    refine (Bi.out _).mono ?_
    rintro e w6 ⟨rfl, g6⟩
    obtain ⟨l6_0, h6_0_0, h6_0_1⟩ := g6.c2 (w.heap.size) (.int .i64 52) (.int .i64 11)
    obtain ⟨l6_1, h6_1_0, h6_1_1, h6_1_2⟩ := g6.c3 (w.heap.size + 1) (.int .u64 (H : Int)) (.int .u64 (L : Int)) (.bool m)
    obtain ⟨l6_2, h6_2_0, h6_2_1, h6_2_2⟩ := g6.c3 (w3.heap.size) (.int .u64 0) (.int .u64 ((M : Int))) (.bool mm)
    go_wp2
    go_ret
    go_light
    refine ⟨by rw [HR.out]; have := ml.out; have := ms.out; first | rfl | (congr 2; omega) | (simp; done) | (congr 2; simp; omega), ?_⟩
    have sg1 := g1.2
    have sg2 := g2.2
    have sg3 := g3.2
    have sg4 := g4.2
    have sg6 := g6.2
    simp at sg1 sg2 sg3 sg4 sg6
    repeat (first | exact Grew.refl _ | refine Grew.drew ?_ | refine Grew.drewN ?_ _ | refine Grew.alloc ?_ _ | refine Grew.set ?_ (by first | (simp; done) | (simp; omega) | omega) _ | refine Grew.trans ?_ g1 | refine Grew.trans ?_ g2 | refine Grew.trans ?_ g3 | refine Grew.trans ?_ g4 | refine Grew.trans ?_ g6 | assumption)
set_option maxRecDepth 100000 in
set_option maxHeartbeats 2000000 in
theorem Rd2_p_NT5 (H L M h : Nat) (g : Int) (m mm hb : Bool) (e lg drop R : Int) (w : World) (e0 : -5000 ≤ e) (e1 : e ≤ 5000) (l0 : 0 ≤ lg) (l1 : lg ≤ 128)
    (hd : Hid (drop = max (lg - 53) (-1074 - e))) (d0 : -6000 ≤ drop) (d1 : drop ≤ 6000) (dp : drop ≤ 0) (hz : ¬ (H = 0 ∧ L = 0)) (ml : Hid (M < 9007199254740992)) (mb : M < 9007199254740993) (ms : Hid (4503599627370496 ≤ M)) (x1 : 2047 ≤ e + drop + 1075) (HR : Hid (R = 9218868437227405312))
    (Lg : CG 97 #[.agg #[.int .u64 (H : Int), .int .u64 (L : Int), .bool m]] (.int .i64 lg))
    (Bi : CG 98 #[.agg #[.int .i64 52, .int .i64 11]] (.int .i64 1075))
    (If : CG 64 #[.agg #[.int .i64 52, .int .i64 11]] (.int .u64 9218868437227405312))
    (R1 : CG 93 #[.agg #[.int .u64 (H : Int), .int .u64 (L : Int), .bool m], .int .i64 drop] (.agg #[.int .u64 (H : Int), .int .u64 (L : Int), .bool m]))
    (Lf : CG 89 #[.agg #[.int .u64 (H : Int), .int .u64 (L : Int), .bool m], .int .i64 (-drop)] (.agg #[.int .u64 0, .int .u64 (M : Int), .bool mm])) :
    Calls Tryd.prog 79 #[.agg #[.int .i64 52, .int .i64 11], .bool false, .agg #[.int .u64 (H : Int), .int .u64 (L : Int), .bool m], .int .i64 e] w fun e w' => e = .returned (.int .u64 R) ∧ Grew w w' := by
  have hdrop : (if IntKind.i64.wrap (IntKind.i64.wrap (lg - 52) - 1) < IntKind.i64.wrap (IntKind.i64.wrap (-1074) - e) then IntKind.i64.wrap (IntKind.i64.wrap (-1074) - e) else IntKind.i64.wrap (IntKind.i64.wrap (lg - 52) - 1)) = drop := by
    have := hd.out
    simp only [IntKind.wrap_i64]
    split <;> omega
  have hzc : ((H : Int) == 0) = false ∨ ((H : Int) == 0) = true ∧ ((L : Int) == 0) = false := by
    by_cases c : (H : Int) = 0
    · exact Or.inr ⟨beq_iff_eq.2 c, beq_eq_false_iff_ne.2 (by omega)⟩
    · exact Or.inl (beq_eq_false_iff_ne.2 c)
  have HZC : Hid (((H : Int) == 0) = false ∨ ((H : Int) == 0) = true ∧ ((L : Int) == 0) = false) := hzc
  clear hz hzc
  have q1 : ((M : Int) / 9007199254740992 == 1) = false := beq_eq_false_iff_ne.2 (by have := ml.out; omega)
  have q4 : ((M : Int) / 4503599627370496 == 0) = false := beq_eq_false_iff_ne.2 (by have := ms.out; omega)
  go_enter Tryd.func79, Tryd.ntmps79
  go_wp2_with fail
  go_region_held3 (fun w' => w'.cell? ⟨w.heap.size, 0, none⟩ = some (.int .i64 52) ∧ w'.cell? ⟨w.heap.size, 1, none⟩ = some (.int .i64 11) ∧ w'.cell? ⟨w.heap.size + 1, 0, none⟩ = some (.int .u64 (H : Int)) ∧ w'.cell? ⟨w.heap.size + 1, 1, none⟩ = some (.int .u64 (L : Int)) ∧ w'.cell? ⟨w.heap.size + 1, 2, none⟩ = some (.bool m)) (go_keep)
    (first
    | (go_at_call 97; refine (Lg.out _).mono ?_; rintro e w1 ⟨rfl, g1⟩; obtain ⟨l1_0, h1_0_0, h1_0_1⟩ := g1.c2 (w.heap.size) (.int .i64 52) (.int .i64 11); obtain ⟨l1_1, h1_1_0, h1_1_1, h1_1_2⟩ := g1.c3 (w.heap.size + 1) (.int .u64 (H : Int)) (.int .u64 (L : Int)) (.bool m))
    | (go_at_call 98; refine (Bi.out _).mono ?_; rintro e w2 ⟨rfl, g2⟩; obtain ⟨l2_0, h2_0_0, h2_0_1⟩ := g2.c2 (w.heap.size) (.int .i64 52) (.int .i64 11); obtain ⟨l2_1, h2_1_0, h2_1_1, h2_1_2⟩ := g2.c3 (w.heap.size + 1) (.int .u64 (H : Int)) (.int .u64 (L : Int)) (.bool m)))
  all_goals (try simp only [hdrop])
  all_goals go_wp2_with fail
  refine (R1.out _).mono ?_
  rintro e w3 ⟨rfl, g3⟩
  obtain ⟨l3_0, h3_0_0, h3_0_1⟩ := g3.c2 (w.heap.size) (.int .i64 52) (.int .i64 11)
  obtain ⟨l3_1, h3_1_0, h3_1_1, h3_1_2⟩ := g3.c3 (w.heap.size + 1) (.int .u64 (H : Int)) (.int .u64 (L : Int)) (.bool m)
  go_wp2_with fail
  refine (Lf.out _).mono ?_
  rintro e w4 ⟨rfl, g4⟩
  obtain ⟨l4_0, h4_0_0, h4_0_1⟩ := g4.c2 (w.heap.size) (.int .i64 52) (.int .i64 11)
  obtain ⟨l4_1, h4_1_0, h4_1_1, h4_1_2⟩ := g4.c3 (w.heap.size + 1) (.int .u64 (H : Int)) (.int .u64 (L : Int)) (.bool m)
  obtain ⟨l4_2, q4_2⟩ := g4.blk (B := w3.heap.size) (by first | (simp; done) | (simp; omega) | omega)
  have h4_2_0 := q4_2.out 0 (.int .u64 (H : Int)) (by go_simp)
  have z4_2_0 : w4.frozen? ⟨w3.heap.size, 0, none⟩ = false := (by rw [g4.1.frozen (by first | (simp; done) | (simp; omega) | omega)]; go_simp)
  have h4_2_1 := q4_2.out 1 (.int .u64 (L : Int)) (by go_simp)
  have z4_2_1 : w4.frozen? ⟨w3.heap.size, 1, none⟩ = false := (by rw [g4.1.frozen (by first | (simp; done) | (simp; omega) | omega)]; go_simp)
  have h4_2_2 := q4_2.out 2 (.bool m) (by go_simp)
  have z4_2_2 : w4.frozen? ⟨w3.heap.size, 2, none⟩ = false := (by rw [g4.1.frozen (by first | (simp; done) | (simp; omega) | omega)]; go_simp)
  rcases HZC.out with c1 | ⟨c1, c2⟩
  · go_wp2_with fail
    refine (Bi.out _).mono ?_
    rintro e w6 ⟨rfl, g6⟩
    obtain ⟨l6_0, h6_0_0, h6_0_1⟩ := g6.c2 (w.heap.size) (.int .i64 52) (.int .i64 11)
    obtain ⟨l6_1, h6_1_0, h6_1_1, h6_1_2⟩ := g6.c3 (w.heap.size + 1) (.int .u64 (H : Int)) (.int .u64 (L : Int)) (.bool m)
    go_wp2_with fail
    refine (If.out _).mono ?_
    rintro e w7 ⟨rfl, g7⟩
    go_wp2
    go_ret
    go_light
    refine ⟨by rw [HR.out]; have := ml.out; have := ms.out; first | rfl | (congr 2; omega) | (simp; done) | (congr 2; simp; omega), ?_⟩
    have sg1 := g1.2
    have sg2 := g2.2
    have sg3 := g3.2
    have sg4 := g4.2
    have sg6 := g6.2
    have sg7 := g7.2
    simp at sg1 sg2 sg3 sg4 sg6 sg7
    repeat (first | exact Grew.refl _ | refine Grew.drew ?_ | refine Grew.drewN ?_ _ | refine Grew.alloc ?_ _ | refine Grew.set ?_ (by first | (simp; done) | (simp; omega) | omega) _ | refine Grew.trans ?_ g1 | refine Grew.trans ?_ g2 | refine Grew.trans ?_ g3 | refine Grew.trans ?_ g4 | refine Grew.trans ?_ g6 | refine Grew.trans ?_ g7 | assumption)
  · go_wp2_with fail
    refine (Bi.out _).mono ?_
    rintro e w6 ⟨rfl, g6⟩
    obtain ⟨l6_0, h6_0_0, h6_0_1⟩ := g6.c2 (w.heap.size) (.int .i64 52) (.int .i64 11)
    obtain ⟨l6_1, h6_1_0, h6_1_1, h6_1_2⟩ := g6.c3 (w.heap.size + 1) (.int .u64 (H : Int)) (.int .u64 (L : Int)) (.bool m)
    go_wp2_with fail
    refine (If.out _).mono ?_
    rintro e w7 ⟨rfl, g7⟩
    go_wp2
    go_ret
    go_light
    refine ⟨by rw [HR.out]; have := ml.out; have := ms.out; first | rfl | (congr 2; omega) | (simp; done) | (congr 2; simp; omega), ?_⟩
    have sg1 := g1.2
    have sg2 := g2.2
    have sg3 := g3.2
    have sg4 := g4.2
    have sg6 := g6.2
    have sg7 := g7.2
    simp at sg1 sg2 sg3 sg4 sg6 sg7
    repeat (first | exact Grew.refl _ | refine Grew.drew ?_ | refine Grew.drewN ?_ _ | refine Grew.alloc ?_ _ | refine Grew.set ?_ (by first | (simp; done) | (simp; omega) | omega) _ | refine Grew.trans ?_ g1 | refine Grew.trans ?_ g2 | refine Grew.trans ?_ g3 | refine Grew.trans ?_ g4 | refine Grew.trans ?_ g6 | refine Grew.trans ?_ g7 | assumption)
set_option maxRecDepth 100000 in
set_option maxHeartbeats 2000000 in
theorem Rd2_p_Pn1T3 (H L M h : Nat) (g : Int) (m mm hb : Bool) (e lg drop R : Int) (w : World) (e0 : -5000 ≤ e) (e1 : e ≤ 5000) (l0 : 0 ≤ lg) (l1 : lg ≤ 128)
    (hd : Hid (drop = max (lg - 53) (-1074 - e))) (d0 : -6000 ≤ drop) (d1 : drop ≤ 6000) (dp : 0 < drop) (hz : ¬ (H = 0 ∧ L = 0)) (bm : (bits .and .u64 (h : Int) 1 == 1) = false) (ml : Hid (M < 9007199254740992)) (mb : M < 9007199254740993) (ms : Hid (M < 4503599627370496)) (HR : Hid (R = 0 + (M : Int)))
    (Lg : CG 97 #[.agg #[.int .u64 (H : Int), .int .u64 (L : Int), .bool m]] (.int .i64 lg))
    (Bi : CG 98 #[.agg #[.int .i64 52, .int .i64 11]] (.int .i64 1075))
    (R1 : CG 93 #[.agg #[.int .u64 (H : Int), .int .u64 (L : Int), .bool m], .int .i64 drop] (.agg #[.int .u64 0, .int .u64 (M : Int), .bool mm]))
    (R2 : CG 93 #[.agg #[.int .u64 (H : Int), .int .u64 (L : Int), .bool m], .int .i64 (drop - 1)] (.agg #[.int .u64 g, .int .u64 (h : Int), .bool hb])) :
    Calls Tryd.prog 79 #[.agg #[.int .i64 52, .int .i64 11], .bool false, .agg #[.int .u64 (H : Int), .int .u64 (L : Int), .bool m], .int .i64 e] w fun e w' => e = .returned (.int .u64 R) ∧ Grew w w' := by
  have hdrop : (if IntKind.i64.wrap (IntKind.i64.wrap (lg - 52) - 1) < IntKind.i64.wrap (IntKind.i64.wrap (-1074) - e) then IntKind.i64.wrap (IntKind.i64.wrap (-1074) - e) else IntKind.i64.wrap (IntKind.i64.wrap (lg - 52) - 1)) = drop := by
    have := hd.out
    simp only [IntKind.wrap_i64]
    split <;> omega
  have hzc : ((H : Int) == 0) = false ∨ ((H : Int) == 0) = true ∧ ((L : Int) == 0) = false := by
    by_cases c : (H : Int) = 0
    · exact Or.inr ⟨beq_iff_eq.2 c, beq_eq_false_iff_ne.2 (by omega)⟩
    · exact Or.inl (beq_eq_false_iff_ne.2 c)
  have HZC : Hid (((H : Int) == 0) = false ∨ ((H : Int) == 0) = true ∧ ((L : Int) == 0) = false) := hzc
  clear hz hzc
  have q1 : ((M : Int) / 9007199254740992 == 1) = false := beq_eq_false_iff_ne.2 (by have := ml.out; omega)
  have q4 : ((M : Int) / 4503599627370496 == 0) = true := beq_iff_eq.2 (by have := ms.out; omega)
  go_enter Tryd.func79, Tryd.ntmps79
  go_wp2_with fail
  go_region_held3 (fun w' => w'.cell? ⟨w.heap.size, 0, none⟩ = some (.int .i64 52) ∧ w'.cell? ⟨w.heap.size, 1, none⟩ = some (.int .i64 11) ∧ w'.cell? ⟨w.heap.size + 1, 0, none⟩ = some (.int .u64 (H : Int)) ∧ w'.cell? ⟨w.heap.size + 1, 1, none⟩ = some (.int .u64 (L : Int)) ∧ w'.cell? ⟨w.heap.size + 1, 2, none⟩ = some (.bool m)) (go_keep)
    (first
    | (go_at_call 97; refine (Lg.out _).mono ?_; rintro e w1 ⟨rfl, g1⟩; obtain ⟨l1_0, h1_0_0, h1_0_1⟩ := g1.c2 (w.heap.size) (.int .i64 52) (.int .i64 11); obtain ⟨l1_1, h1_1_0, h1_1_1, h1_1_2⟩ := g1.c3 (w.heap.size + 1) (.int .u64 (H : Int)) (.int .u64 (L : Int)) (.bool m))
    | (go_at_call 98; refine (Bi.out _).mono ?_; rintro e w2 ⟨rfl, g2⟩; obtain ⟨l2_0, h2_0_0, h2_0_1⟩ := g2.c2 (w.heap.size) (.int .i64 52) (.int .i64 11); obtain ⟨l2_1, h2_1_0, h2_1_1, h2_1_2⟩ := g2.c3 (w.heap.size + 1) (.int .u64 (H : Int)) (.int .u64 (L : Int)) (.bool m)))
  all_goals (try simp only [hdrop])
  all_goals go_wp2_with fail
  refine (R1.out _).mono ?_
  rintro e w3 ⟨rfl, g3⟩
  obtain ⟨l3_0, h3_0_0, h3_0_1⟩ := g3.c2 (w.heap.size) (.int .i64 52) (.int .i64 11)
  obtain ⟨l3_1, h3_1_0, h3_1_1, h3_1_2⟩ := g3.c3 (w.heap.size + 1) (.int .u64 (H : Int)) (.int .u64 (L : Int)) (.bool m)
  rcases HZC.out with c1 | ⟨c1, c2⟩
  · go_wp2_with fail
    refine (R2.out _).mono ?_
    rintro e w4 ⟨rfl, g4⟩
    obtain ⟨l4_0, h4_0_0, h4_0_1⟩ := g4.c2 (w.heap.size) (.int .i64 52) (.int .i64 11)
    obtain ⟨l4_1, h4_1_0, h4_1_1, h4_1_2⟩ := g4.c3 (w.heap.size + 1) (.int .u64 (H : Int)) (.int .u64 (L : Int)) (.bool m)
    obtain ⟨l4_2, q4_2⟩ := g4.blk (B := w3.heap.size) (by first | (simp; done) | (simp; omega) | omega)
    have h4_2_0 := q4_2.out 0 (.int .u64 0) (by go_simp)
    have z4_2_0 : w4.frozen? ⟨w3.heap.size, 0, none⟩ = false := (by rw [g4.1.frozen (by first | (simp; done) | (simp; omega) | omega)]; go_simp)
    have h4_2_1 := q4_2.out 1 (.int .u64 (M : Int)) (by go_simp)
    have z4_2_1 : w4.frozen? ⟨w3.heap.size, 1, none⟩ = false := (by rw [g4.1.frozen (by first | (simp; done) | (simp; omega) | omega)]; go_simp)
    have h4_2_2 := q4_2.out 2 (.bool mm) (by go_simp)
    have z4_2_2 : w4.frozen? ⟨w3.heap.size, 2, none⟩ = false := (by rw [g4.1.frozen (by first | (simp; done) | (simp; omega) | omega)]; go_simp)
    go_wp2_with fail
    go_ret
    go_light
    refine ⟨by rw [HR.out]; have := ml.out; have := ms.out; first | rfl | (congr 2; omega) | (simp; done) | (congr 2; simp; omega), ?_⟩
    have sg1 := g1.2
    have sg2 := g2.2
    have sg3 := g3.2
    have sg4 := g4.2
    simp at sg1 sg2 sg3 sg4
    repeat (first | exact Grew.refl _ | refine Grew.drew ?_ | refine Grew.drewN ?_ _ | refine Grew.alloc ?_ _ | refine Grew.set ?_ (by first | (simp; done) | (simp; omega) | omega) _ | refine Grew.trans ?_ g1 | refine Grew.trans ?_ g2 | refine Grew.trans ?_ g3 | refine Grew.trans ?_ g4 | assumption)
  · go_wp2_with fail
    refine (R2.out _).mono ?_
    rintro e w4 ⟨rfl, g4⟩
    obtain ⟨l4_0, h4_0_0, h4_0_1⟩ := g4.c2 (w.heap.size) (.int .i64 52) (.int .i64 11)
    obtain ⟨l4_1, h4_1_0, h4_1_1, h4_1_2⟩ := g4.c3 (w.heap.size + 1) (.int .u64 (H : Int)) (.int .u64 (L : Int)) (.bool m)
    obtain ⟨l4_2, q4_2⟩ := g4.blk (B := w3.heap.size) (by first | (simp; done) | (simp; omega) | omega)
    have h4_2_0 := q4_2.out 0 (.int .u64 0) (by go_simp)
    have z4_2_0 : w4.frozen? ⟨w3.heap.size, 0, none⟩ = false := (by rw [g4.1.frozen (by first | (simp; done) | (simp; omega) | omega)]; go_simp)
    have h4_2_1 := q4_2.out 1 (.int .u64 (M : Int)) (by go_simp)
    have z4_2_1 : w4.frozen? ⟨w3.heap.size, 1, none⟩ = false := (by rw [g4.1.frozen (by first | (simp; done) | (simp; omega) | omega)]; go_simp)
    have h4_2_2 := q4_2.out 2 (.bool mm) (by go_simp)
    have z4_2_2 : w4.frozen? ⟨w3.heap.size, 2, none⟩ = false := (by rw [g4.1.frozen (by first | (simp; done) | (simp; omega) | omega)]; go_simp)
    go_wp2_with fail
    go_ret
    go_light
    refine ⟨by rw [HR.out]; have := ml.out; have := ms.out; first | rfl | (congr 2; omega) | (simp; done) | (congr 2; simp; omega), ?_⟩
    have sg1 := g1.2
    have sg2 := g2.2
    have sg3 := g3.2
    have sg4 := g4.2
    simp at sg1 sg2 sg3 sg4
    repeat (first | exact Grew.refl _ | refine Grew.drew ?_ | refine Grew.drewN ?_ _ | refine Grew.alloc ?_ _ | refine Grew.set ?_ (by first | (simp; done) | (simp; omega) | omega) _ | refine Grew.trans ?_ g1 | refine Grew.trans ?_ g2 | refine Grew.trans ?_ g3 | refine Grew.trans ?_ g4 | assumption)
set_option maxRecDepth 100000 in
set_option maxHeartbeats 2000000 in
theorem Rd2_p_Pn1T4 (H L M h : Nat) (g : Int) (m mm hb : Bool) (e lg drop R : Int) (w : World) (e0 : -5000 ≤ e) (e1 : e ≤ 5000) (l0 : 0 ≤ lg) (l1 : lg ≤ 128)
    (hd : Hid (drop = max (lg - 53) (-1074 - e))) (d0 : -6000 ≤ drop) (d1 : drop ≤ 6000) (dp : 0 < drop) (hz : ¬ (H = 0 ∧ L = 0)) (bm : (bits .and .u64 (h : Int) 1 == 1) = false) (ml : Hid (M < 9007199254740992)) (mb : M < 9007199254740993) (ms : Hid (4503599627370496 ≤ M)) (x0 : 1 ≤ e + drop + 1075) (x1 : e + drop + 1075 < 2047) (HR : Hid (R = 0 + (e + drop + 1075) * 4503599627370496 + (M : Int) - 4503599627370496))
    (Lg : CG 97 #[.agg #[.int .u64 (H : Int), .int .u64 (L : Int), .bool m]] (.int .i64 lg))
    (Bi : CG 98 #[.agg #[.int .i64 52, .int .i64 11]] (.int .i64 1075))
    (R1 : CG 93 #[.agg #[.int .u64 (H : Int), .int .u64 (L : Int), .bool m], .int .i64 drop] (.agg #[.int .u64 0, .int .u64 (M : Int), .bool mm]))
    (R2 : CG 93 #[.agg #[.int .u64 (H : Int), .int .u64 (L : Int), .bool m], .int .i64 (drop - 1)] (.agg #[.int .u64 g, .int .u64 (h : Int), .bool hb])) :
    Calls Tryd.prog 79 #[.agg #[.int .i64 52, .int .i64 11], .bool false, .agg #[.int .u64 (H : Int), .int .u64 (L : Int), .bool m], .int .i64 e] w fun e w' => e = .returned (.int .u64 R) ∧ Grew w w' := by
  have hdrop : (if IntKind.i64.wrap (IntKind.i64.wrap (lg - 52) - 1) < IntKind.i64.wrap (IntKind.i64.wrap (-1074) - e) then IntKind.i64.wrap (IntKind.i64.wrap (-1074) - e) else IntKind.i64.wrap (IntKind.i64.wrap (lg - 52) - 1)) = drop := by
    have := hd.out
    simp only [IntKind.wrap_i64]
    split <;> omega
  have hzc : ((H : Int) == 0) = false ∨ ((H : Int) == 0) = true ∧ ((L : Int) == 0) = false := by
    by_cases c : (H : Int) = 0
    · exact Or.inr ⟨beq_iff_eq.2 c, beq_eq_false_iff_ne.2 (by omega)⟩
    · exact Or.inl (beq_eq_false_iff_ne.2 c)
  have HZC : Hid (((H : Int) == 0) = false ∨ ((H : Int) == 0) = true ∧ ((L : Int) == 0) = false) := hzc
  clear hz hzc
  have q1 : ((M : Int) / 9007199254740992 == 1) = false := beq_eq_false_iff_ne.2 (by have := ml.out; omega)
  have q4 : ((M : Int) / 4503599627370496 == 0) = false := beq_eq_false_iff_ne.2 (by have := ms.out; omega)
  go_enter Tryd.func79, Tryd.ntmps79
  go_wp2_with fail
  go_region_held3 (fun w' => w'.cell? ⟨w.heap.size, 0, none⟩ = some (.int .i64 52) ∧ w'.cell? ⟨w.heap.size, 1, none⟩ = some (.int .i64 11) ∧ w'.cell? ⟨w.heap.size + 1, 0, none⟩ = some (.int .u64 (H : Int)) ∧ w'.cell? ⟨w.heap.size + 1, 1, none⟩ = some (.int .u64 (L : Int)) ∧ w'.cell? ⟨w.heap.size + 1, 2, none⟩ = some (.bool m)) (go_keep)
    (first
    | (go_at_call 97; refine (Lg.out _).mono ?_; rintro e w1 ⟨rfl, g1⟩; obtain ⟨l1_0, h1_0_0, h1_0_1⟩ := g1.c2 (w.heap.size) (.int .i64 52) (.int .i64 11); obtain ⟨l1_1, h1_1_0, h1_1_1, h1_1_2⟩ := g1.c3 (w.heap.size + 1) (.int .u64 (H : Int)) (.int .u64 (L : Int)) (.bool m))
    | (go_at_call 98; refine (Bi.out _).mono ?_; rintro e w2 ⟨rfl, g2⟩; obtain ⟨l2_0, h2_0_0, h2_0_1⟩ := g2.c2 (w.heap.size) (.int .i64 52) (.int .i64 11); obtain ⟨l2_1, h2_1_0, h2_1_1, h2_1_2⟩ := g2.c3 (w.heap.size + 1) (.int .u64 (H : Int)) (.int .u64 (L : Int)) (.bool m)))
  all_goals (try simp only [hdrop])
  all_goals go_wp2_with fail
  refine (R1.out _).mono ?_
  rintro e w3 ⟨rfl, g3⟩
  obtain ⟨l3_0, h3_0_0, h3_0_1⟩ := g3.c2 (w.heap.size) (.int .i64 52) (.int .i64 11)
  obtain ⟨l3_1, h3_1_0, h3_1_1, h3_1_2⟩ := g3.c3 (w.heap.size + 1) (.int .u64 (H : Int)) (.int .u64 (L : Int)) (.bool m)
  rcases HZC.out with c1 | ⟨c1, c2⟩
  · go_wp2_with fail
    refine (R2.out _).mono ?_
    rintro e w4 ⟨rfl, g4⟩
    obtain ⟨l4_0, h4_0_0, h4_0_1⟩ := g4.c2 (w.heap.size) (.int .i64 52) (.int .i64 11)
    obtain ⟨l4_1, h4_1_0, h4_1_1, h4_1_2⟩ := g4.c3 (w.heap.size + 1) (.int .u64 (H : Int)) (.int .u64 (L : Int)) (.bool m)
    obtain ⟨l4_2, q4_2⟩ := g4.blk (B := w3.heap.size) (by first | (simp; done) | (simp; omega) | omega)
    have h4_2_0 := q4_2.out 0 (.int .u64 0) (by go_simp)
    have z4_2_0 : w4.frozen? ⟨w3.heap.size, 0, none⟩ = false := (by rw [g4.1.frozen (by first | (simp; done) | (simp; omega) | omega)]; go_simp)
    have h4_2_1 := q4_2.out 1 (.int .u64 (M : Int)) (by go_simp)
    have z4_2_1 : w4.frozen? ⟨w3.heap.size, 1, none⟩ = false := (by rw [g4.1.frozen (by first | (simp; done) | (simp; omega) | omega)]; go_simp)
    have h4_2_2 := q4_2.out 2 (.bool mm) (by go_simp)
    have z4_2_2 : w4.frozen? ⟨w3.heap.size, 2, none⟩ = false := (by rw [g4.1.frozen (by first | (simp; done) | (simp; omega) | omega)]; go_simp)
    go_wp2_with fail
    refine (Bi.out _).mono ?_
    rintro e w6 ⟨rfl, g6⟩
    obtain ⟨l6_0, h6_0_0, h6_0_1⟩ := g6.c2 (w.heap.size) (.int .i64 52) (.int .i64 11)
    obtain ⟨l6_1, h6_1_0, h6_1_1, h6_1_2⟩ := g6.c3 (w.heap.size + 1) (.int .u64 (H : Int)) (.int .u64 (L : Int)) (.bool m)
    obtain ⟨l6_2, h6_2_0, h6_2_1, h6_2_2⟩ := g6.c3 (w3.heap.size) (.int .u64 0) (.int .u64 ((M : Int))) (.bool mm)
    go_wp2
    go_ret
    go_light
    refine ⟨by rw [HR.out]; have := ml.out; have := ms.out; first | rfl | (congr 2; omega) | (simp; done) | (congr 2; simp; omega), ?_⟩
    have sg1 := g1.2
    have sg2 := g2.2
    have sg3 := g3.2
    have sg4 := g4.2
    have sg6 := g6.2
    simp at sg1 sg2 sg3 sg4 sg6
    repeat (first | exact Grew.refl _ | refine Grew.drew ?_ | refine Grew.drewN ?_ _ | refine Grew.alloc ?_ _ | refine Grew.set ?_ (by first | (simp; done) | (simp; omega) | omega) _ | refine Grew.trans ?_ g1 | refine Grew.trans ?_ g2 | refine Grew.trans ?_ g3 | refine Grew.trans ?_ g4 | refine Grew.trans ?_ g6 | assumption)
  · go_wp2_with fail
    refine (R2.out _).mono ?_
    rintro e w4 ⟨rfl, g4⟩
    obtain ⟨l4_0, h4_0_0, h4_0_1⟩ := g4.c2 (w.heap.size) (.int .i64 52) (.int .i64 11)
    obtain ⟨l4_1, h4_1_0, h4_1_1, h4_1_2⟩ := g4.c3 (w.heap.size + 1) (.int .u64 (H : Int)) (.int .u64 (L : Int)) (.bool m)
    obtain ⟨l4_2, q4_2⟩ := g4.blk (B := w3.heap.size) (by first | (simp; done) | (simp; omega) | omega)
    have h4_2_0 := q4_2.out 0 (.int .u64 0) (by go_simp)
    have z4_2_0 : w4.frozen? ⟨w3.heap.size, 0, none⟩ = false := (by rw [g4.1.frozen (by first | (simp; done) | (simp; omega) | omega)]; go_simp)
    have h4_2_1 := q4_2.out 1 (.int .u64 (M : Int)) (by go_simp)
    have z4_2_1 : w4.frozen? ⟨w3.heap.size, 1, none⟩ = false := (by rw [g4.1.frozen (by first | (simp; done) | (simp; omega) | omega)]; go_simp)
    have h4_2_2 := q4_2.out 2 (.bool mm) (by go_simp)
    have z4_2_2 : w4.frozen? ⟨w3.heap.size, 2, none⟩ = false := (by rw [g4.1.frozen (by first | (simp; done) | (simp; omega) | omega)]; go_simp)
    go_wp2_with fail
    refine (Bi.out _).mono ?_
    rintro e w6 ⟨rfl, g6⟩
    obtain ⟨l6_0, h6_0_0, h6_0_1⟩ := g6.c2 (w.heap.size) (.int .i64 52) (.int .i64 11)
    obtain ⟨l6_1, h6_1_0, h6_1_1, h6_1_2⟩ := g6.c3 (w.heap.size + 1) (.int .u64 (H : Int)) (.int .u64 (L : Int)) (.bool m)
    obtain ⟨l6_2, h6_2_0, h6_2_1, h6_2_2⟩ := g6.c3 (w3.heap.size) (.int .u64 0) (.int .u64 ((M : Int))) (.bool mm)
    go_wp2
    go_ret
    go_light
    refine ⟨by rw [HR.out]; have := ml.out; have := ms.out; first | rfl | (congr 2; omega) | (simp; done) | (congr 2; simp; omega), ?_⟩
    have sg1 := g1.2
    have sg2 := g2.2
    have sg3 := g3.2
    have sg4 := g4.2
    have sg6 := g6.2
    simp at sg1 sg2 sg3 sg4 sg6
    repeat (first | exact Grew.refl _ | refine Grew.drew ?_ | refine Grew.drewN ?_ _ | refine Grew.alloc ?_ _ | refine Grew.set ?_ (by first | (simp; done) | (simp; omega) | omega) _ | refine Grew.trans ?_ g1 | refine Grew.trans ?_ g2 | refine Grew.trans ?_ g3 | refine Grew.trans ?_ g4 | refine Grew.trans ?_ g6 | assumption)
set_option maxRecDepth 100000 in
set_option maxHeartbeats 2000000 in
theorem Rd2_p_Pn1T5 (H L M h : Nat) (g : Int) (m mm hb : Bool) (e lg drop R : Int) (w : World) (e0 : -5000 ≤ e) (e1 : e ≤ 5000) (l0 : 0 ≤ lg) (l1 : lg ≤ 128)
    (hd : Hid (drop = max (lg - 53) (-1074 - e))) (d0 : -6000 ≤ drop) (d1 : drop ≤ 6000) (dp : 0 < drop) (hz : ¬ (H = 0 ∧ L = 0)) (bm : (bits .and .u64 (h : Int) 1 == 1) = false) (ml : Hid (M < 9007199254740992)) (mb : M < 9007199254740993) (ms : Hid (4503599627370496 ≤ M)) (x1 : 2047 ≤ e + drop + 1075) (HR : Hid (R = 9218868437227405312))
    (Lg : CG 97 #[.agg #[.int .u64 (H : Int), .int .u64 (L : Int), .bool m]] (.int .i64 lg))
    (Bi : CG 98 #[.agg #[.int .i64 52, .int .i64 11]] (.int .i64 1075))
    (If : CG 64 #[.agg #[.int .i64 52, .int .i64 11]] (.int .u64 9218868437227405312))
    (R1 : CG 93 #[.agg #[.int .u64 (H : Int), .int .u64 (L : Int), .bool m], .int .i64 drop] (.agg #[.int .u64 0, .int .u64 (M : Int), .bool mm]))
    (R2 : CG 93 #[.agg #[.int .u64 (H : Int), .int .u64 (L : Int), .bool m], .int .i64 (drop - 1)] (.agg #[.int .u64 g, .int .u64 (h : Int), .bool hb])) :
    Calls Tryd.prog 79 #[.agg #[.int .i64 52, .int .i64 11], .bool false, .agg #[.int .u64 (H : Int), .int .u64 (L : Int), .bool m], .int .i64 e] w fun e w' => e = .returned (.int .u64 R) ∧ Grew w w' := by
  have hdrop : (if IntKind.i64.wrap (IntKind.i64.wrap (lg - 52) - 1) < IntKind.i64.wrap (IntKind.i64.wrap (-1074) - e) then IntKind.i64.wrap (IntKind.i64.wrap (-1074) - e) else IntKind.i64.wrap (IntKind.i64.wrap (lg - 52) - 1)) = drop := by
    have := hd.out
    simp only [IntKind.wrap_i64]
    split <;> omega
  have hzc : ((H : Int) == 0) = false ∨ ((H : Int) == 0) = true ∧ ((L : Int) == 0) = false := by
    by_cases c : (H : Int) = 0
    · exact Or.inr ⟨beq_iff_eq.2 c, beq_eq_false_iff_ne.2 (by omega)⟩
    · exact Or.inl (beq_eq_false_iff_ne.2 c)
  have HZC : Hid (((H : Int) == 0) = false ∨ ((H : Int) == 0) = true ∧ ((L : Int) == 0) = false) := hzc
  clear hz hzc
  have q1 : ((M : Int) / 9007199254740992 == 1) = false := beq_eq_false_iff_ne.2 (by have := ml.out; omega)
  have q4 : ((M : Int) / 4503599627370496 == 0) = false := beq_eq_false_iff_ne.2 (by have := ms.out; omega)
  go_enter Tryd.func79, Tryd.ntmps79
  go_wp2_with fail
  go_region_held3 (fun w' => w'.cell? ⟨w.heap.size, 0, none⟩ = some (.int .i64 52) ∧ w'.cell? ⟨w.heap.size, 1, none⟩ = some (.int .i64 11) ∧ w'.cell? ⟨w.heap.size + 1, 0, none⟩ = some (.int .u64 (H : Int)) ∧ w'.cell? ⟨w.heap.size + 1, 1, none⟩ = some (.int .u64 (L : Int)) ∧ w'.cell? ⟨w.heap.size + 1, 2, none⟩ = some (.bool m)) (go_keep)
    (first
    | (go_at_call 97; refine (Lg.out _).mono ?_; rintro e w1 ⟨rfl, g1⟩; obtain ⟨l1_0, h1_0_0, h1_0_1⟩ := g1.c2 (w.heap.size) (.int .i64 52) (.int .i64 11); obtain ⟨l1_1, h1_1_0, h1_1_1, h1_1_2⟩ := g1.c3 (w.heap.size + 1) (.int .u64 (H : Int)) (.int .u64 (L : Int)) (.bool m))
    | (go_at_call 98; refine (Bi.out _).mono ?_; rintro e w2 ⟨rfl, g2⟩; obtain ⟨l2_0, h2_0_0, h2_0_1⟩ := g2.c2 (w.heap.size) (.int .i64 52) (.int .i64 11); obtain ⟨l2_1, h2_1_0, h2_1_1, h2_1_2⟩ := g2.c3 (w.heap.size + 1) (.int .u64 (H : Int)) (.int .u64 (L : Int)) (.bool m)))
  all_goals (try simp only [hdrop])
  all_goals go_wp2_with fail
  refine (R1.out _).mono ?_
  rintro e w3 ⟨rfl, g3⟩
  obtain ⟨l3_0, h3_0_0, h3_0_1⟩ := g3.c2 (w.heap.size) (.int .i64 52) (.int .i64 11)
  obtain ⟨l3_1, h3_1_0, h3_1_1, h3_1_2⟩ := g3.c3 (w.heap.size + 1) (.int .u64 (H : Int)) (.int .u64 (L : Int)) (.bool m)
  rcases HZC.out with c1 | ⟨c1, c2⟩
  · go_wp2_with fail
    refine (R2.out _).mono ?_
    rintro e w4 ⟨rfl, g4⟩
    obtain ⟨l4_0, h4_0_0, h4_0_1⟩ := g4.c2 (w.heap.size) (.int .i64 52) (.int .i64 11)
    obtain ⟨l4_1, h4_1_0, h4_1_1, h4_1_2⟩ := g4.c3 (w.heap.size + 1) (.int .u64 (H : Int)) (.int .u64 (L : Int)) (.bool m)
    obtain ⟨l4_2, q4_2⟩ := g4.blk (B := w3.heap.size) (by first | (simp; done) | (simp; omega) | omega)
    have h4_2_0 := q4_2.out 0 (.int .u64 0) (by go_simp)
    have z4_2_0 : w4.frozen? ⟨w3.heap.size, 0, none⟩ = false := (by rw [g4.1.frozen (by first | (simp; done) | (simp; omega) | omega)]; go_simp)
    have h4_2_1 := q4_2.out 1 (.int .u64 (M : Int)) (by go_simp)
    have z4_2_1 : w4.frozen? ⟨w3.heap.size, 1, none⟩ = false := (by rw [g4.1.frozen (by first | (simp; done) | (simp; omega) | omega)]; go_simp)
    have h4_2_2 := q4_2.out 2 (.bool mm) (by go_simp)
    have z4_2_2 : w4.frozen? ⟨w3.heap.size, 2, none⟩ = false := (by rw [g4.1.frozen (by first | (simp; done) | (simp; omega) | omega)]; go_simp)
    go_wp2_with fail
    refine (Bi.out _).mono ?_
    rintro e w6 ⟨rfl, g6⟩
    obtain ⟨l6_0, h6_0_0, h6_0_1⟩ := g6.c2 (w.heap.size) (.int .i64 52) (.int .i64 11)
    obtain ⟨l6_1, h6_1_0, h6_1_1, h6_1_2⟩ := g6.c3 (w.heap.size + 1) (.int .u64 (H : Int)) (.int .u64 (L : Int)) (.bool m)
    go_wp2_with fail
    refine (If.out _).mono ?_
    rintro e w7 ⟨rfl, g7⟩
    go_wp2
    go_ret
    go_light
    refine ⟨by rw [HR.out]; have := ml.out; have := ms.out; first | rfl | (congr 2; omega) | (simp; done) | (congr 2; simp; omega), ?_⟩
    have sg1 := g1.2
    have sg2 := g2.2
    have sg3 := g3.2
    have sg4 := g4.2
    have sg6 := g6.2
    have sg7 := g7.2
    simp at sg1 sg2 sg3 sg4 sg6 sg7
    repeat (first | exact Grew.refl _ | refine Grew.drew ?_ | refine Grew.drewN ?_ _ | refine Grew.alloc ?_ _ | refine Grew.set ?_ (by first | (simp; done) | (simp; omega) | omega) _ | refine Grew.trans ?_ g1 | refine Grew.trans ?_ g2 | refine Grew.trans ?_ g3 | refine Grew.trans ?_ g4 | refine Grew.trans ?_ g6 | refine Grew.trans ?_ g7 | assumption)
  · go_wp2_with fail
    refine (R2.out _).mono ?_
    rintro e w4 ⟨rfl, g4⟩
    obtain ⟨l4_0, h4_0_0, h4_0_1⟩ := g4.c2 (w.heap.size) (.int .i64 52) (.int .i64 11)
    obtain ⟨l4_1, h4_1_0, h4_1_1, h4_1_2⟩ := g4.c3 (w.heap.size + 1) (.int .u64 (H : Int)) (.int .u64 (L : Int)) (.bool m)
    obtain ⟨l4_2, q4_2⟩ := g4.blk (B := w3.heap.size) (by first | (simp; done) | (simp; omega) | omega)
    have h4_2_0 := q4_2.out 0 (.int .u64 0) (by go_simp)
    have z4_2_0 : w4.frozen? ⟨w3.heap.size, 0, none⟩ = false := (by rw [g4.1.frozen (by first | (simp; done) | (simp; omega) | omega)]; go_simp)
    have h4_2_1 := q4_2.out 1 (.int .u64 (M : Int)) (by go_simp)
    have z4_2_1 : w4.frozen? ⟨w3.heap.size, 1, none⟩ = false := (by rw [g4.1.frozen (by first | (simp; done) | (simp; omega) | omega)]; go_simp)
    have h4_2_2 := q4_2.out 2 (.bool mm) (by go_simp)
    have z4_2_2 : w4.frozen? ⟨w3.heap.size, 2, none⟩ = false := (by rw [g4.1.frozen (by first | (simp; done) | (simp; omega) | omega)]; go_simp)
    go_wp2_with fail
    refine (Bi.out _).mono ?_
    rintro e w6 ⟨rfl, g6⟩
    obtain ⟨l6_0, h6_0_0, h6_0_1⟩ := g6.c2 (w.heap.size) (.int .i64 52) (.int .i64 11)
    obtain ⟨l6_1, h6_1_0, h6_1_1, h6_1_2⟩ := g6.c3 (w.heap.size + 1) (.int .u64 (H : Int)) (.int .u64 (L : Int)) (.bool m)
    go_wp2_with fail
    refine (If.out _).mono ?_
    rintro e w7 ⟨rfl, g7⟩
    go_wp2
    go_ret
    go_light
    refine ⟨by rw [HR.out]; have := ml.out; have := ms.out; first | rfl | (congr 2; omega) | (simp; done) | (congr 2; simp; omega), ?_⟩
    have sg1 := g1.2
    have sg2 := g2.2
    have sg3 := g3.2
    have sg4 := g4.2
    have sg6 := g6.2
    have sg7 := g7.2
    simp at sg1 sg2 sg3 sg4 sg6 sg7
    repeat (first | exact Grew.refl _ | refine Grew.drew ?_ | refine Grew.drewN ?_ _ | refine Grew.alloc ?_ _ | refine Grew.set ?_ (by first | (simp; done) | (simp; omega) | omega) _ | refine Grew.trans ?_ g1 | refine Grew.trans ?_ g2 | refine Grew.trans ?_ g3 | refine Grew.trans ?_ g4 | refine Grew.trans ?_ g6 | refine Grew.trans ?_ g7 | assumption)
end Go.Proofs.YtjkebimmddlccaaDoor
