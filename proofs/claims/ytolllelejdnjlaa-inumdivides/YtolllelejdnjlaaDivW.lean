/-
  The walk of InumDivides; no statement is proved here.
-/
import Derived.Test.YtolllelejdnjlaaOrdM
import Derived.BigQuiet
namespace Go.Proofs.Ytolllelejdnjlaa
open Go.RowKit
set_option linter.unusedVariables false
set_option linter.unusedSimpArgs false

set_option maxRecDepth 100000 in
theorem two_1 (place a b x y : Int) (w : World) (p0 : 0 ≤ place) (p1 : place ≤ 17)
    (C : Hid (∀ w : World, Calls Try.prog 16 #[.int .i64 (103 + place), .int .u64 a, .int .u64 b] w fun e w' => e = .returned (.tuple #[.int .u64 x, .int .i64 y]) ∧ Grew w w')) :
    Calls Try.prog 18 #[.bool false, .int .i64 place, .int .u64 a, .int .u64 b] w fun e w' => e = .returned (.tuple #[.int .u64 x, .int .i64 y]) ∧ Grew w w' := by
  go_enter Try.func18, Try.ntmps18
  go_wp2_with fail
  refine (C.out _).mono ?_
  rintro e w1 ⟨rfl, g1⟩
  have G1 : Hid (Grew w w1) := g1
  clear g1
  go_wp2_with fail
  go_ret2
  exact ⟨rfl, G1.out⟩
set_option maxRecDepth 100000 in
theorem two_2 (place a b x y : Int) (w : World) (p0 : 0 ≤ place) (p1 : place ≤ 17)
    (C : Hid (∀ w : World, Calls Try.prog 16 #[.int .i64 (121 + place), .int .u64 a, .int .u64 b] w fun e w' => e = .returned (.tuple #[.int .u64 x, .int .i64 y]) ∧ Grew w w')) :
    Calls Try.prog 18 #[.bool true, .int .i64 place, .int .u64 a, .int .u64 b] w fun e w' => e = .returned (.tuple #[.int .u64 x, .int .i64 y]) ∧ Grew w w' := by
  go_enter Try.func18, Try.ntmps18
  go_wp2_with fail
  refine (C.out _).mono ?_
  rintro e w1 ⟨rfl, g1⟩
  have G1 : Hid (Grew w w1) := g1
  clear g1
  go_wp2_with fail
  go_ret2
  exact ⟨rfl, G1.out⟩
set_option maxRecDepth 100000 in
theorem lcut_1 (a : Int) (w : World) (h0 : 0 ≤ a) : Calls Try.prog 19 #[.bool false, .int .u64 a] w fun e w' => e = .returned (.int .u64 (ct 1 a)) ∧ w' = w := by
  show Calls Try.prog 19 #[.bool false, .int .u64 a] w fun e w' => e = .returned (.int .u64 (a % 4294967296)) ∧ w' = w
  go_enter Try.func19, Try.ntmps19
  go_wp2
  go_ret
  exact ⟨rfl, rfl⟩
theorem lcut_2 (a : Int) (w : World) : Calls Try.prog 19 #[.bool true, .int .u64 a] w fun e w' => e = .returned (.int .u64 (ct 2 a)) ∧ w' = w := by
  show Calls Try.prog 19 #[.bool true, .int .u64 a] w fun e w' => e = .returned (.int .u64 a) ∧ w' = w
  go_enter Try.func19, Try.ntmps19
  go_wp2
  go_ret
  exact ⟨rfl, rfl⟩
set_option maxRecDepth 100000 in
set_option maxHeartbeats 2000000 in
theorem div_x (wide : Bool) (a b A B Q0 E0 M0 F0 P0 S0 U0 V0 Q1 E1 M1 F1 P1 S1 U1 V1 : Int) (w : World) (H0 : Hid ((B = 0 ∧ E0 = 30 ∧ F0 = 30) ∨ (B ≠ 0 ∧ F0 = 0 ∧ E0 = 31 ∧ M0 = 0) ∨ (B ≠ 0 ∧ F0 = 0 ∧ E0 = 0 ∧ S0 = A))) (H1 : Hid ((B = 0 ∧ E1 = 30 ∧ F1 = 30) ∨ (B ≠ 0 ∧ F1 = 0 ∧ E1 = 0 ∧ S1 = A)))
    (T60 : Hid (∀ w : World, Calls Try.prog 18 #[.bool wide, .int .i64 6, .int .u64 a, .int .u64 b] w fun e w' => e = .returned (.tuple #[.int .u64 Q0, .int .i64 E0]) ∧ Grew w w'))
    (T80 : Hid (∀ w : World, Calls Try.prog 18 #[.bool wide, .int .i64 8, .int .u64 a, .int .u64 b] w fun e w' => e = .returned (.tuple #[.int .u64 M0, .int .i64 F0]) ∧ Grew w w'))
    (T50 : Hid (∀ w : World, Calls Try.prog 18 #[.bool wide, .int .i64 5, .int .u64 Q0, .int .u64 b] w fun e w' => e = .returned (.tuple #[.int .u64 P0, .int .i64 U0]) ∧ Grew w w'))
    (T30 : Hid (∀ w : World, Calls Try.prog 18 #[.bool wide, .int .i64 3, .int .u64 P0, .int .u64 M0] w fun e w' => e = .returned (.tuple #[.int .u64 S0, .int .i64 V0]) ∧ Grew w w'))
    (T61 : Hid (∀ w : World, Calls Try.prog 18 #[.bool wide, .int .i64 7, .int .u64 a, .int .u64 b] w fun e w' => e = .returned (.tuple #[.int .u64 Q1, .int .i64 E1]) ∧ Grew w w'))
    (T81 : Hid (∀ w : World, Calls Try.prog 18 #[.bool wide, .int .i64 9, .int .u64 a, .int .u64 b] w fun e w' => e = .returned (.tuple #[.int .u64 M1, .int .i64 F1]) ∧ Grew w w'))
    (T51 : Hid (∀ w : World, Calls Try.prog 18 #[.bool wide, .int .i64 5, .int .u64 Q1, .int .u64 b] w fun e w' => e = .returned (.tuple #[.int .u64 P1, .int .i64 U1]) ∧ Grew w w'))
    (T31 : Hid (∀ w : World, Calls Try.prog 18 #[.bool wide, .int .i64 3, .int .u64 P1, .int .u64 M1] w fun e w' => e = .returned (.tuple #[.int .u64 S1, .int .i64 V1]) ∧ Grew w w'))
    (CA : Hid (∀ w : World, Calls Try.prog 19 #[.bool wide, .int .u64 a] w fun e w' => e = .returned (.int .u64 A) ∧ w' = w))
    (CB : Hid (∀ w : World, Calls Try.prog 19 #[.bool wide, .int .u64 b] w fun e w' => e = .returned (.int .u64 B) ∧ w' = w))
 :
    Calls Try.prog 6 #[.bool wide, .int .u64 a, .int .u64 b] w fun e w' => e = .returned (.bool true) ∧ Grew w w' := by
  have G0 : Hid (Grew w w) := Grew.refl w
  go_enter Try.func6, Try.ntmps6
  go_wp2_with fail
  go_loopw [7] (fun i wr => (i = .int .i64 0 ∨ i = .int .i64 1 ∨ i = .int .i64 2) ∧ Grew w wr) (fun i _ => 2 - (intOf i).toNat)
  case atStart => exact ⟨Or.inl rfl, G0.out⟩
  case round =>
    obtain ⟨hi, hg⟩ := hrel
    have G : Hid (Grew w wr) := hg
    clear hg G0
    rcases hi with rfl | rfl | rfl
    · go_wp2_with fail
      refine (T60.out _).mono ?_
      rintro e w1 ⟨rfl, g1⟩
      have G1 : Hid (Grew w w1) := G.out.trans g1
      clear g1
      go_wp2_with fail
      refine (T80.out _).mono ?_
      rintro e w2 ⟨rfl, g2⟩
      have G2 : Hid (Grew w w2) := G1.out.trans g2
      clear g2
      go_wp2_with fail
      refine (CB.out _).mono ?_
      rintro e w2' ⟨rfl, hw⟩
      obtain rfl := hw.symm
      rcases H0.out with ⟨hB, rfl, rfl⟩ | ⟨hB, rfl, rfl, rfl⟩ | ⟨hB, rfl, rfl, hS⟩
      · have hb : (B == 0) = true := beq_iff_eq.2 hB
        clear hB
        go_wp2_with fail
        go_roundw
        case rel => exact ⟨by simp, G2.out⟩
        case measure => simp [intOf]
      · have hb : (B == 0) = false := beq_eq_false_iff_ne.2 hB
        clear hB
        go_wp2_with fail
        go_roundw
        case rel => exact ⟨by simp, G2.out⟩
        case measure => simp [intOf]
      · have hb : (B == 0) = false := beq_eq_false_iff_ne.2 hB
        have HS : Hid (S0 = A) := hS
        clear hB hS
        go_wp2_with fail
        refine (T50.out _).mono ?_
        rintro e w3 ⟨rfl, g3⟩
        have G3 : Hid (Grew w w3) := G2.out.trans g3
        clear g3
        go_wp2_with fail
        refine (T30.out _).mono ?_
        rintro e w4 ⟨rfl, g4⟩
        have G4 : Hid (Grew w w4) := G3.out.trans g4
        clear g4
        go_wp2_with fail
        refine (CA.out _).mono ?_
        rintro e w5 ⟨rfl, hw⟩
        obtain rfl := hw.symm
        have hs : (S0 != A) = false := by rw [HS.out]; simp
        go_wp2_with fail
        go_roundw
        case rel => exact ⟨by simp, G4.out⟩
        case measure => simp [intOf]
    · go_wp2_with fail
      refine (T61.out _).mono ?_
      rintro e w1 ⟨rfl, g1⟩
      have G1 : Hid (Grew w w1) := G.out.trans g1
      clear g1
      go_wp2_with fail
      refine (T81.out _).mono ?_
      rintro e w2 ⟨rfl, g2⟩
      have G2 : Hid (Grew w w2) := G1.out.trans g2
      clear g2
      go_wp2_with fail
      refine (CB.out _).mono ?_
      rintro e w2' ⟨rfl, hw⟩
      obtain rfl := hw.symm
      rcases H1.out with ⟨hB, rfl, rfl⟩ | ⟨hB, rfl, rfl, hS⟩
      · have hb : (B == 0) = true := beq_iff_eq.2 hB
        clear hB
        go_wp2_with fail
        go_roundw
        case rel => exact ⟨by simp, G2.out⟩
        case measure => simp [intOf]
      · have hb : (B == 0) = false := beq_eq_false_iff_ne.2 hB
        have HS : Hid (S1 = A) := hS
        clear hB hS
        go_wp2_with fail
        refine (T51.out _).mono ?_
        rintro e w3 ⟨rfl, g3⟩
        have G3 : Hid (Grew w w3) := G2.out.trans g3
        clear g3
        go_wp2_with fail
        refine (T31.out _).mono ?_
        rintro e w4 ⟨rfl, g4⟩
        have G4 : Hid (Grew w w4) := G3.out.trans g4
        clear g4
        go_wp2_with fail
        refine (CA.out _).mono ?_
        rintro e w5 ⟨rfl, hw⟩
        obtain rfl := hw.symm
        have hs : (S1 != A) = false := by rw [HS.out]; simp
        go_wp2_with fail
        go_roundw
        case rel => exact ⟨by simp, G4.out⟩
        case measure => simp [intOf]
    · go_wp2_with fail
      go_ret
      exact ⟨rfl, G.out⟩
end Go.Proofs.Ytolllelejdnjlaa
