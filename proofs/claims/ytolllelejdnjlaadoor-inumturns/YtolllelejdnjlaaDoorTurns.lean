/-
  Proved: for every two values, both widths, InumTurns returns true, and the arguments read as before: turning to the left and to the right by as many bits undo one another, and no bit is lost. Condition: a table of the library (math/bits.deBruijn64tab) starts as its text lays it; the card ties that to the text (the pruned copy of the project).
-/
import Derived.Test.YtolllelejdnjlaaDoorCards
import Derived.Test.YtolllelejdnjlaaDoorTie
import Derived.Test.YtolllelejdnjlaaDoorTurnM
import Derived.Test.YtolllelejdnjlaaDoorUna2
import Derived.Test.YtolllelejdnjlaaDoorOnes
import Derived.Deep.DeepHandedRow
import Derived.Lib.LaidTab
namespace Go.Proofs.YtolllelejdnjlaaDoor
open Go.RowKit
set_option linter.unusedVariables false
set_option linter.unusedSimpArgs false

set_option maxRecDepth 100000 in
theorem two_1 (place a b x y : Int) (w : World) (p0 : 0 ≤ place) (p1 : place ≤ 17)
    (C : Hid (∀ w : World, Calls Tryd.prog 16 #[.int .i64 (103 + place), .int .u64 a, .int .u64 b] w fun e w' => e = .returned (.tuple #[.int .u64 x, .int .i64 y]) ∧ Grew w w')) :
    Calls Tryd.prog 9 #[.bool false, .int .i64 place, .int .u64 a, .int .u64 b] w fun e w' => e = .returned (.tuple #[.int .u64 x, .int .i64 y]) ∧ Grew w w' := by
  go_enter Tryd.func9, Tryd.ntmps9
  go_wp2_with fail
  refine (C.out _).mono ?_
  rintro e w1 ⟨rfl, g1⟩
  have G1 : Hid (Grew w w1) := g1
  clear g1
  go_wp2_with fail
  go_ret2
  exact ⟨rfl, G1.out⟩
set_option maxRecDepth 100000 in
theorem two_2 (place a b x y : Int) (w : World) (p0 : 0 ≤ place) (p1 : place ≤ 17)
    (C : Hid (∀ w : World, Calls Tryd.prog 16 #[.int .i64 (121 + place), .int .u64 a, .int .u64 b] w fun e w' => e = .returned (.tuple #[.int .u64 x, .int .i64 y]) ∧ Grew w w')) :
    Calls Tryd.prog 9 #[.bool true, .int .i64 place, .int .u64 a, .int .u64 b] w fun e w' => e = .returned (.tuple #[.int .u64 x, .int .i64 y]) ∧ Grew w w' := by
  go_enter Tryd.func9, Tryd.ntmps9
  go_wp2_with fail
  refine (C.out _).mono ?_
  rintro e w1 ⟨rfl, g1⟩
  have G1 : Hid (Grew w w1) := g1
  clear g1
  go_wp2_with fail
  go_ret2
  exact ⟨rfl, G1.out⟩
set_option maxRecDepth 100000 in
theorem lcut_1 (a : Int) (w : World) (h0 : 0 ≤ a) : Calls Tryd.prog 10 #[.bool false, .int .u64 a] w fun e w' => e = .returned (.int .u64 (ct 1 a)) ∧ w' = w := by
  show Calls Tryd.prog 10 #[.bool false, .int .u64 a] w fun e w' => e = .returned (.int .u64 (a % 4294967296)) ∧ w' = w
  go_enter Tryd.func10, Tryd.ntmps10
  go_wp2
  go_ret
  exact ⟨rfl, rfl⟩
theorem lcut_2 (a : Int) (w : World) : Calls Tryd.prog 10 #[.bool true, .int .u64 a] w fun e w' => e = .returned (.int .u64 (ct 2 a)) ∧ w' = w := by
  show Calls Tryd.prog 10 #[.bool true, .int .u64 a] w fun e w' => e = .returned (.int .u64 a) ∧ w' = w
  go_enter Tryd.func10, Tryd.ntmps10
  go_wp2
  go_ret
  exact ⟨rfl, rfl⟩
set_option maxRecDepth 100000 in
theorem awake_any (w : World) : Calls Tryd.prog 7 #[] w fun e w' => e = .returned (.bool true) ∧ Grew w w' := by
  have B : Hid (∀ w : World, Calls Tryd.prog 16 #[.int .i64 106, .int .u64 2, .int .u64 3] w fun e w' => e = .returned (.tuple #[.int .u64 5, .int .i64 0]) ∧ Grew w w') := fun w => by
    have := Binary_any 106 2 3 w (by decide) (by decide) (by decide) (by decide) (by decide) (by decide)
    rwa [show bv 106 2 3 = (5, 0) from by decide] at this
  go_enter Tryd.func7, Tryd.ntmps7
  go_wp2_with fail
  refine (B.out _).mono ?_
  rintro e w1 ⟨rfl, g1⟩
  have G1 : Hid (Grew w w1) := g1
  clear g1
  go_wp2_with fail
  go_ret
  exact ⟨rfl, G1.out⟩
theorem pop_any (op t a : Int) (w : World) (ht : t = 1 ∨ t = 2) (o0 : -9223372036854775808 ≤ op) (o1 : op ≤ 9223372036854775807) (hk : kd op = 14 ∧ tk op = t ∧ gv op = t) (h0 : 0 ≤ a) (h1 : a < 18446744073709551616) :
    Calls Tryd.prog 5 #[.int .i64 op, .int .u64 a] w fun e w' => e = .returned (.tuple #[.int .u64 ((pc (ct t a).toNat 64 : Nat) : Int), .int .i64 0]) ∧ Grew w w' := by
  have F := fun (w : World) => find_any op w o0 o1
  rw [hk.1, hk.2.1, hk.2.2] at F
  have R := fun (w : World) => arity_any 14 w
  have C := fun (w : World) => cut_u a t w ht
  obtain ⟨a0, a1⟩ := ct_bd ht h0 h1
  have la := ct_lt ht h0 h1
  have hp := pc_le (ct t a).toNat 64
  have O := fun (w : World) => Ones_any (ct t a).toNat w (by omega)
  rw [show (((ct t a).toNat : Nat) : Int) = ct t a from by omega] at O
  have E : ct t ((pc (ct t a).toNat 64 : Nat) : Int) = ((pc (ct t a).toNat 64 : Nat) : Int) := by
    rcases ht with rfl | rfl
    · show _ % 4294967296 = _; omega
    · rfl
  have D := fun (w : World) => cut_u ((pc (ct t a).toNat 64 : Nat) : Int) t w ht
  rw [E] at D
  exact Una_yes op a _ _ _ _ _ _ w F R C (fun w => una_14 _ _ _ _ w (by omega) (by omega) O) D
set_option maxRecDepth 100000 in
set_option maxHeartbeats 1000000 in
theorem turn_x1 (a b c L n : Int) (w : World)
    (T1 : Hid (∀ w : World, Calls Tryd.prog 9 #[.bool false, .int .i64 16, .int .u64 a, .int .u64 b] w fun e w' => e = .returned (.tuple #[.int .u64 L, .int .i64 0]) ∧ Grew w w'))
    (T2 : Hid (∀ w : World, Calls Tryd.prog 9 #[.bool false, .int .i64 17, .int .u64 L, .int .u64 b] w fun e w' => e = .returned (.tuple #[.int .u64 c, .int .i64 0]) ∧ Grew w w'))
    (U1 : Hid (∀ w : World, Calls Tryd.prog 5 #[.int .i64 105, .int .u64 a] w fun e w' => e = .returned (.tuple #[.int .u64 n, .int .i64 0]) ∧ Grew w w'))
    (U2 : Hid (∀ w : World, Calls Tryd.prog 5 #[.int .i64 105, .int .u64 L] w fun e w' => e = .returned (.tuple #[.int .u64 n, .int .i64 0]) ∧ Grew w w'))
    (CC : Hid (∀ w : World, Calls Tryd.prog 10 #[.bool false, .int .u64 a] w fun e w' => e = .returned (.int .u64 c) ∧ w' = w))
    (AA : Hid (∀ w : World, Calls Tryd.prog 7 #[] w fun e w' => e = .returned (.bool true) ∧ Grew w w')) :
    Calls Tryd.prog 4 #[.bool false, .int .u64 a, .int .u64 b] w fun e w' => e = .returned (.bool true) ∧ Grew w w' := by
  go_enter Tryd.func4, Tryd.ntmps4
  go_wp2_with fail
  refine (T1.out _).mono ?_
  rintro e w0 ⟨rfl, g0⟩
  have G0 : Hid (Grew w w0) := g0
  clear g0
  go_wp2_with fail
  refine (T2.out _).mono ?_
  rintro e w1 ⟨rfl, g1⟩
  have G1 : Hid (Grew w w1) := G0.out.trans g1
  clear g1
  go_wp2_with fail
  refine (U1.out _).mono ?_
  rintro e w2 ⟨rfl, g2⟩
  have G2 : Hid (Grew w w2) := G1.out.trans g2
  clear g2
  go_wp2_with fail
  refine (U2.out _).mono ?_
  rintro e w3 ⟨rfl, g3⟩
  have G3 : Hid (Grew w w3) := G2.out.trans g3
  clear g3
  go_wp2_with fail
  refine (CC.out _).mono ?_
  rintro e w4 ⟨rfl, hw⟩
  obtain rfl := hw.symm
  have hcc : (c == c) = true := by simp
  have hnn : (n == n) = true := by simp
  go_wp2_with fail
  refine (AA.out _).mono ?_
  rintro e w5 ⟨rfl, g5⟩
  have G5 : Hid (Grew w w5) := G3.out.trans g5
  clear g5
  go_wp2_with fail
  go_ret
  exact ⟨rfl, G5.out⟩
theorem turn_1 (a b : Int) (w : World) (h0 : 0 ≤ a) (h1 : a < 18446744073709551616) (h2 : 0 ≤ b) (h3 : b < 18446744073709551616) :
    Calls Tryd.prog 4 #[.bool false, .int .u64 a, .int .u64 b] w fun e w' => e = .returned (.bool true) ∧ Grew w w' := by
  have ht : (1 : Int) = 1 ∨ (1 : Int) = 2 := by decide
  obtain ⟨L, e1, e2, hL, hpc, hct⟩ := turns (l := 119) (r := 120) a b ht h0 h1 h2 h3 (by decide) (by decide)
  have T1 := fun (w : World) => two_1 16 a b _ _ w (by decide) (by decide) (fun w => Binary_any (103 + 16) a b w (by decide) (by decide) h0 h1 h2 h3)
  rw [show ((103 : Int) + 16) = 119 from rfl, e1] at T1
  have T2 := fun (w : World) => two_1 17 (L : Int) b _ _ w (by decide) (by decide) (fun w => Binary_any (103 + 17) (L : Int) b w (by decide) (by decide) (by omega) (by omega) h2 h3)
  rw [show ((103 : Int) + 17) = 120 from rfl, e2] at T2
  have U1 := fun (w : World) => pop_any 105 1 a w ht (by decide) (by decide) (by decide) h0 h1
  have U2 := fun (w : World) => pop_any 105 1 (L : Int) w ht (by decide) (by decide) (by decide) (by omega) (by omega)
  rw [hct, Int.toNat_natCast, hpc] at U2
  exact turn_x1 a b _ _ _ w T1 T2 U1 U2 (fun w => lcut_1 a w h0) awake_any
set_option maxRecDepth 100000 in
set_option maxHeartbeats 1000000 in
theorem turn_x2 (a b c L n : Int) (w : World)
    (T1 : Hid (∀ w : World, Calls Tryd.prog 9 #[.bool true, .int .i64 16, .int .u64 a, .int .u64 b] w fun e w' => e = .returned (.tuple #[.int .u64 L, .int .i64 0]) ∧ Grew w w'))
    (T2 : Hid (∀ w : World, Calls Tryd.prog 9 #[.bool true, .int .i64 17, .int .u64 L, .int .u64 b] w fun e w' => e = .returned (.tuple #[.int .u64 c, .int .i64 0]) ∧ Grew w w'))
    (U1 : Hid (∀ w : World, Calls Tryd.prog 5 #[.int .i64 123, .int .u64 a] w fun e w' => e = .returned (.tuple #[.int .u64 n, .int .i64 0]) ∧ Grew w w'))
    (U2 : Hid (∀ w : World, Calls Tryd.prog 5 #[.int .i64 123, .int .u64 L] w fun e w' => e = .returned (.tuple #[.int .u64 n, .int .i64 0]) ∧ Grew w w'))
    (CC : Hid (∀ w : World, Calls Tryd.prog 10 #[.bool true, .int .u64 a] w fun e w' => e = .returned (.int .u64 c) ∧ w' = w))
    (AA : Hid (∀ w : World, Calls Tryd.prog 7 #[] w fun e w' => e = .returned (.bool true) ∧ Grew w w')) :
    Calls Tryd.prog 4 #[.bool true, .int .u64 a, .int .u64 b] w fun e w' => e = .returned (.bool true) ∧ Grew w w' := by
  go_enter Tryd.func4, Tryd.ntmps4
  go_wp2_with fail
  refine (T1.out _).mono ?_
  rintro e w0 ⟨rfl, g0⟩
  have G0 : Hid (Grew w w0) := g0
  clear g0
  go_wp2_with fail
  refine (T2.out _).mono ?_
  rintro e w1 ⟨rfl, g1⟩
  have G1 : Hid (Grew w w1) := G0.out.trans g1
  clear g1
  go_wp2_with fail
  refine (U1.out _).mono ?_
  rintro e w2 ⟨rfl, g2⟩
  have G2 : Hid (Grew w w2) := G1.out.trans g2
  clear g2
  go_wp2_with fail
  refine (U2.out _).mono ?_
  rintro e w3 ⟨rfl, g3⟩
  have G3 : Hid (Grew w w3) := G2.out.trans g3
  clear g3
  go_wp2_with fail
  refine (CC.out _).mono ?_
  rintro e w4 ⟨rfl, hw⟩
  obtain rfl := hw.symm
  have hcc : (c == c) = true := by simp
  have hnn : (n == n) = true := by simp
  go_wp2_with fail
  refine (AA.out _).mono ?_
  rintro e w5 ⟨rfl, g5⟩
  have G5 : Hid (Grew w w5) := G3.out.trans g5
  clear g5
  go_wp2_with fail
  go_ret
  exact ⟨rfl, G5.out⟩
theorem turn_2 (a b : Int) (w : World) (h0 : 0 ≤ a) (h1 : a < 18446744073709551616) (h2 : 0 ≤ b) (h3 : b < 18446744073709551616) :
    Calls Tryd.prog 4 #[.bool true, .int .u64 a, .int .u64 b] w fun e w' => e = .returned (.bool true) ∧ Grew w w' := by
  have ht : (2 : Int) = 1 ∨ (2 : Int) = 2 := by decide
  obtain ⟨L, e1, e2, hL, hpc, hct⟩ := turns (l := 137) (r := 138) a b ht h0 h1 h2 h3 (by decide) (by decide)
  have T1 := fun (w : World) => two_2 16 a b _ _ w (by decide) (by decide) (fun w => Binary_any (121 + 16) a b w (by decide) (by decide) h0 h1 h2 h3)
  rw [show ((121 : Int) + 16) = 137 from rfl, e1] at T1
  have T2 := fun (w : World) => two_2 17 (L : Int) b _ _ w (by decide) (by decide) (fun w => Binary_any (121 + 17) (L : Int) b w (by decide) (by decide) (by omega) (by omega) h2 h3)
  rw [show ((121 : Int) + 17) = 138 from rfl, e2] at T2
  have U1 := fun (w : World) => pop_any 123 2 a w ht (by decide) (by decide) (by decide) h0 h1
  have U2 := fun (w : World) => pop_any 123 2 (L : Int) w ht (by decide) (by decide) (by decide) (by omega) (by omega)
  rw [hct, Int.toNat_natCast, hpc] at U2
  exact turn_x2 a b _ _ _ w T1 T2 U1 U2 (fun w => lcut_2 a w) awake_any
theorem turns_walk (wide : Bool) (a b : Int) (w : World) (h0 : 0 ≤ a) (h1 : a < 18446744073709551616) (h2 : 0 ≤ b) (h3 : b < 18446744073709551616) :
    Calls Tryd.prog 4 #[.bool wide, .int .u64 a, .int .u64 b] w fun e w' => e = .returned (.bool true) ∧ Grew w w' := by
  cases wide
  · exact turn_1 a b w h0 h1 h2 h3
  · exact turn_2 a b w h0 h1 h2 h3
end Go.Proofs.YtolllelejdnjlaaDoor
namespace Go.Proofs.YtolllelejdnjlaaDoor.inumTurns
open Go.ChangeShapes Go.WideShapes Go.ChangeAt Go.RowKit
set_option linter.unusedVariables false

theorem own : ownKnob Tryd.prog.godebug = none := by kernel_rfl
theorem gTab : Tryd.prog.globalNamed "math/bits.deBruijn64tab" = some 0 := by kernel_rfl
theorem gTabType : (Tryd.prog.globals[0]?).map (·.type) = some 56 := by kernel_rfl
theorem cellsT : Tryd.prog.cellsOf 56 = 64 := by kernel_rfl
theorem cellsE : Tryd.prog.cellsOf 5 = 1 := by kernel_rfl
/- What the row's list gives: the table's cells hold its numbers. -/
theorem table {W : World} (h : laidMetH Tryd.prog Rows.inumTurnsRow.laid W) : Lib.TabIs Tryd.prog W "math/bits.deBruijn64tab" .u8 [0, 1, 56, 2, 57, 49, 28, 3, 61, 58, 42, 50, 38, 29, 17, 4, 62, 47, 59, 36, 45, 43, 51, 22, 53, 39, 33, 30, 24, 18, 12, 5, 63, 55, 48, 27, 60, 41, 37, 16, 46, 35, 44, 21, 52, 32, 23, 11, 54, 26, 40, 15, 34, 20, 31, 10, 25, 14, 19, 9, 13, 8, 7, 6] :=
  Lib.tabIs_of_head (rest := []) gTab gTabType Tryd.underlying56 Tryd.underlying5 cellsE cellsT h
theorem contract (H : Type) (enc : TypeId × Value → H) (W : World) (base : Nat) (args : Array Value) (ds gs : List (DataW H)) (before : List MemPlace)
    (hval : ∀ (j : Nat) t v, Tryd.f4.params[j]? = some t → args[j]? = some v → Value.okWide Tryd.prog W .any base t v)
    (hW : DataW.Whole enc Tryd.prog Tryd.f4.params.toList Rows.inumTurnsSpec.vars false W args.toList ds gs before) (hL : laidMetH Tryd.prog Rows.inumTurnsRow.laid W) :
    Calls Tryd.prog 4 args W fun e W' => ∃ v, e = .returned v ∧ Rows.inumTurnsSpec.post enc Tryd.prog Tryd.f4 false true false false W args v W' := by
  have hW' := hW
  obtain ⟨p, q, hA0, hV, rfl, hfz, hnd⟩ := hW
  have hA : DataW.TrodAll enc Tryd.prog W 0 (fun _ => true) true Tryd.f4.params.toList args.toList ds p := hA0
  rw [Tryd.params4] at hA hval
  obtain ⟨v0, vs0, d0, ds0, p0, q0, hargs, rfl, rfl, h0, r0⟩ := trodAll_cons hA
  obtain ⟨v1, vs1, d1, ds1, p1, q1, rfl, rfl, rfl, h1, r1⟩ := trodAll_cons r0
  obtain ⟨v2, vs2, d2, ds2, p2, q2, rfl, rfl, rfl, h2, r2⟩ := trodAll_cons r1
  obtain ⟨rfl, rfl, rfl⟩ := trodAll_nil r2
  obtain rfl : args = #[v0, v1, v2] := by cases args; simp_all
  obtain ⟨rfl, rfl⟩ := trodVars_none hV
  obtain ⟨a0, rfl, rfl, rfl⟩ := open_bool Tryd.underlying4 (hval 0 4 v0 rfl rfl) h0
  obtain ⟨a1, rfl, rfl, rfl, w1⟩ := open_int Tryd.underlying22 (hval 1 22 v1 rfl rfl) h1
  have b1 := bounds_u64 w1
  obtain ⟨a2, rfl, rfl, rfl, w2⟩ := open_int Tryd.underlying22 (hval 2 22 v2 rfl rfl) h2
  have b2 := bounds_u64 w2
  have hT : ∀ j, j < 64 → W.cell? ⟨0, j, none⟩ = some (.int .u8 ([0, 1, 56, 2, 57, 49, 28, 3, 61, 58, 42, 50, 38, 29, 17, 4, 62, 47, 59, 36, 45, 43, 51, 22, 53, 39, 33, 30, 24, 18, 12, 5, 63, 55, 48, 27, 60, 41, 37, 16, 46, 35, 44, 21, 52, 32, 23, 11, 54, 26, 40, 15, 34, 20, 31, 10, 25, 14, 19, 9, 13, 8, 7, 6].getD j 0)) := fun j hj => (table hL).cell gTab j hj
  clear hA0
  refine (turns_walk a0 a1 a2 W (by omega) (by omega) (by omega) (by omega)).mono fun e W' ⟨he, bel⟩ => ?_
  subst he
  exact ⟨_, rfl, _, _, _, [], _, [], hW', trodAll_mk1 (shut_bool Tryd.underlying4 _), (trodAll_cons_mk (shut_bool Tryd.underlying4 a0) (trodAll_cons_mk (shut_int Tryd.underlying22 w1) (trodAll_cons_mk (shut_int Tryd.underlying22 w2) trodAll_mk0))), rfl, bel.1.frame _, fun h => by cases h⟩
theorem laid_met (os : Os) : laidMet Tryd.prog Rows.inumTurnsRow.laid (({ World.holding Tryd.prog os ⟨#[], #[], []⟩ with heap := (World.holding Tryd.prog os ⟨#[], #[], []⟩).heap.modify 0 fun
      | .cells _ t frozen => .cells #[.int .u8 0, .int .u8 1, .int .u8 56, .int .u8 2, .int .u8 57, .int .u8 49, .int .u8 28, .int .u8 3, .int .u8 61, .int .u8 58, .int .u8 42, .int .u8 50, .int .u8 38, .int .u8 29, .int .u8 17, .int .u8 4, .int .u8 62, .int .u8 47, .int .u8 59, .int .u8 36, .int .u8 45, .int .u8 43, .int .u8 51, .int .u8 22, .int .u8 53, .int .u8 39, .int .u8 33, .int .u8 30, .int .u8 24, .int .u8 18, .int .u8 12, .int .u8 5, .int .u8 63, .int .u8 55, .int .u8 48, .int .u8 27, .int .u8 60, .int .u8 41, .int .u8 37, .int .u8 16, .int .u8 46, .int .u8 35, .int .u8 44, .int .u8 21, .int .u8 52, .int .u8 32, .int .u8 23, .int .u8 11, .int .u8 54, .int .u8 26, .int .u8 40, .int .u8 15, .int .u8 34, .int .u8 20, .int .u8 31, .int .u8 10, .int .u8 25, .int .u8 14, .int .u8 19, .int .u8 9, .int .u8 13, .int .u8 8, .int .u8 7, .int .u8 6] t frozen
      | o => o } : World).forCall (fun _ _ => 0) ⟨#[], #[.bool false, .int .u64 0, .int .u64 0], []⟩).memory :=
  laidMet_of_run' 8 (by kernel_rfl) (by kernel_rfl)
theorem reads (os : Os) {H : Type} (enc : TypeId × Value → H) : ∃ places, DataW.whole enc Tryd.prog (({ World.holding Tryd.prog os ⟨#[], #[], []⟩ with heap := (World.holding Tryd.prog os ⟨#[], #[], []⟩).heap.modify 0 fun
      | .cells _ t frozen => .cells #[.int .u8 0, .int .u8 1, .int .u8 56, .int .u8 2, .int .u8 57, .int .u8 49, .int .u8 28, .int .u8 3, .int .u8 61, .int .u8 58, .int .u8 42, .int .u8 50, .int .u8 38, .int .u8 29, .int .u8 17, .int .u8 4, .int .u8 62, .int .u8 47, .int .u8 59, .int .u8 36, .int .u8 45, .int .u8 43, .int .u8 51, .int .u8 22, .int .u8 53, .int .u8 39, .int .u8 33, .int .u8 30, .int .u8 24, .int .u8 18, .int .u8 12, .int .u8 5, .int .u8 63, .int .u8 55, .int .u8 48, .int .u8 27, .int .u8 60, .int .u8 41, .int .u8 37, .int .u8 16, .int .u8 46, .int .u8 35, .int .u8 44, .int .u8 21, .int .u8 52, .int .u8 32, .int .u8 23, .int .u8 11, .int .u8 54, .int .u8 26, .int .u8 40, .int .u8 15, .int .u8 34, .int .u8 20, .int .u8 31, .int .u8 10, .int .u8 25, .int .u8 14, .int .u8 19, .int .u8 9, .int .u8 13, .int .u8 8, .int .u8 7, .int .u8 6] t frozen
      | o => o } : World).forCall (fun _ _ => 0) ⟨#[], #[.bool false, .int .u64 0, .int .u64 0], []⟩).memory Tryd.f4.params.toList Rows.inumTurnsSpec.vars false #[Value.bool false, Value.int .u64 0, Value.int .u64 0].toList 8 = some ([.lit (.bool false), .lit (.int .u64 0), .lit (.int .u64 0)], [], places) :=
  ⟨[], by kernel_rfl⟩
set_option maxRecDepth 100000 in
theorem lifted (os : Os) (started : os.Started) (H : Type) (enc : TypeId × Value → H) (F : Stop.Interp) :
    ReturnsInHanded {} Tryd.checked os 4 .any ((OpenSpec.ofChange Rows.inumTurnsSpec).preRow enc Tryd.prog Tryd.f4 Rows.inumTurnsRow.domain false Rows.inumTurnsRow.laid) (((OpenSpec.ofChange Rows.inumTurnsSpec).at F).post enc Tryd.prog Tryd.f4 false true false false) := by
  obtain ⟨places, hx⟩ := reads os enc
  refine returnsInHanded_of_row (C := Tryd.checked) (s := OpenSpec.ofChange Rows.inumTurnsSpec) own started (by kernel_rfl) Tryd.func4
    (witness_row_at (enc := enc) (C := Tryd.checked) false ({ World.holding Tryd.prog os ⟨#[], #[], []⟩ with heap := (World.holding Tryd.prog os ⟨#[], #[], []⟩).heap.modify 0 fun
      | .cells _ t frozen => .cells #[.int .u8 0, .int .u8 1, .int .u8 56, .int .u8 2, .int .u8 57, .int .u8 49, .int .u8 28, .int .u8 3, .int .u8 61, .int .u8 58, .int .u8 42, .int .u8 50, .int .u8 38, .int .u8 29, .int .u8 17, .int .u8 4, .int .u8 62, .int .u8 47, .int .u8 59, .int .u8 36, .int .u8 45, .int .u8 43, .int .u8 51, .int .u8 22, .int .u8 53, .int .u8 39, .int .u8 33, .int .u8 30, .int .u8 24, .int .u8 18, .int .u8 12, .int .u8 5, .int .u8 63, .int .u8 55, .int .u8 48, .int .u8 27, .int .u8 60, .int .u8 41, .int .u8 37, .int .u8 16, .int .u8 46, .int .u8 35, .int .u8 44, .int .u8 21, .int .u8 52, .int .u8 32, .int .u8 23, .int .u8 11, .int .u8 54, .int .u8 26, .int .u8 40, .int .u8 15, .int .u8 34, .int .u8 20, .int .u8 31, .int .u8 10, .int .u8 25, .int .u8 14, .int .u8 19, .int .u8 9, .int .u8 13, .int .u8 8, .int .u8 7, .int .u8 6] t frozen
      | o => o } : World) #[.bool false, .int .u64 0, .int .u64 0] rfl (by kernel_rfl) (by kernel_rfl) (by kernel_rfl)
      (OpenSpec.preRow_of_cond 8 hx (by kernel_rfl) (fun k hk => by cases hk) (by kernel_rfl) (laid_met os))) ?_
  intro W base args ds gs before hval hW _ _ _ hL _ _
  exact contract H enc W base args ds gs before hval hW hL
theorem said : Rows.InumTurnsSaid :=
  OpenClaim.holds_of_cond 4 Tryd.f4 rfl rfl rfl rfl rfl rfl rfl ⟨rfl, rfl, rfl, rfl, rfl⟩ rfl rfl rfl rfl rfl (by kernel_rfl) Tryd.func4 (by kernel_rfl)
    (of_decide_eq_true (by kernel_rfl)) (by unfold Func.isWrapper; first | (rw [if_pos (by decide +kernel)]; kernel_rfl) | (rw [if_neg (by decide +kernel)]; exact ⟨rfl, rfl⟩))
    (fun os started H enc _ F => by rw [OpenClaim.pre_eq_preRow]; exact lifted os started H enc F)
/- No parameter wants a stand-in; the program's own looks are off: what the card asks. -/
theorem plain (f : FuncId) (fn : Func) (hf : Tryd.pinned.checked.prog.funcNamed "ratchet/ratchetlaw03.InumTurns" = some f) (hfn : Tryd.pinned.checked.prog.funcs[f]? = some fn) :
    false = Tryd.pinned.checked.prog.looks [] ∧ ∀ (j : Nat) t, fn.params[j]? = some t → Tryd.pinned.checked.prog.wantsStandIn t = false := by
  obtain rfl : f = 4 := Option.some.inj ((show Tryd.prog.funcNamed "ratchet/ratchetlaw03.InumTurns" = some 4 by kernel_rfl).symm.trans hf) |>.symm
  obtain rfl : fn = Tryd.f4 := (Option.some.inj (Tryd.func4.symm.trans hfn)).symm
  refine ⟨by kernel_rfl, fun j t ht => ?_⟩
  rw [Tryd.params4] at ht
  have hm : t ∈ [4, 22, 22] := by simpa using Array.mem_of_getElem? ht
  have hall : ([4, 22, 22].all fun u => !Tryd.prog.wantsStandIn u) = true := by kernel_rfl
  exact (show Tryd.prog.wantsStandIn t = false by simpa using List.all_eq_true.1 hall t hm)
end Go.Proofs.YtolllelejdnjlaaDoor.inumTurns
namespace Go.Proofs.YtolllelejdnjlaaDoor
theorem inumTurns_holds : Rows.InumTurnsCardSaid :=
  Claim7.holds_tied_plain_at .later [] _ _ _ _ inumTurns.said (fun _ h => by cases h) (by kernel_rfl) (fun _ h => by cases h) inumTurns_row_tie rfl ⟨rfl, rfl⟩ (by kernel_rfl) rfl inumTurns.plain (by kernel_rfl)
#print axioms inumTurns_holds
end Go.Proofs.YtolllelejdnjlaaDoor
