/-
  FnumTurns: for all words a, b of both kinds of floats: add and mul go in either order, and sub is the add of the negative. It holds where the table ratchet/fnum.rows starts as its text lays it (the card ties it to the text of the pruned copy); no other condition.
-/
import Derived.Test.YtjkebimmddlccabDoorCards
import Derived.Test.YtjkebimmddlccabDoorTie
import Derived.Test.YtjkebimmddlccabDoorAns
import Derived.Test.YtjkebimmddlccabDoorLaid
import Derived.Deep.DeepHandedRow
import Derived.Lib.LaidTab
namespace Go.Proofs.YtjkebimmddlccabDoor
open Go.RowKit
set_option linter.unusedVariables false
set_option linter.unusedSimpArgs false

theorem sum_comm (x y : Ieee.Datum) : x.sum y = y.sum x := by
  cases x <;> cases y <;> simp only [Ieee.Datum.sum]
  · rw [Int.min_comm, Int.add_comm, Bool.and_comm]
  · rename_i s t
    by_cases h : s = t
    · subst h; rfl
    · rw [if_neg h, if_neg (fun e => h e.symm)]
theorem product_comm (x y : Ieee.Datum) : x.product y = y.product x := by
  cases x <;> cases y <;> simp only [Ieee.Datum.product]
  · rw [Bool.xor_comm, Nat.mul_comm, Int.add_comm]
  · rw [Bool.xor_comm]
theorem add_comm' (f : Ieee.Format) (x y : Nat) : f.add x y = f.add y x := by unfold Ieee.Format.add; rw [sum_comm]
theorem mul_comm' (f : Ieee.Format) (x y : Nat) : f.mul x y = f.mul y x := by unfold Ieee.Format.mul; rw [product_comm]
theorem read_tg {f : Ieee.Format} (ht : Two f) {x : Nat} (hx : x < 2 * f.signWeight) : f.read (tg f x) = (f.read x).opposite := by
  obtain ⟨_, e1, e2⟩ := tg_lt hx
  have em : mg f (tg f x) = mg f x := by unfold mg; rw [e1]
  have ep : pl f (tg f x) = pl f x := by unfold pl ex; rw [e1]
  rcases Nat.lt_trichotomy (sz f x) f.infRung with h | h | h
  · rw [read_fin ht h, read_fin ht (by rw [e1]; exact h), e2, em, ep]; rfl
  · rw [read_inf ht h, read_inf ht (by rw [e1]; exact h), e2]; rfl
  · rw [read_nan ht h, read_nan ht (by rw [e1]; exact h), e2, e1]; rfl
theorem sub_tg {f : Ieee.Format} (ht : Two f) (x : Nat) {y : Nat} (hy : y < 2 * f.signWeight) : f.sub x y = f.add x (tg f y) := by
  unfold Ieee.Format.sub Ieee.Format.add
  rw [read_tg ht hy]
set_option maxRecDepth 100000 in
set_option maxHeartbeats 2000000 in
theorem turns_w32 (a b n x p d : Int) (w : World)
    (L : Hid (Calls Tryd.prog 6 #[] w fun e w' => e = .returned (.bool true) ∧ Grew w w'))
    (X1 : Hid (∀ w1 : World, Grew w w1 → Calls Tryd.prog 7 #[.int .i64 146, .int .u64 a, .int .u64 b] w1 fun e w' => e = .returned (.tuple #[.int .u64 x, .int .i64 0]) ∧ Grew w1 w'))
    (X2 : Hid (∀ w1 : World, Grew w w1 → Calls Tryd.prog 7 #[.int .i64 146, .int .u64 b, .int .u64 a] w1 fun e w' => e = .returned (.tuple #[.int .u64 x, .int .i64 0]) ∧ Grew w1 w'))
    (X3 : Hid (∀ w1 : World, Grew w w1 → Calls Tryd.prog 7 #[.int .i64 148, .int .u64 a, .int .u64 b] w1 fun e w' => e = .returned (.tuple #[.int .u64 p, .int .i64 0]) ∧ Grew w1 w'))
    (X4 : Hid (∀ w1 : World, Grew w w1 → Calls Tryd.prog 7 #[.int .i64 148, .int .u64 b, .int .u64 a] w1 fun e w' => e = .returned (.tuple #[.int .u64 p, .int .i64 0]) ∧ Grew w1 w'))
    (X5 : Hid (∀ w1 : World, Grew w w1 → Calls Tryd.prog 8 #[.int .i64 140, .int .u64 b] w1 fun e w' => e = .returned (.tuple #[.int .u64 n, .int .i64 0]) ∧ Grew w1 w'))
    (X6 : Hid (∀ w1 : World, Grew w w1 → Calls Tryd.prog 7 #[.int .i64 147, .int .u64 a, .int .u64 b] w1 fun e w' => e = .returned (.tuple #[.int .u64 d, .int .i64 0]) ∧ Grew w1 w'))
    (X7 : Hid (∀ w1 : World, Grew w w1 → Calls Tryd.prog 7 #[.int .i64 146, .int .u64 a, .int .u64 n] w1 fun e w' => e = .returned (.tuple #[.int .u64 d, .int .i64 0]) ∧ Grew w1 w')) :
    Calls Tryd.prog 3 #[.int .u64 a, .int .u64 b, .bool false] w fun e w' => e = .returned (.bool true) ∧ Grew w w' := by
  go_enter Tryd.func3, Tryd.ntmps3
  go_wp2_with fail
  refine (L.out).mono ?_
  rintro e w0 ⟨rfl, g0⟩
  have G0 : Hid (Grew w w0) := g0
  clear g0
  go_wp2_with fail
  refine (X1.out _ G0.out).mono ?_
  rintro e w1 ⟨rfl, g1⟩
  have G1 : Hid (Grew w w1) := G0.out.trans g1
  clear g1
  go_wp2_with fail
  refine (X2.out _ G1.out).mono ?_
  rintro e w2 ⟨rfl, g2⟩
  have G2 : Hid (Grew w w2) := G1.out.trans g2
  clear g2
  go_wp2_with fail
  refine (X3.out _ G2.out).mono ?_
  rintro e w3 ⟨rfl, g3⟩
  have G3 : Hid (Grew w w3) := G2.out.trans g3
  clear g3
  go_wp2_with fail
  refine (X4.out _ G3.out).mono ?_
  rintro e w4 ⟨rfl, g4⟩
  have G4 : Hid (Grew w w4) := G3.out.trans g4
  clear g4
  go_wp2_with fail
  refine (X5.out _ G4.out).mono ?_
  rintro e w5 ⟨rfl, g5⟩
  have G5 : Hid (Grew w w5) := G4.out.trans g5
  clear g5
  go_wp2_with fail
  refine (X6.out _ G5.out).mono ?_
  rintro e w6 ⟨rfl, g6⟩
  have G6 : Hid (Grew w w6) := G5.out.trans g6
  clear g6
  go_wp2_with fail
  refine (X7.out _ G6.out).mono ?_
  rintro e w7 ⟨rfl, g7⟩
  have G7 : Hid (Grew w w7) := G6.out.trans g7
  clear g7
  go_wp2
  go_ret
  go_light
  exact ⟨by first | rfl | simp, G7.out⟩
set_option maxRecDepth 100000 in
set_option maxHeartbeats 2000000 in
theorem turns_w64 (a b n x p d : Int) (w : World)
    (L : Hid (Calls Tryd.prog 6 #[] w fun e w' => e = .returned (.bool true) ∧ Grew w w'))
    (X1 : Hid (∀ w1 : World, Grew w w1 → Calls Tryd.prog 7 #[.int .i64 160, .int .u64 a, .int .u64 b] w1 fun e w' => e = .returned (.tuple #[.int .u64 x, .int .i64 0]) ∧ Grew w1 w'))
    (X2 : Hid (∀ w1 : World, Grew w w1 → Calls Tryd.prog 7 #[.int .i64 160, .int .u64 b, .int .u64 a] w1 fun e w' => e = .returned (.tuple #[.int .u64 x, .int .i64 0]) ∧ Grew w1 w'))
    (X3 : Hid (∀ w1 : World, Grew w w1 → Calls Tryd.prog 7 #[.int .i64 162, .int .u64 a, .int .u64 b] w1 fun e w' => e = .returned (.tuple #[.int .u64 p, .int .i64 0]) ∧ Grew w1 w'))
    (X4 : Hid (∀ w1 : World, Grew w w1 → Calls Tryd.prog 7 #[.int .i64 162, .int .u64 b, .int .u64 a] w1 fun e w' => e = .returned (.tuple #[.int .u64 p, .int .i64 0]) ∧ Grew w1 w'))
    (X5 : Hid (∀ w1 : World, Grew w w1 → Calls Tryd.prog 8 #[.int .i64 154, .int .u64 b] w1 fun e w' => e = .returned (.tuple #[.int .u64 n, .int .i64 0]) ∧ Grew w1 w'))
    (X6 : Hid (∀ w1 : World, Grew w w1 → Calls Tryd.prog 7 #[.int .i64 161, .int .u64 a, .int .u64 b] w1 fun e w' => e = .returned (.tuple #[.int .u64 d, .int .i64 0]) ∧ Grew w1 w'))
    (X7 : Hid (∀ w1 : World, Grew w w1 → Calls Tryd.prog 7 #[.int .i64 160, .int .u64 a, .int .u64 n] w1 fun e w' => e = .returned (.tuple #[.int .u64 d, .int .i64 0]) ∧ Grew w1 w')) :
    Calls Tryd.prog 3 #[.int .u64 a, .int .u64 b, .bool true] w fun e w' => e = .returned (.bool true) ∧ Grew w w' := by
  go_enter Tryd.func3, Tryd.ntmps3
  go_wp2_with fail
  refine (L.out).mono ?_
  rintro e w0 ⟨rfl, g0⟩
  have G0 : Hid (Grew w w0) := g0
  clear g0
  go_wp2_with fail
  refine (X1.out _ G0.out).mono ?_
  rintro e w1 ⟨rfl, g1⟩
  have G1 : Hid (Grew w w1) := G0.out.trans g1
  clear g1
  go_wp2_with fail
  refine (X2.out _ G1.out).mono ?_
  rintro e w2 ⟨rfl, g2⟩
  have G2 : Hid (Grew w w2) := G1.out.trans g2
  clear g2
  go_wp2_with fail
  refine (X3.out _ G2.out).mono ?_
  rintro e w3 ⟨rfl, g3⟩
  have G3 : Hid (Grew w w3) := G2.out.trans g3
  clear g3
  go_wp2_with fail
  refine (X4.out _ G3.out).mono ?_
  rintro e w4 ⟨rfl, g4⟩
  have G4 : Hid (Grew w w4) := G3.out.trans g4
  clear g4
  go_wp2_with fail
  refine (X5.out _ G4.out).mono ?_
  rintro e w5 ⟨rfl, g5⟩
  have G5 : Hid (Grew w w5) := G4.out.trans g5
  clear g5
  go_wp2_with fail
  refine (X6.out _ G5.out).mono ?_
  rintro e w6 ⟨rfl, g6⟩
  have G6 : Hid (Grew w w6) := G5.out.trans g6
  clear g6
  go_wp2_with fail
  refine (X7.out _ G6.out).mono ?_
  rintro e w7 ⟨rfl, g7⟩
  have G7 : Hid (Grew w w7) := G6.out.trans g7
  clear g7
  go_wp2
  go_ret
  go_light
  exact ⟨by first | rfl | simp, G7.out⟩
theorem turns_any (a b : Int) (wide : Bool) (w : World) (hT : Rws w) (a0 : 0 ≤ a) (a1 : a < 18446744073709551616) (b0 : 0 ≤ b) (b1 : b < 18446744073709551616) :
    Calls Tryd.prog 3 #[.int .u64 a, .int .u64 b, .bool wide] w fun e w' => e = .returned (.bool true) ∧ Grew w w' := by
  obtain ⟨a, rfl, ha⟩ := cast_nat a a0 a1
  obtain ⟨b, rfl, hb⟩ := cast_nat b b0 b1
  cases wide
  · have hB : b % 2 ^ 32 < 4294967296 := Nat.mod_lt _ (by decide)
    have hB2 : b % 2 ^ 32 < 2 * Ieee.single.signWeight := hB
    have hn := tg_lt hB2
    have X5 := fun w1 (g : Grew w w1) => Neg32 b hb w1 (hT.grew g)
    rw [xor_31 (b % 2 ^ 32) hB] at X5
    have hlt : tg Ieee.single (b % 2 ^ 32) < 18446744073709551616 := Nat.lt_of_lt_of_le hn.1 (by decide)
    have hm : tg Ieee.single (b % 2 ^ 32) % 2 ^ 32 = tg Ieee.single (b % 2 ^ 32) := Nat.mod_eq_of_lt hn.1
    have e2 : bop Ieee.single 0 (b % 2 ^ 32) (a % 2 ^ 32) = bop Ieee.single 0 (a % 2 ^ 32) (b % 2 ^ 32) := add_comm' _ _ _
    have e4 : bop Ieee.single 2 (b % 2 ^ 32) (a % 2 ^ 32) = bop Ieee.single 2 (a % 2 ^ 32) (b % 2 ^ 32) := mul_comm' _ _ _
    have e7 : bop Ieee.single 0 (a % 2 ^ 32) (tg Ieee.single (b % 2 ^ 32) % 2 ^ 32) = bop Ieee.single 1 (a % 2 ^ 32) (b % 2 ^ 32) := by rw [hm]; exact (sub_tg (by simp [Two]) _ hB2).symm
    have X2 := fun w1 (g : Grew w w1) => Bin32 0 (by decide) b a hb ha w1 (hT.grew g)
    rw [e2] at X2
    have X4 := fun w1 (g : Grew w w1) => Bin32 2 (by decide) b a hb ha w1 (hT.grew g)
    rw [e4] at X4
    have X7 := fun w1 (g : Grew w w1) => Bin32 0 (by decide) a _ ha hlt w1 (hT.grew g)
    rw [e7] at X7
    exact turns_w32 _ _ _ _ _ _ w (alive_any w hT) (fun w1 g => Bin32 0 (by decide) a b ha hb w1 (hT.grew g)) X2 (fun w1 g => Bin32 2 (by decide) a b ha hb w1 (hT.grew g)) X4 X5 (fun w1 g => Bin32 1 (by decide) a b ha hb w1 (hT.grew g)) X7
  · have hB : b % 2 ^ 64 < 18446744073709551616 := Nat.mod_lt _ (by decide)
    have hB2 : b % 2 ^ 64 < 2 * Ieee.double.signWeight := hB
    have hn := tg_lt hB2
    have X5 := fun w1 (g : Grew w w1) => Neg64 b hb w1 (hT.grew g)
    rw [xor_63 (b % 2 ^ 64) hB] at X5
    have hlt : tg Ieee.double (b % 2 ^ 64) < 18446744073709551616 := Nat.lt_of_lt_of_le hn.1 (by decide)
    have hm : tg Ieee.double (b % 2 ^ 64) % 2 ^ 64 = tg Ieee.double (b % 2 ^ 64) := Nat.mod_eq_of_lt hn.1
    have e2 : bop Ieee.double 0 (b % 2 ^ 64) (a % 2 ^ 64) = bop Ieee.double 0 (a % 2 ^ 64) (b % 2 ^ 64) := add_comm' _ _ _
    have e4 : bop Ieee.double 2 (b % 2 ^ 64) (a % 2 ^ 64) = bop Ieee.double 2 (a % 2 ^ 64) (b % 2 ^ 64) := mul_comm' _ _ _
    have e7 : bop Ieee.double 0 (a % 2 ^ 64) (tg Ieee.double (b % 2 ^ 64) % 2 ^ 64) = bop Ieee.double 1 (a % 2 ^ 64) (b % 2 ^ 64) := by rw [hm]; exact (sub_tg (by simp [Two]) _ hB2).symm
    have X2 := fun w1 (g : Grew w w1) => Bin64 0 (by decide) b a hb ha w1 (hT.grew g)
    rw [e2] at X2
    have X4 := fun w1 (g : Grew w w1) => Bin64 2 (by decide) b a hb ha w1 (hT.grew g)
    rw [e4] at X4
    have X7 := fun w1 (g : Grew w w1) => Bin64 0 (by decide) a _ ha hlt w1 (hT.grew g)
    rw [e7] at X7
    exact turns_w64 _ _ _ _ _ _ w (alive_any w hT) (fun w1 g => Bin64 0 (by decide) a b ha hb w1 (hT.grew g)) X2 (fun w1 g => Bin64 2 (by decide) a b ha hb w1 (hT.grew g)) X4 X5 (fun w1 g => Bin64 1 (by decide) a b ha hb w1 (hT.grew g)) X7
end Go.Proofs.YtjkebimmddlccabDoor
namespace Go.Proofs.YtjkebimmddlccabDoor.fnumTurns
open Go.ChangeShapes Go.WideShapes Go.ChangeAt Go.RowKit
set_option linter.unusedVariables false

theorem own : ownKnob Tryd.prog.godebug = none := by kernel_rfl
set_option maxRecDepth 100000 in
theorem contract (H : Type) (enc : TypeId × Value → H) (W : World) (base : Nat) (args : Array Value) (ds gs : List (DataW H)) (before : List MemPlace)
    (hval : ∀ (j : Nat) t v, Tryd.f3.params[j]? = some t → args[j]? = some v → Value.okWide Tryd.prog W .any base t v)
    (hW : DataW.Whole enc Tryd.prog Tryd.f3.params.toList Rows.fnumTurnsSpec.vars false W args.toList ds gs before) (hL : laidMetH Tryd.prog Rows.fnumTurnsRow.laid W) :
    Calls Tryd.prog 3 args W fun e W' => ∃ v, e = .returned v ∧ Rows.fnumTurnsSpec.post enc Tryd.prog Tryd.f3 false true false false W args v W' := by
  have hW' := hW
  obtain ⟨p, q, hA0, hV, rfl, hfz, hnd⟩ := hW
  have hA : DataW.TrodAll enc Tryd.prog W 0 (fun _ => true) true Tryd.f3.params.toList args.toList ds p := hA0
  rw [Tryd.params3] at hA hval
  obtain ⟨v0, vs0, d0, ds0, p0, q0, hargs, rfl, rfl, h0, r0⟩ := trodAll_cons hA
  obtain ⟨v1, vs1, d1, ds1, p1, q1, rfl, rfl, rfl, h1, r1⟩ := trodAll_cons r0
  obtain ⟨v2, vs2, d2, ds2, p2, q2, rfl, rfl, rfl, h2, r2⟩ := trodAll_cons r1
  obtain ⟨rfl, rfl, rfl⟩ := trodAll_nil r2
  obtain rfl : args = #[v0, v1, v2] := by cases args; simp_all
  obtain ⟨rfl, rfl⟩ := trodVars_none hV
  obtain ⟨a0, rfl, rfl, rfl, w0⟩ := open_int Tryd.underlying22 (hval 0 22 v0 rfl rfl) h0
  have b0 := bounds_u64 w0
  obtain ⟨a1, rfl, rfl, rfl, w1⟩ := open_int Tryd.underlying22 (hval 1 22 v1 rfl rfl) h1
  have b1 := bounds_u64 w1
  obtain ⟨a2, rfl, rfl, rfl⟩ := open_bool Tryd.underlying4 (hval 2 4 v2 rfl rfl) h2
  have hT : Rws W := rws_of hL
  clear hA0 hL
  refine (turns_any a0 a1 a2 W hT b0.1 (by have := b0.2; omega) b1.1 (by have := b1.2; omega)).mono fun e W' ⟨he, bel⟩ => ?_
  subst he
  exact ⟨_, rfl, _, _, _, [], _, [], hW', trodAll_mk1 (shut_bool Tryd.underlying4 _), (trodAll_cons_mk (shut_int Tryd.underlying22 w0) (trodAll_cons_mk (shut_int Tryd.underlying22 w1) (trodAll_cons_mk (shut_bool Tryd.underlying4 a2) trodAll_mk0))), rfl, bel.1.frame _, fun h => by cases h⟩
theorem laid_met (os : Os) : laidMet Tryd.prog Rows.fnumTurnsRow.laid (({ World.holding Tryd.prog os ⟨#[], #[], []⟩ with heap := ((World.holding Tryd.prog os ⟨#[], #[], []⟩).heap.modify 0 fun
      | .cells _ t frozen => .cells #[.int .i64 1, .int .i64 32, .int .i64 91, .int .i64 96, .int .i64 1, .int .i64 64, .int .i64 97, .int .i64 102, .int .i64 7, .int .i64 32, .int .i64 139, .int .i64 145, .int .i64 7, .int .i64 64, .int .i64 153, .int .i64 159, .int .i64 14, .int .i64 32, .int .i64 146, .int .i64 152, .int .i64 14, .int .i64 64, .int .i64 160, .int .i64 166] t frozen
      | o => o) } : World).forCall (fun _ _ => 0) ⟨#[], #[.int .u64 0, .int .u64 0, .bool false], []⟩).memory :=
  laidMet_of_run' 8 (by kernel_rfl) (by kernel_rfl)
theorem reads (os : Os) {H : Type} (enc : TypeId × Value → H) : ∃ places, DataW.whole enc Tryd.prog (({ World.holding Tryd.prog os ⟨#[], #[], []⟩ with heap := ((World.holding Tryd.prog os ⟨#[], #[], []⟩).heap.modify 0 fun
      | .cells _ t frozen => .cells #[.int .i64 1, .int .i64 32, .int .i64 91, .int .i64 96, .int .i64 1, .int .i64 64, .int .i64 97, .int .i64 102, .int .i64 7, .int .i64 32, .int .i64 139, .int .i64 145, .int .i64 7, .int .i64 64, .int .i64 153, .int .i64 159, .int .i64 14, .int .i64 32, .int .i64 146, .int .i64 152, .int .i64 14, .int .i64 64, .int .i64 160, .int .i64 166] t frozen
      | o => o) } : World).forCall (fun _ _ => 0) ⟨#[], #[.int .u64 0, .int .u64 0, .bool false], []⟩).memory Tryd.f3.params.toList Rows.fnumTurnsSpec.vars false #[Value.int .u64 0, Value.int .u64 0, Value.bool false].toList 8 = some ([.lit (.int .u64 0), .lit (.int .u64 0), .lit (.bool false)], [], places) :=
  ⟨[], by kernel_rfl⟩
set_option maxRecDepth 100000 in
theorem lifted (os : Os) (started : os.Started) (H : Type) (enc : TypeId × Value → H) (F : Stop.Interp) :
    ReturnsInHanded {} Tryd.checked os 3 .any ((OpenSpec.ofChange Rows.fnumTurnsSpec).preRow enc Tryd.prog Tryd.f3 Rows.fnumTurnsRow.domain false Rows.fnumTurnsRow.laid) (((OpenSpec.ofChange Rows.fnumTurnsSpec).at F).post enc Tryd.prog Tryd.f3 false true false false) := by
  obtain ⟨places, hx⟩ := reads os enc
  refine returnsInHanded_of_row (C := Tryd.checked) (s := OpenSpec.ofChange Rows.fnumTurnsSpec) own started (by kernel_rfl) Tryd.func3
    (witness_row_at (enc := enc) (C := Tryd.checked) false ({ World.holding Tryd.prog os ⟨#[], #[], []⟩ with heap := ((World.holding Tryd.prog os ⟨#[], #[], []⟩).heap.modify 0 fun
      | .cells _ t frozen => .cells #[.int .i64 1, .int .i64 32, .int .i64 91, .int .i64 96, .int .i64 1, .int .i64 64, .int .i64 97, .int .i64 102, .int .i64 7, .int .i64 32, .int .i64 139, .int .i64 145, .int .i64 7, .int .i64 64, .int .i64 153, .int .i64 159, .int .i64 14, .int .i64 32, .int .i64 146, .int .i64 152, .int .i64 14, .int .i64 64, .int .i64 160, .int .i64 166] t frozen
      | o => o) } : World) #[.int .u64 0, .int .u64 0, .bool false] rfl (by kernel_rfl) (by kernel_rfl) (by kernel_rfl)
      (OpenSpec.preRow_of_cond 8 hx (by kernel_rfl) (fun k hk => by cases hk) (by kernel_rfl) (laid_met os))) ?_
  intro W base args ds gs before hval hW _ _ _ hL _ _
  exact contract H enc W base args ds gs before hval hW hL
theorem said : Rows.FnumTurnsSaid :=
  OpenClaim.holds_of_cond 3 Tryd.f3 rfl rfl rfl rfl rfl rfl rfl ⟨rfl, rfl, rfl, rfl, rfl⟩ rfl rfl rfl rfl rfl (by kernel_rfl) Tryd.func3 (by kernel_rfl)
    (of_decide_eq_true (by kernel_rfl)) (by unfold Func.isWrapper; first | (rw [if_pos (by decide +kernel)]; kernel_rfl) | (rw [if_neg (by decide +kernel)]; exact ⟨rfl, rfl⟩))
    (fun os started H enc _ F => by rw [OpenClaim.pre_eq_preRow]; exact lifted os started H enc F)
/- No parameter wants a stand-in; the program's own looks are off: what the card asks. -/
theorem plain (f : FuncId) (fn : Func) (hf : Tryd.pinned.checked.prog.funcNamed "ratchet/ratchetlaw04.FnumTurns" = some f) (hfn : Tryd.pinned.checked.prog.funcs[f]? = some fn) :
    false = Tryd.pinned.checked.prog.looks [] ∧ ∀ (j : Nat) t, fn.params[j]? = some t → Tryd.pinned.checked.prog.wantsStandIn t = false := by
  obtain rfl : f = 3 := Option.some.inj ((show Tryd.prog.funcNamed "ratchet/ratchetlaw04.FnumTurns" = some 3 by kernel_rfl).symm.trans hf) |>.symm
  obtain rfl : fn = Tryd.f3 := (Option.some.inj (Tryd.func3.symm.trans hfn)).symm
  refine ⟨by kernel_rfl, fun j t ht => ?_⟩
  rw [Tryd.params3] at ht
  have hm : t ∈ [22, 22, 4] := by simpa using Array.mem_of_getElem? ht
  have hall : ([22, 22, 4].all fun u => !Tryd.prog.wantsStandIn u) = true := by kernel_rfl
  exact (show Tryd.prog.wantsStandIn t = false by simpa using List.all_eq_true.1 hall t hm)
end Go.Proofs.YtjkebimmddlccabDoor.fnumTurns
namespace Go.Proofs.YtjkebimmddlccabDoor
theorem fnumTurns_holds : Rows.FnumTurnsCardSaid :=
  Claim7.holds_tied_plain_at .later [] _ _ _ _ fnumTurns.said (fun _ h => by cases h) (by kernel_rfl) (fun _ h => by cases h) fnumTurns_row_tie rfl ⟨rfl, rfl⟩ (by kernel_rfl) rfl fnumTurns.plain (by kernel_rfl)
#print axioms fnumTurns_holds
end Go.Proofs.YtjkebimmddlccabDoor
