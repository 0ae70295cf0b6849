/-
  FnumThere: for every word a, an f32 that is no NaN as f64 and back is itself, and an i32, signed or not, as f64 and back is itself. It holds where the tables ratchet/fnum.rows and ratchet/fnum.conversions start as their texts lay them (the card ties them to the text of the pruned copy); no other condition.
-/
import Derived.Test.YtjkebimmddlccabDoorCards
import Derived.Test.YtjkebimmddlccabDoorTie
import Derived.Test.YtjkebimmddlccabDoorAns
import Derived.Test.YtjkebimmddlccabDoorLaid
import Derived.Test.YtjkebimmddlccabDoorLaidC
import Derived.Test.YtjkebimmddlccabDoorThere
import Derived.Deep.DeepHandedRow
import Derived.Lib.LaidTab
namespace Go.Proofs.YtjkebimmddlccabDoor
open Go.RowKit
set_option linter.unusedVariables false
set_option linter.unusedSimpArgs false

theorem word_back (f : Ieee.Format) {a : Nat} (ha : a < 2 * f.signWeight) : f.word (ng f a) (sz f a) = a := by
  have p := sw_pos f
  have dm := Nat.div_add_mod a f.signWeight
  have q : a / f.signWeight < 2 := (Nat.div_lt_iff_lt_mul p).2 ha
  unfold Ieee.Format.word ng sz
  have q2 : a / f.signWeight = 0 ∨ a / f.signWeight = 1 := by generalize a / f.signWeight = x at q; omega
  rcases q2 with h | h
  · rw [h] at dm ⊢; simp at dm ⊢; omega
  · rw [h] at dm ⊢; simp at dm ⊢; omega
theorem res_some {z : Nat} {f : Ieee.Format} (h : z < 2 ^ f.width) : Res f (some z) z := ⟨h, fun r hr => (Option.some.inj hr), fun h => by cases h⟩
/- A narrow float there and back. -/
theorem there_f (a : Nat) (ha : a < 18446744073709551616) : ∃ W X : Nat,
    (∀ w : World, Cvs w → Calls Tryd.prog 9 #[.int .i64 187, .int .u64 (a : Int)] w fun e w' => e = .returned (.tuple #[.int .u64 (W : Int), .int .i64 0]) ∧ Grew w w') ∧
    (∀ w : World, Cvs w → Calls Tryd.prog 9 #[.int .i64 182, .int .u64 (W : Int)] w fun e w' => e = .returned (.tuple #[.int .u64 (X : Int), .int .i64 0]) ∧ Grew w w') ∧
    (¬ Ieee.single.infRung < sz Ieee.single (a % 2 ^ 32) → X = a % 2 ^ 32) := by
  have hx : a % 2 ^ 32 < 2 ^ 32 := Nat.mod_lt _ (by decide)
  have T := fun w : World => take32_any a ha w
  generalize a % 2 ^ 32 = x at *
  have t64 : ∀ {b : Nat}, b < 2 ^ 64 → ∀ w : World, Calls Tryd.prog 20 #[.int .u64 (b : Int)] w fun e w' => e = .returned (.float .f64 b) ∧ w' = w := fun {b} hb w => by
    have h := take64_any b hb w
    rw [Nat.mod_eq_of_lt hb] at h
    exact h
  by_cases hn : Ieee.single.infRung < sz Ieee.single x
  · have hc := cn_nan t2
    have hb : cn Ieee.double < 2 ^ 64 := by decide
    refine ⟨_, _, fun w hT => conv_187 a x hx none w hT (fun z hz => ⟨hz.1, fun r h => (by cases h), fun _ => hz.2.2 hn⟩) (fun r h => (by cases h)) T, fun w hT => conv_182 (cn Ieee.double) (cn Ieee.double) hb none w hT (fun z hz => ⟨hz.1, fun r h => (by cases h), fun _ => hz.2.2 hc⟩) (fun r h => (by cases h)) (t64 hb), fun h => absurd hn h⟩
  · rcases Nat.lt_or_eq_of_le (Nat.le_of_not_lt hn) with hf | hi
    · have hs := prom_sz hf
      have hb := prom_lt x
      refine ⟨_, _, fun w hT => conv_187 a x hx (some (prom x)) w hT (fun z hz => by rw [hz.2.1 _ (prom_bits hf)]; exact res_some hb) (fun r h => by rw [← Option.some.inj h]; omega) T, fun w hT => conv_182 (prom x) (prom x) hb (some x) w hT (fun z hz => by rw [hz.2.1 _ (dem_bits hx hf)]; exact res_some hx) (fun r h => by rw [← Option.some.inj h]; exact hn) (t64 hb), fun _ => rfl⟩
    · obtain ⟨w1, w2, w3⟩ := word_sz Ieee.double (ng Ieee.single x) (inf_lt Ieee.double)
      have hb : Ieee.double.word (ng Ieee.single x) Ieee.double.infRung < 2 ^ 64 := w3
      have hxw : Ieee.single.word (ng Ieee.single x) Ieee.single.infRung = x := by
        have := word_back Ieee.single (a := x) hx
        rw [hi] at this
        exact this
      have ib := inf_bits64 (ng Ieee.single x)
      rw [hxw] at ib
      refine ⟨_, _, fun w hT => conv_187 a x hx (some (Ieee.double.word (ng Ieee.single x) Ieee.double.infRung)) w hT (fun z hz => by rw [hz.2.1 _ (inf_bits32 hi)]; exact res_some hb) (fun r h => by rw [← Option.some.inj h, w1]; exact Nat.lt_irrefl _) T, fun w hT => conv_182 _ _ hb (some x) w hT (fun z hz => by rw [hz.2.1 _ ib]; exact res_some hx) (fun r h => by rw [← Option.some.inj h]; exact hn) (t64 hb), fun _ => rfl⟩
/- Trunc leaves a whole number. -/
theorem trunc_nw (neg : Bool) {W : Nat} (h : W ≤ 4294967296) (w : World) :
    Calls Tryd.prog 39 #[.float .f64 (nw neg W)] w fun e w' => e = .returned (.float .f64 (nw neg W)) ∧ Grew w w' := by
  refine (mTrunc (nw neg W) (nw_lt neg h) w).mono ?_
  rintro e w' ⟨z, rfl, hz, hg⟩
  rw [hz.2.1 _ (nw_rop neg h)]
  exact ⟨rfl, hg⟩
theorem notnan_nw (neg : Bool) {W : Nat} (h : W ≤ 4294967296) (w : World) :
    Calls Tryd.prog 28 #[.float .f64 (nw neg W)] w fun e w' => e = .returned (.bool false) ∧ w' = w := by
  have hh := isNaN64_any (nw neg W) w
  have hs := nw_sz neg h
  rw [decide_eq_false (by omega)] at hh
  exact hh
theorem lay_nw (neg : Bool) {W : Nat} (h : W ≤ 4294967296) (w : World) :
    Calls Tryd.prog 18 #[.float .f64 (nw neg W)] w fun e w' => e = .returned (.int .u64 ((nw neg W : Nat) : Int)) ∧ w' = w :=
  lay64_any (some (nw neg W)) (nw neg W) (res_some (nw_lt neg h)) (fun r hr => by rw [← Option.some.inj hr]; have := nw_sz neg h; omega) w
/- A signed number there and back. -/
theorem there_s (a : Nat) (ha : a < 18446744073709551616) : ∃ W : Nat,
    (∀ w : World, Cvs w → Calls Tryd.prog 9 #[.int .i64 183, .int .u64 (a : Int)] w fun e w' => e = .returned (.tuple #[.int .u64 (W : Int), .int .i64 0]) ∧ Grew w w') ∧
    (∀ w : World, Cvs w → Calls Tryd.prog 9 #[.int .i64 170, .int .u64 (W : Int)] w fun e w' => e = .returned (.tuple #[.int .u64 ((a % 2 ^ 32 : Nat) : Int), .int .i64 0]) ∧ Grew w w') := by
  obtain ⟨t, ht⟩ : ∃ t : Int, t = IntKind.i32.wrap (a : Int) := ⟨_, rfl⟩
  have ht2 := ht
  rw [IntKind.wrap_i32] at ht2
  have hA : a % 2 ^ 32 < 4294967296 := Nat.mod_lt _ (by decide)
  have hAt : t = (if a % 2 ^ 32 < 2147483648 then ((a % 2 ^ 32 : Nat) : Int) else ((a % 2 ^ 32 : Nat) : Int) - 4294967296) := by
    rw [ht2]; split <;> omega
  have b0 : -2147483648 ≤ t := by rw [hAt]; split <;> omega
  have b1 : t ≤ 2147483647 := by rw [hAt]; split <;> omega
  obtain ⟨u, hu⟩ : ∃ u : Nat, IntKind.u64.wrap t = (u : Int) := ⟨(IntKind.u64.wrap t).toNat, by rw [IntKind.wrap_u64]; omega⟩
  have hu2 := hu
  rw [IntKind.wrap_u64] at hu2
  have hu64 : u < 18446744073709551616 := by omega
  have hi : IntKind.i64.wrap ((u : Nat) : Int) = t := by rw [IntKind.wrap_i64]; omega
  have hur : u % 2 ^ 32 = a % 2 ^ 32 := by
    have : ((u % 2 ^ 32 : Nat) : Int) = ((a % 2 ^ 32 : Nat) : Int) := by
      clear ht ht2 hu hi
      split at hAt <;> omega
    omega
  have hm : t.natAbs ≤ 4294967296 := by omega
  have hsg : Ieee.signed (decide (t < 0)) t.natAbs 0 = t := by
    by_cases h : t < 0
    · rw [decide_eq_true h, sg_t]; omega
    · rw [decide_eq_false h, sg_f]; omega
  have hv : t = if decide (t < 0) = true then -(t.natAbs : Int) else (t.natAbs : Int) := by
    by_cases h : t < 0
    · rw [decide_eq_true h, if_pos rfl]; omega
    · rw [decide_eq_false h, if_neg (by decide)]; omega
  have o1 := not_lt_f (s := decide (t < 0)) (t := true) hm (show 2147483648 ≤ 4294967296 by decide) (by rw [hsg, sg_t]; omega)
  have o2 := not_ge_f (s := decide (t < 0)) (t := false) hm (show 2147483648 ≤ 4294967296 by decide) (by rw [hsg, sg_f]; omega)
  rw [w31n] at o1
  rw [w31, Bool.or_eq_false_iff] at o2
  have Rn := fun w : World => rnd_s ((u : Nat) : Int) t hi w
  rw [of_int] at Rn
  have cv := fun w : World => run_convert_float_int (P := Tryd.prog) w 42 2 .f64 .i64 (nw (decide (t < 0)) t.natAbs) t (by rw [Tryd.underlying42]; rfl) Tryd.underlying2 (nw_val _ hm .i64 t hv (by show (-9223372036854775808 : Int) ≤ t; omega) (by show t ≤ (9223372036854775807 : Int); omega))
  have Ct2 := fun w : World => fcut32 u hu64 w
  rw [hur] at Ct2
  have Nu := fun w : World => num_170 (nw (decide (t < 0)) t.natAbs) (nw_lt _ hm) w
  rw [Nat.mod_eq_of_lt (nw_lt _ hm)] at Nu
  have M := fun w : World => trunc_nw (decide (t < 0)) hm w
  have I := fun w : World => notnan_nw (decide (t < 0)) hm w
  have L := fun w : World => lay_nw (decide (t < 0)) hm w
  have Ct := fun w : World => fcut32 a ha w
  generalize nw (decide (t < 0)) t.natAbs = y at *
  refine ⟨y, fun w hT => ?_, fun w hT => ?_⟩
  · exact conv_183 a y 0 w hT (fun w => fw_183 a _ u t y y w ht.symm hu Ct Rn L)
  · exact conv_170 y _ y w hT Nu (fun w => tw_170 y t u _ w o1 o2.1 o2.2 cv hu M (fun w => ends_170 w) I Ct2)
/- An unsigned number there and back. -/
theorem there_u (a : Nat) (ha : a < 18446744073709551616) : ∃ W : Nat,
    (∀ w : World, Cvs w → Calls Tryd.prog 9 #[.int .i64 184, .int .u64 (a : Int)] w fun e w' => e = .returned (.tuple #[.int .u64 (W : Int), .int .i64 0]) ∧ Grew w w') ∧
    (∀ w : World, Cvs w → Calls Tryd.prog 9 #[.int .i64 171, .int .u64 (W : Int)] w fun e w' => e = .returned (.tuple #[.int .u64 ((a % 2 ^ 32 : Nat) : Int), .int .i64 0]) ∧ Grew w w') := by
  have Ct := fun w : World => fcut32 a ha w
  have hA : a % 2 ^ 32 < 4294967296 := Nat.mod_lt _ (by decide)
  generalize a % 2 ^ 32 = A at *
  have hm : A ≤ 4294967296 := by omega
  have o1 := not_lt_f (s := false) (t := false) hm (show 0 ≤ 4294967296 by decide) (by rw [sg_f, sg_f]; omega)
  have o2 := not_ge_f (s := false) (t := false) hm (show 4294967296 ≤ 4294967296 by decide) (by rw [sg_f, sg_f]; omega)
  rw [w0] at o1
  rw [w32, Bool.or_eq_false_iff] at o2
  have Rn := fun w : World => rnd_u ((A : Nat) : Int) w
  rw [of_int, decide_eq_false (by omega), Int.natAbs_natCast] at Rn
  have cv := fun w : World => run_convert_float_int (P := Tryd.prog) w 42 22 .f64 .u64 (nw false A) (A : Int) (by rw [Tryd.underlying42]; rfl) Tryd.underlying22 (nw_val _ hm .u64 (A : Int) (by simp) (by show (0 : Int) ≤ A; omega) (by show (A : Int) ≤ 18446744073709551615; omega))
  have Nu := fun w : World => num_171 (nw false A) (nw_lt _ hm) w
  rw [Nat.mod_eq_of_lt (nw_lt _ hm)] at Nu
  have M := fun w : World => trunc_nw false hm w
  have I := fun w : World => notnan_nw false hm w
  have L := fun w : World => lay_nw false hm w
  generalize nw false A = y at *
  refine ⟨y, fun w hT => ?_, fun w hT => ?_⟩
  · exact conv_184 a y 0 w hT (fun w => fw_184 a _ 0 0 y y w Ct Rn L)
  · exact conv_171 y _ y w hT Nu (fun w => tw_171 y 0 0 _ w o1 o2.1 o2.2 cv M (fun w => ends_171 w) I)
set_option maxRecDepth 100000 in
set_option maxHeartbeats 2000000 in
theorem There_n (a A W1 X W2 W3 : Int) (r : Bool) (w : World) (ha : bits .and .u64 a 4294967295 = A)
    (L : Hid (Calls Tryd.prog 6 #[] w fun e w' => e = .returned (.bool true) ∧ Grew w w'))
    (C1 : Hid (∀ w1 : World, Grew w w1 → Calls Tryd.prog 9 #[.int .i64 187, .int .u64 a] w1 fun e w' => e = .returned (.tuple #[.int .u64 W1, .int .i64 0]) ∧ Grew w1 w'))
    (C2 : Hid (∀ w1 : World, Grew w w1 → Calls Tryd.prog 9 #[.int .i64 182, .int .u64 W1] w1 fun e w' => e = .returned (.tuple #[.int .u64 X, .int .i64 0]) ∧ Grew w1 w'))
    (Nn : Hid (∀ w : World, Calls Tryd.prog 10 #[.int .i64 32, .int .u64 a] w fun e w' => e = .returned (.tuple #[.bool true, .bool r, .int .i64 0]) ∧ w' = w))
    (C3 : Hid (∀ w1 : World, Grew w w1 → Calls Tryd.prog 9 #[.int .i64 183, .int .u64 a] w1 fun e w' => e = .returned (.tuple #[.int .u64 W2, .int .i64 0]) ∧ Grew w1 w'))
    (C4 : Hid (∀ w1 : World, Grew w w1 → Calls Tryd.prog 9 #[.int .i64 170, .int .u64 W2] w1 fun e w' => e = .returned (.tuple #[.int .u64 A, .int .i64 0]) ∧ Grew w1 w'))
    (C5 : Hid (∀ w1 : World, Grew w w1 → Calls Tryd.prog 9 #[.int .i64 184, .int .u64 a] w1 fun e w' => e = .returned (.tuple #[.int .u64 W3, .int .i64 0]) ∧ Grew w1 w'))
    (C6 : Hid (∀ w1 : World, Grew w w1 → Calls Tryd.prog 9 #[.int .i64 171, .int .u64 W3] w1 fun e w' => e = .returned (.tuple #[.int .u64 A, .int .i64 0]) ∧ Grew w1 w')) :
    Calls Tryd.prog 4 #[.int .u64 a] w fun e w' => e = .returned (.bool true) ∧ Grew w w' := by
  go_enter Tryd.func4, Tryd.ntmps4
  go_wp2_with fail
  refine (L.out).mono ?_
  rintro e w0 ⟨rfl, g0⟩
  have G0 : Hid (Grew w w0) := g0
  clear g0
  go_wp2_with fail
  refine (C1.out _ G0.out).mono ?_
  rintro e w1 ⟨rfl, g1⟩
  have G1 : Hid (Grew w w1) := G0.out.trans g1
  clear g1
  go_wp2_with fail
  refine (C2.out _ G1.out).mono ?_
  rintro e w2 ⟨rfl, g2⟩
  have G2 : Hid (Grew w w2) := G1.out.trans g2
  clear g2
  go_wp2_with fail
  refine (Nn.out _).mono ?_
  rintro e wp ⟨rfl, hwp⟩
  subst hwp
  go_wp2_with fail
  refine (C3.out _ G2.out).mono ?_
  rintro e w3 ⟨rfl, g3⟩
  have G3 : Hid (Grew w w3) := G2.out.trans g3
  clear g3
  go_wp2_with fail
  refine (C4.out _ G3.out).mono ?_
  rintro e w4 ⟨rfl, g4⟩
  have G4 : Hid (Grew w w4) := G3.out.trans g4
  clear g4
  go_wp2_with fail
  refine (C5.out _ G4.out).mono ?_
  rintro e w5 ⟨rfl, g5⟩
  have G5 : Hid (Grew w w5) := G4.out.trans g5
  clear g5
  go_wp2_with fail
  refine (C6.out _ G5.out).mono ?_
  rintro e w6 ⟨rfl, g6⟩
  have G6 : Hid (Grew w w6) := G5.out.trans g6
  clear g6
  go_wp2
  go_ret
  go_light
  exact ⟨by first | rfl | simp, G6.out⟩
set_option maxRecDepth 100000 in
set_option maxHeartbeats 2000000 in
theorem There_x (a A W1 X W2 W3 : Int) (r : Bool) (w : World) (ha : bits .and .u64 a 4294967295 = A) (hX : (X != A) = false)
    (L : Hid (Calls Tryd.prog 6 #[] w fun e w' => e = .returned (.bool true) ∧ Grew w w'))
    (C1 : Hid (∀ w1 : World, Grew w w1 → Calls Tryd.prog 9 #[.int .i64 187, .int .u64 a] w1 fun e w' => e = .returned (.tuple #[.int .u64 W1, .int .i64 0]) ∧ Grew w1 w'))
    (C2 : Hid (∀ w1 : World, Grew w w1 → Calls Tryd.prog 9 #[.int .i64 182, .int .u64 W1] w1 fun e w' => e = .returned (.tuple #[.int .u64 X, .int .i64 0]) ∧ Grew w1 w'))
    (Nn : Hid (∀ w : World, Calls Tryd.prog 10 #[.int .i64 32, .int .u64 a] w fun e w' => e = .returned (.tuple #[.bool false, .bool r, .int .i64 0]) ∧ w' = w))
    (C3 : Hid (∀ w1 : World, Grew w w1 → Calls Tryd.prog 9 #[.int .i64 183, .int .u64 a] w1 fun e w' => e = .returned (.tuple #[.int .u64 W2, .int .i64 0]) ∧ Grew w1 w'))
    (C4 : Hid (∀ w1 : World, Grew w w1 → Calls Tryd.prog 9 #[.int .i64 170, .int .u64 W2] w1 fun e w' => e = .returned (.tuple #[.int .u64 A, .int .i64 0]) ∧ Grew w1 w'))
    (C5 : Hid (∀ w1 : World, Grew w w1 → Calls Tryd.prog 9 #[.int .i64 184, .int .u64 a] w1 fun e w' => e = .returned (.tuple #[.int .u64 W3, .int .i64 0]) ∧ Grew w1 w'))
    (C6 : Hid (∀ w1 : World, Grew w w1 → Calls Tryd.prog 9 #[.int .i64 171, .int .u64 W3] w1 fun e w' => e = .returned (.tuple #[.int .u64 A, .int .i64 0]) ∧ Grew w1 w')) :
    Calls Tryd.prog 4 #[.int .u64 a] w fun e w' => e = .returned (.bool true) ∧ Grew w w' := by
  go_enter Tryd.func4, Tryd.ntmps4
  go_wp2_with fail
  refine (L.out).mono ?_
  rintro e w0 ⟨rfl, g0⟩
  have G0 : Hid (Grew w w0) := g0
  clear g0
  go_wp2_with fail
  refine (C1.out _ G0.out).mono ?_
  rintro e w1 ⟨rfl, g1⟩
  have G1 : Hid (Grew w w1) := G0.out.trans g1
  clear g1
  go_wp2_with fail
  refine (C2.out _ G1.out).mono ?_
  rintro e w2 ⟨rfl, g2⟩
  have G2 : Hid (Grew w w2) := G1.out.trans g2
  clear g2
  go_wp2_with fail
  refine (Nn.out _).mono ?_
  rintro e wp ⟨rfl, hwp⟩
  subst hwp
  go_wp2_with fail
  refine (C3.out _ G2.out).mono ?_
  rintro e w3 ⟨rfl, g3⟩
  have G3 : Hid (Grew w w3) := G2.out.trans g3
  clear g3
  go_wp2_with fail
  refine (C4.out _ G3.out).mono ?_
  rintro e w4 ⟨rfl, g4⟩
  have G4 : Hid (Grew w w4) := G3.out.trans g4
  clear g4
  go_wp2_with fail
  refine (C5.out _ G4.out).mono ?_
  rintro e w5 ⟨rfl, g5⟩
  have G5 : Hid (Grew w w5) := G4.out.trans g5
  clear g5
  go_wp2_with fail
  refine (C6.out _ G5.out).mono ?_
  rintro e w6 ⟨rfl, g6⟩
  have G6 : Hid (Grew w w6) := G5.out.trans g6
  clear g6
  go_wp2
  go_ret
  go_light
  exact ⟨by first | rfl | simp, G6.out⟩
theorem there_any (a : Int) (w : World) (hT : Rws w) (hC : Cvs w) (a0 : 0 ≤ a) (a1 : a < 18446744073709551616) :
    Calls Tryd.prog 4 #[.int .u64 a] w fun e w' => e = .returned (.bool true) ∧ Grew w w' := by
  obtain ⟨a, rfl, ha⟩ := cast_nat a a0 a1
  obtain ⟨W1, X, c1, c2, hX⟩ := there_f a ha
  obtain ⟨W2, c3, c4⟩ := there_s a ha
  obtain ⟨W3, c5, c6⟩ := there_u a ha
  have L := alive_any w hT
  have Nn := fun w : World => Nan32 a ha w
  have hb := and_32 a ha
  by_cases hn : Ieee.single.infRung < sz Ieee.single (a % 2 ^ 32)
  · rw [decide_eq_true hn] at Nn
    exact There_n a _ W1 X W2 W3 _ w hb L (fun w1 g => c1 w1 (hC.grew g)) (fun w1 g => c2 w1 (hC.grew g)) Nn (fun w1 g => c3 w1 (hC.grew g)) (fun w1 g => c4 w1 (hC.grew g)) (fun w1 g => c5 w1 (hC.grew g)) (fun w1 g => c6 w1 (hC.grew g))
  · rw [decide_eq_false hn] at Nn
    have e := hX hn
    exact There_x a _ W1 X W2 W3 _ w hb (by rw [e]; exact bne_self_eq_false _) L (fun w1 g => c1 w1 (hC.grew g)) (fun w1 g => c2 w1 (hC.grew g)) Nn (fun w1 g => c3 w1 (hC.grew g)) (fun w1 g => c4 w1 (hC.grew g)) (fun w1 g => c5 w1 (hC.grew g)) (fun w1 g => c6 w1 (hC.grew g))
end Go.Proofs.YtjkebimmddlccabDoor
namespace Go.Proofs.YtjkebimmddlccabDoor.fnumThere
open Go.ChangeShapes Go.WideShapes Go.ChangeAt Go.RowKit
set_option linter.unusedVariables false

theorem own : ownKnob Tryd.prog.godebug = none := by kernel_rfl
set_option maxRecDepth 100000 in
theorem contract (H : Type) (enc : TypeId × Value → H) (W : World) (base : Nat) (args : Array Value) (ds gs : List (DataW H)) (before : List MemPlace)
    (hval : ∀ (j : Nat) t v, Tryd.f4.params[j]? = some t → args[j]? = some v → Value.okWide Tryd.prog W .any base t v)
    (hW : DataW.Whole enc Tryd.prog Tryd.f4.params.toList Rows.fnumThereSpec.vars false W args.toList ds gs before) (hL : laidMetH Tryd.prog Rows.fnumThereRow.laid W) :
    Calls Tryd.prog 4 args W fun e W' => ∃ v, e = .returned v ∧ Rows.fnumThereSpec.post enc Tryd.prog Tryd.f4 false true false false W args v W' := by
  have hW' := hW
  obtain ⟨p, q, hA0, hV, rfl, hfz, hnd⟩ := hW
  have hA : DataW.TrodAll enc Tryd.prog W 0 (fun _ => true) true Tryd.f4.params.toList args.toList ds p := hA0
  rw [Tryd.params4] at hA hval
  obtain ⟨v0, vs0, d0, ds0, p0, q0, hargs, rfl, rfl, h0, r0⟩ := trodAll_cons hA
  obtain ⟨rfl, rfl, rfl⟩ := trodAll_nil r0
  obtain rfl : args = #[v0] := by cases args; simp_all
  obtain ⟨rfl, rfl⟩ := trodVars_none hV
  obtain ⟨a0, rfl, rfl, rfl, w0⟩ := open_int Tryd.underlying22 (hval 0 22 v0 rfl rfl) h0
  have b0 := bounds_u64 w0
  have hT : Rws W := rws_of hL
  have hC : Cvs W := cvs_of hL
  clear hA0 hL
  refine (there_any a0 W hT hC b0.1 (by have := b0.2; omega)).mono fun e W' ⟨he, bel⟩ => ?_
  subst he
  exact ⟨_, rfl, _, _, _, [], _, [], hW', trodAll_mk1 (shut_bool Tryd.underlying4 _), (trodAll_cons_mk (shut_int Tryd.underlying22 w0) trodAll_mk0), rfl, bel.1.frame _, fun h => by cases h⟩
theorem laid_met (os : Os) : laidMet Tryd.prog Rows.fnumThereRow.laid (({ World.holding Tryd.prog os ⟨#[], #[], []⟩ with heap := (((World.holding Tryd.prog os ⟨#[], #[], []⟩).heap.modify 0 fun
      | .cells _ t frozen => .cells #[.int .i64 1, .int .i64 32, .int .i64 91, .int .i64 96, .int .i64 1, .int .i64 64, .int .i64 97, .int .i64 102, .int .i64 7, .int .i64 32, .int .i64 139, .int .i64 145, .int .i64 7, .int .i64 64, .int .i64 153, .int .i64 159, .int .i64 14, .int .i64 32, .int .i64 146, .int .i64 152, .int .i64 14, .int .i64 64, .int .i64 160, .int .i64 166] t frozen
      | o => o).modify 1 fun
      | .cells _ t frozen => .cells #[.int .i64 21, .int .i64 32, .int .i64 32, .bool true, .int .i64 21, .int .i64 32, .int .i64 32, .bool false, .int .i64 21, .int .i64 64, .int .i64 32, .bool true, .int .i64 21, .int .i64 64, .int .i64 32, .bool false, .int .i64 0, .int .i64 0, .int .i64 0, .bool false, .int .i64 0, .int .i64 0, .int .i64 0, .bool false, .int .i64 21, .int .i64 32, .int .i64 64, .bool true, .int .i64 21, .int .i64 32, .int .i64 64, .bool false, .int .i64 21, .int .i64 64, .int .i64 64, .bool true, .int .i64 21, .int .i64 64, .int .i64 64, .bool false, .int .i64 23, .int .i64 32, .int .i64 32, .bool true, .int .i64 23, .int .i64 32, .int .i64 32, .bool false, .int .i64 23, .int .i64 64, .int .i64 32, .bool true, .int .i64 23, .int .i64 64, .int .i64 32, .bool false, .int .i64 24, .int .i64 64, .int .i64 32, .bool false, .int .i64 23, .int .i64 32, .int .i64 64, .bool true, .int .i64 23, .int .i64 32, .int .i64 64, .bool false, .int .i64 23, .int .i64 64, .int .i64 64, .bool true, .int .i64 23, .int .i64 64, .int .i64 64, .bool false, .int .i64 25, .int .i64 32, .int .i64 64, .bool false, .int .i64 26, .int .i64 32, .int .i64 32, .bool false, .int .i64 26, .int .i64 64, .int .i64 64, .bool false, .int .i64 26, .int .i64 32, .int .i64 32, .bool false, .int .i64 26, .int .i64 64, .int .i64 64, .bool false] t frozen
      | o => o) } : World).forCall (fun _ _ => 0) ⟨#[], #[.int .u64 0], []⟩).memory :=
  laidMet_of_run' 8 (by kernel_rfl) (by kernel_rfl)
theorem reads (os : Os) {H : Type} (enc : TypeId × Value → H) : ∃ places, DataW.whole enc Tryd.prog (({ World.holding Tryd.prog os ⟨#[], #[], []⟩ with heap := (((World.holding Tryd.prog os ⟨#[], #[], []⟩).heap.modify 0 fun
      | .cells _ t frozen => .cells #[.int .i64 1, .int .i64 32, .int .i64 91, .int .i64 96, .int .i64 1, .int .i64 64, .int .i64 97, .int .i64 102, .int .i64 7, .int .i64 32, .int .i64 139, .int .i64 145, .int .i64 7, .int .i64 64, .int .i64 153, .int .i64 159, .int .i64 14, .int .i64 32, .int .i64 146, .int .i64 152, .int .i64 14, .int .i64 64, .int .i64 160, .int .i64 166] t frozen
      | o => o).modify 1 fun
      | .cells _ t frozen => .cells #[.int .i64 21, .int .i64 32, .int .i64 32, .bool true, .int .i64 21, .int .i64 32, .int .i64 32, .bool false, .int .i64 21, .int .i64 64, .int .i64 32, .bool true, .int .i64 21, .int .i64 64, .int .i64 32, .bool false, .int .i64 0, .int .i64 0, .int .i64 0, .bool false, .int .i64 0, .int .i64 0, .int .i64 0, .bool false, .int .i64 21, .int .i64 32, .int .i64 64, .bool true, .int .i64 21, .int .i64 32, .int .i64 64, .bool false, .int .i64 21, .int .i64 64, .int .i64 64, .bool true, .int .i64 21, .int .i64 64, .int .i64 64, .bool false, .int .i64 23, .int .i64 32, .int .i64 32, .bool true, .int .i64 23, .int .i64 32, .int .i64 32, .bool false, .int .i64 23, .int .i64 64, .int .i64 32, .bool true, .int .i64 23, .int .i64 64, .int .i64 32, .bool false, .int .i64 24, .int .i64 64, .int .i64 32, .bool false, .int .i64 23, .int .i64 32, .int .i64 64, .bool true, .int .i64 23, .int .i64 32, .int .i64 64, .bool false, .int .i64 23, .int .i64 64, .int .i64 64, .bool true, .int .i64 23, .int .i64 64, .int .i64 64, .bool false, .int .i64 25, .int .i64 32, .int .i64 64, .bool false, .int .i64 26, .int .i64 32, .int .i64 32, .bool false, .int .i64 26, .int .i64 64, .int .i64 64, .bool false, .int .i64 26, .int .i64 32, .int .i64 32, .bool false, .int .i64 26, .int .i64 64, .int .i64 64, .bool false] t frozen
      | o => o) } : World).forCall (fun _ _ => 0) ⟨#[], #[.int .u64 0], []⟩).memory Tryd.f4.params.toList Rows.fnumThereSpec.vars false #[Value.int .u64 0].toList 8 = some ([.lit (.int .u64 0)], [], places) :=
  ⟨[], by kernel_rfl⟩
set_option maxRecDepth 100000 in
theorem lifted (os : Os) (started : os.Started) (H : Type) (enc : TypeId × Value → H) (F : Stop.Interp) :
    ReturnsInHanded {} Tryd.checked os 4 .any ((OpenSpec.ofChange Rows.fnumThereSpec).preRow enc Tryd.prog Tryd.f4 Rows.fnumThereRow.domain false Rows.fnumThereRow.laid) (((OpenSpec.ofChange Rows.fnumThereSpec).at F).post enc Tryd.prog Tryd.f4 false true false false) := by
  obtain ⟨places, hx⟩ := reads os enc
  refine returnsInHanded_of_row (C := Tryd.checked) (s := OpenSpec.ofChange Rows.fnumThereSpec) own started (by kernel_rfl) Tryd.func4
    (witness_row_at (enc := enc) (C := Tryd.checked) false ({ World.holding Tryd.prog os ⟨#[], #[], []⟩ with heap := (((World.holding Tryd.prog os ⟨#[], #[], []⟩).heap.modify 0 fun
      | .cells _ t frozen => .cells #[.int .i64 1, .int .i64 32, .int .i64 91, .int .i64 96, .int .i64 1, .int .i64 64, .int .i64 97, .int .i64 102, .int .i64 7, .int .i64 32, .int .i64 139, .int .i64 145, .int .i64 7, .int .i64 64, .int .i64 153, .int .i64 159, .int .i64 14, .int .i64 32, .int .i64 146, .int .i64 152, .int .i64 14, .int .i64 64, .int .i64 160, .int .i64 166] t frozen
      | o => o).modify 1 fun
      | .cells _ t frozen => .cells #[.int .i64 21, .int .i64 32, .int .i64 32, .bool true, .int .i64 21, .int .i64 32, .int .i64 32, .bool false, .int .i64 21, .int .i64 64, .int .i64 32, .bool true, .int .i64 21, .int .i64 64, .int .i64 32, .bool false, .int .i64 0, .int .i64 0, .int .i64 0, .bool false, .int .i64 0, .int .i64 0, .int .i64 0, .bool false, .int .i64 21, .int .i64 32, .int .i64 64, .bool true, .int .i64 21, .int .i64 32, .int .i64 64, .bool false, .int .i64 21, .int .i64 64, .int .i64 64, .bool true, .int .i64 21, .int .i64 64, .int .i64 64, .bool false, .int .i64 23, .int .i64 32, .int .i64 32, .bool true, .int .i64 23, .int .i64 32, .int .i64 32, .bool false, .int .i64 23, .int .i64 64, .int .i64 32, .bool true, .int .i64 23, .int .i64 64, .int .i64 32, .bool false, .int .i64 24, .int .i64 64, .int .i64 32, .bool false, .int .i64 23, .int .i64 32, .int .i64 64, .bool true, .int .i64 23, .int .i64 32, .int .i64 64, .bool false, .int .i64 23, .int .i64 64, .int .i64 64, .bool true, .int .i64 23, .int .i64 64, .int .i64 64, .bool false, .int .i64 25, .int .i64 32, .int .i64 64, .bool false, .int .i64 26, .int .i64 32, .int .i64 32, .bool false, .int .i64 26, .int .i64 64, .int .i64 64, .bool false, .int .i64 26, .int .i64 32, .int .i64 32, .bool false, .int .i64 26, .int .i64 64, .int .i64 64, .bool false] t frozen
      | o => o) } : World) #[.int .u64 0] rfl (by kernel_rfl) (by kernel_rfl) (by kernel_rfl)
      (OpenSpec.preRow_of_cond 8 hx (by kernel_rfl) (fun k hk => by cases hk) (by kernel_rfl) (laid_met os))) ?_
  intro W base args ds gs before hval hW _ _ _ hL _ _
  exact contract H enc W base args ds gs before hval hW hL
theorem said : Rows.FnumThereSaid :=
  OpenClaim.holds_of_cond 4 Tryd.f4 rfl rfl rfl rfl rfl rfl rfl ⟨rfl, rfl, rfl, rfl, rfl⟩ rfl rfl rfl rfl rfl (by kernel_rfl) Tryd.func4 (by kernel_rfl)
    (of_decide_eq_true (by kernel_rfl)) (by unfold Func.isWrapper; first | (rw [if_pos (by decide +kernel)]; kernel_rfl) | (rw [if_neg (by decide +kernel)]; exact ⟨rfl, rfl⟩))
    (fun os started H enc _ F => by rw [OpenClaim.pre_eq_preRow]; exact lifted os started H enc F)
/- No parameter wants a stand-in; the program's own looks are off: what the card asks. -/
theorem plain (f : FuncId) (fn : Func) (hf : Tryd.pinned.checked.prog.funcNamed "ratchet/ratchetlaw04.FnumThere" = some f) (hfn : Tryd.pinned.checked.prog.funcs[f]? = some fn) :
    false = Tryd.pinned.checked.prog.looks [] ∧ ∀ (j : Nat) t, fn.params[j]? = some t → Tryd.pinned.checked.prog.wantsStandIn t = false := by
  obtain rfl : f = 4 := Option.some.inj ((show Tryd.prog.funcNamed "ratchet/ratchetlaw04.FnumThere" = some 4 by kernel_rfl).symm.trans hf) |>.symm
  obtain rfl : fn = Tryd.f4 := (Option.some.inj (Tryd.func4.symm.trans hfn)).symm
  refine ⟨by kernel_rfl, fun j t ht => ?_⟩
  rw [Tryd.params4] at ht
  have hm : t ∈ [22] := by simpa using Array.mem_of_getElem? ht
  have hall : ([22].all fun u => !Tryd.prog.wantsStandIn u) = true := by kernel_rfl
  exact (show Tryd.prog.wantsStandIn t = false by simpa using List.all_eq_true.1 hall t hm)
end Go.Proofs.YtjkebimmddlccabDoor.fnumThere
namespace Go.Proofs.YtjkebimmddlccabDoor
theorem fnumThere_holds : Rows.FnumThereCardSaid :=
  Claim7.holds_tied_plain_at .later [] _ _ _ _ fnumThere.said (fun _ h => by cases h) (by kernel_rfl) (fun _ h => by cases h) fnumThere_row_tie rfl ⟨rfl, rfl⟩ (by kernel_rfl) rfl fnumThere.plain (by kernel_rfl)
#print axioms fnumThere_holds
end Go.Proofs.YtjkebimmddlccabDoor
