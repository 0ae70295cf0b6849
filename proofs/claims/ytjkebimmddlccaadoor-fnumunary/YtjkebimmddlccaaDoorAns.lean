/-
  What fnum's Binary, Compare and Unary answer, operator by operator; no statement is proved here.
-/
import Derived.Test.YtjkebimmddlccaaDoorFnB
import Derived.Test.YtjkebimmddlccaaDoorFnU
import Derived.Test.YtjkebimmddlccaaDoorResM
namespace Go.Proofs.YtjkebimmddlccaaDoor
open Go.RowKit
set_option linter.unusedVariables false
set_option linter.unusedSimpArgs false

theorem cast_nat (a : Int) (h0 : 0 ≤ a) (h1 : a < 18446744073709551616) : ∃ b : Nat, a = b ∧ b < 18446744073709551616 := ⟨a.toNat, by omega, by omega⟩
theorem Bin32 (k : Nat) (hk : k < 6) (a b : Nat) (ha : a < 18446744073709551616) (hb : b < 18446744073709551616) (w : World) (hT : Rws w) :
    Calls Tryd.prog 10 #[.int .i64 ((146 + k : Nat) : Int), .int .u64 (a : Int), .int .u64 (b : Int)] w fun e w' => e = .returned (.tuple #[.int .u64 (((bop Ieee.single k (a % 2 ^ 32) (b % 2 ^ 32)).getD (cn Ieee.single) : Nat) : Int), .int .i64 0]) ∧ Grew w w' := by
  have F := find_14a ((146 + k : Nat) : Int) w hT (by omega) (by omega)
  have e1 : ((146 + k : Nat) : Int) - 132 = ((14 + k : Nat) : Int) := by omega
  rw [e1] at F
  exact Binary_c32 _ _ _ _ _ _ _ _ w (beq_eq_false_iff_ne.2 (by omega)) (beq_eq_false_iff_ne.2 (by omega)) F (fun w => take32_any a ha w) (fun w => take32_any b hb w)
    (fun w => bin32_any k hk _ _ (Nat.mod_lt _ (by decide)) (Nat.mod_lt _ (by decide)) w) (fun z w hz => lay32_any _ z hz (fun r hr => bop_num (by simp [Two]) hr) w)
theorem Cps32 (a b : Nat) (ha : a < 18446744073709551616) (hb : b < 18446744073709551616) (w : World) (hT : Rws w) :
    Calls Tryd.prog 10 #[.int .i64 152, .int .u64 (a : Int), .int .u64 (b : Int)] w fun e w' => e = .returned (.tuple #[.int .u64 (bits .or .u64 (bits .andNot .u64 ((a % 2 ^ 32 : Nat) : Int) 2147483648) (bits .and .u64 (b : Int) 2147483648)), .int .i64 0]) ∧ Grew w w' := by
  have F := find_14a 152 w hT (by omega) (by omega)
  exact Binary_s32 _ _ _ _ w F (fun w => fcut32 a ha w) (fun w => sbit32 w)
theorem Cmp32 (k : Nat) (hk : k < 6) (a b : Nat) (ha : a < 18446744073709551616) (hb : b < 18446744073709551616) (w : World) (hT : Rws w) :
    Calls Tryd.prog 12 #[.int .i64 ((91 + k : Nat) : Int), .int .u64 (a : Int), .int .u64 (b : Int)] w fun e w' => e = .returned (.tuple #[.int .u64 (if cop Ieee.single k (a % 2 ^ 32) (b % 2 ^ 32) then 1 else 0), .int .i64 0]) ∧ Grew w w' := by
  have F := find_1a ((91 + k : Nat) : Int) w hT (by omega) (by omega)
  have e1 : ((91 + k : Nat) : Int) - 90 = ((1 + k : Nat) : Int) := by omega
  rw [e1] at F
  exact Compare_c32 _ _ _ _ _ _ _ _ w (beq_eq_false_iff_ne.2 (by omega)) rfl F (fun w => take32_any a ha w) (fun w => take32_any b hb w)
    (fun w => cmp32_any k hk _ _ w) (fun w => truth_any _ w)
theorem Abs32 (a : Nat) (ha : a < 18446744073709551616) (w : World) (hT : Rws w) :
    Calls Tryd.prog 8 #[.int .i64 139, .int .u64 (a : Int)] w fun e w' => e = .returned (.tuple #[.int .u64 (bits .andNot .u64 ((a % 2 ^ 32 : Nat) : Int) 2147483648), .int .i64 0]) ∧ Grew w w' := by
  have F := find_7a 139 w hT (by omega) (by omega)
  exact Unary_abs32 _ _ _ w F (fun w => fcut32 a ha w) (fun w => sbit32 w)
theorem Neg32 (a : Nat) (ha : a < 18446744073709551616) (w : World) (hT : Rws w) :
    Calls Tryd.prog 8 #[.int .i64 140, .int .u64 (a : Int)] w fun e w' => e = .returned (.tuple #[.int .u64 (bits .xor .u64 ((a % 2 ^ 32 : Nat) : Int) 2147483648), .int .i64 0]) ∧ Grew w w' := by
  have F := find_7a 140 w hT (by omega) (by omega)
  exact Unary_neg32 _ _ _ w F (fun w => fcut32 a ha w) (fun w => sbit32 w)
theorem Bin64 (k : Nat) (hk : k < 6) (a b : Nat) (ha : a < 18446744073709551616) (hb : b < 18446744073709551616) (w : World) (hT : Rws w) :
    Calls Tryd.prog 10 #[.int .i64 ((160 + k : Nat) : Int), .int .u64 (a : Int), .int .u64 (b : Int)] w fun e w' => e = .returned (.tuple #[.int .u64 (((bop Ieee.double k (a % 2 ^ 64) (b % 2 ^ 64)).getD (cn Ieee.double) : Nat) : Int), .int .i64 0]) ∧ Grew w w' := by
  have F := find_14b ((160 + k : Nat) : Int) w hT (by omega) (by omega)
  have e1 : ((160 + k : Nat) : Int) - 146 = ((14 + k : Nat) : Int) := by omega
  rw [e1] at F
  exact Binary_c64 _ _ _ _ _ _ _ _ w (beq_eq_false_iff_ne.2 (by omega)) (beq_eq_false_iff_ne.2 (by omega)) F (fun w => take64_any a ha w) (fun w => take64_any b hb w)
    (fun w => bin64_any k hk _ _ (Nat.mod_lt _ (by decide)) (Nat.mod_lt _ (by decide)) w) (fun z w hz => lay64_any _ z hz (fun r hr => bop_num (by simp [Two]) hr) w)
theorem Cps64 (a b : Nat) (ha : a < 18446744073709551616) (hb : b < 18446744073709551616) (w : World) (hT : Rws w) :
    Calls Tryd.prog 10 #[.int .i64 166, .int .u64 (a : Int), .int .u64 (b : Int)] w fun e w' => e = .returned (.tuple #[.int .u64 (bits .or .u64 (bits .andNot .u64 ((a % 2 ^ 64 : Nat) : Int) 9223372036854775808) (bits .and .u64 (b : Int) 9223372036854775808)), .int .i64 0]) ∧ Grew w w' := by
  have F := find_14b 166 w hT (by omega) (by omega)
  exact Binary_s64 _ _ _ _ w F (fun w => fcut64 a ha w) (fun w => sbit64 w)
theorem Cmp64 (k : Nat) (hk : k < 6) (a b : Nat) (ha : a < 18446744073709551616) (hb : b < 18446744073709551616) (w : World) (hT : Rws w) :
    Calls Tryd.prog 12 #[.int .i64 ((97 + k : Nat) : Int), .int .u64 (a : Int), .int .u64 (b : Int)] w fun e w' => e = .returned (.tuple #[.int .u64 (if cop Ieee.double k (a % 2 ^ 64) (b % 2 ^ 64) then 1 else 0), .int .i64 0]) ∧ Grew w w' := by
  have F := find_1b ((97 + k : Nat) : Int) w hT (by omega) (by omega)
  have e1 : ((97 + k : Nat) : Int) - 96 = ((1 + k : Nat) : Int) := by omega
  rw [e1] at F
  exact Compare_c64 _ _ _ _ _ _ _ _ w (beq_eq_false_iff_ne.2 (by omega)) rfl F (fun w => take64_any a ha w) (fun w => take64_any b hb w)
    (fun w => cmp64_any k hk _ _ w) (fun w => truth_any _ w)
theorem Abs64 (a : Nat) (ha : a < 18446744073709551616) (w : World) (hT : Rws w) :
    Calls Tryd.prog 8 #[.int .i64 153, .int .u64 (a : Int)] w fun e w' => e = .returned (.tuple #[.int .u64 (bits .andNot .u64 ((a % 2 ^ 64 : Nat) : Int) 9223372036854775808), .int .i64 0]) ∧ Grew w w' := by
  have F := find_7b 153 w hT (by omega) (by omega)
  exact Unary_abs64 _ _ _ w F (fun w => fcut64 a ha w) (fun w => sbit64 w)
theorem Neg64 (a : Nat) (ha : a < 18446744073709551616) (w : World) (hT : Rws w) :
    Calls Tryd.prog 8 #[.int .i64 154, .int .u64 (a : Int)] w fun e w' => e = .returned (.tuple #[.int .u64 (bits .xor .u64 ((a % 2 ^ 64 : Nat) : Int) 9223372036854775808), .int .i64 0]) ∧ Grew w w' := by
  have F := find_7b 154 w hT (by omega) (by omega)
  exact Unary_neg64 _ _ _ w F (fun w => fcut64 a ha w) (fun w => sbit64 w)
theorem BinNo (op a b : Int) (w : World) (hT : Rws w) (o0 : -9223372036854775808 ≤ op) (o1 : op ≤ 9223372036854775807) (h1 : op < 146 ∨ 152 < op) (h2 : op < 160 ∨ 166 < op) :
    Calls Tryd.prog 10 #[.int .i64 op, .int .u64 a, .int .u64 b] w fun e w' => e = .returned (.tuple #[.int .u64 0, .int .i64 1]) ∧ Grew w w' :=
  Binary_no op a b w (find_14n op w hT h1 h2 o0 o1)
theorem CmpNo (op a b : Int) (w : World) (hT : Rws w) (o0 : -9223372036854775808 ≤ op) (o1 : op ≤ 9223372036854775807) (h1 : op < 91 ∨ 96 < op) (h2 : op < 97 ∨ 102 < op) :
    Calls Tryd.prog 12 #[.int .i64 op, .int .u64 a, .int .u64 b] w fun e w' => e = .returned (.tuple #[.int .u64 0, .int .i64 1]) ∧ Grew w w' :=
  Compare_no op a b w (find_1n op w hT h1 h2 o0 o1)
theorem UnaNo (op a : Int) (w : World) (hT : Rws w) (o0 : -9223372036854775808 ≤ op) (o1 : op ≤ 9223372036854775807) (h1 : op < 139 ∨ 145 < op) (h2 : op < 153 ∨ 159 < op) :
    Calls Tryd.prog 8 #[.int .i64 op, .int .u64 a] w fun e w' => e = .returned (.tuple #[.int .u64 0, .int .i64 1]) ∧ Grew w w' :=
  Unary_no op a w (find_7n op w hT h1 h2 o0 o1)
theorem one_one32 : (bop Ieee.single 0 (1065353216 % 2 ^ 32) (1065353216 % 2 ^ 32)).getD (cn Ieee.single) = 1073741824 := by decide +kernel
theorem one_one64 : (bop Ieee.double 0 (4607182418800017408 % 2 ^ 64) (4607182418800017408 % 2 ^ 64)).getD (cn Ieee.double) = 4611686018427387904 := by decide +kernel
set_option maxRecDepth 100000 in
set_option maxHeartbeats 2000000 in
theorem alive_any (w : World) (hT : Rws w) : Calls Tryd.prog 16 #[] w fun e w' => e = .returned (.bool true) ∧ Grew w w' := by
  have P' := Bin32 0 (by decide) 1065353216 1065353216 (by decide) (by decide) w hT
  rw [one_one32] at P'
  have Q' : ∀ w, Rws w → _ := fun w hw => Bin64 0 (by decide) 4607182418800017408 4607182418800017408 (by decide) (by decide) w hw
  rw [one_one64] at Q'
  have P : Hid (Calls Tryd.prog 10 #[.int .i64 146, .int .u64 1065353216, .int .u64 1065353216] w fun e w' => e = .returned (.tuple #[.int .u64 1073741824, .int .i64 0]) ∧ Grew w w') := P'
  have Q : Hid (∀ w, Rws w → Calls Tryd.prog 10 #[.int .i64 160, .int .u64 4607182418800017408, .int .u64 4607182418800017408] w fun e w' => e = .returned (.tuple #[.int .u64 4611686018427387904, .int .i64 0]) ∧ Grew w w') := Q'
  have HT : Hid (Rws w) := hT
  clear P' Q' hT
  go_enter Tryd.func16, Tryd.ntmps16
  go_wp2_with fail
  refine (P.out).mono ?_
  rintro e w1 ⟨rfl, g1⟩
  have G1 : Hid (Grew w w1) := g1
  have Q2 := Q.out w1 (HT.out.grew g1)
  clear g1
  go_wp2_with fail
  refine Q2.mono ?_
  rintro e w2 ⟨rfl, g2⟩
  have G2 : Hid (Grew w1 w2) := g2
  clear g2
  go_wp2
  go_ret
  go_light
  exact ⟨by first | rfl | simp, G1.out.trans G2.out⟩
theorem layw32 (z : Nat) (hz : z < 2 ^ 32) (w : World) : Calls Tryd.prog 22 #[.float .f32 z] w fun e w' => ∃ R : Nat, e = .returned (.int .u64 (R : Int)) ∧ One Ieee.single R ∧ w' = w := by
  by_cases hn : Ieee.single.infRung < sz Ieee.single z
  · exact (lay32_nan z hn w).mono fun e w' ⟨he, hw⟩ => ⟨_, he, ⟨by decide, fun _ => rfl⟩, hw⟩
  · exact (lay32_num z hz hn w).mono fun e w' ⟨he, hw⟩ => ⟨_, he, ⟨hz, fun h => absurd h hn⟩, hw⟩
set_option maxRecDepth 100000 in
set_option maxHeartbeats 2000000 in
theorem Unaw32 (k : Nat) (h9 : 9 ≤ k) (h13 : k ≤ 13) (a : Nat) (ha : a < 18446744073709551616) (w : World) (hT : Rws w) :
    Calls Tryd.prog 8 #[.int .i64 ((132 + k : Nat) : Int), .int .u64 (a : Int)] w fun e w' => ∃ R : Nat, e = .returned (.tuple #[.int .u64 (R : Int), .int .i64 0]) ∧ One Ieee.single R ∧ Grew w w' := by
  have F' := find_7a ((132 + k : Nat) : Int) w hT (by omega) (by omega)
  have e1 : ((132 + k : Nat) : Int) - 132 = (k : Int) := by omega
  rw [e1] at F'
  have hA : a % 2 ^ 32 < 2 ^ 32 := Nat.mod_lt _ (by decide)
  have TA' := fun w : World => take32_any a ha w
  generalize a % 2 ^ 32 = A at *
  have N' : ∀ w : World, Calls Tryd.prog 23 #[.int .i64 (k : Int), .float .f32 A] w fun e w' => ∃ z, e = .returned (.float .f32 z) ∧ z < 2 ^ 32 ∧ Grew w w' := fun w =>
    (una32_any k h9 h13 A hA w).mono fun e w' ⟨z, he, ⟨_, _, _, _, hz⟩, hg⟩ => ⟨z, he, hz.1, hg⟩
  generalize ((132 + k : Nat) : Int) = op at *
  have n0 : ((k : Int) == 0) = false := beq_eq_false_iff_ne.2 (by omega)
  have n1 : ((k : Int) == 7) = false := beq_eq_false_iff_ne.2 (by omega)
  have n2 : ((k : Int) == 8) = false := beq_eq_false_iff_ne.2 (by omega)
  clear h9 h13 e1
  generalize (k : Int) = K at *
  have F : Hid (Calls Tryd.prog 19 #[.int .i64 7, .int .i64 op] w fun e w' => e = .returned (.tuple #[.int .i64 K, .int .i64 32]) ∧ Grew w w') := F'
  have TA : Hid (∀ w : World, Calls Tryd.prog 24 #[.int .u64 (a : Int)] w fun e w' => e = .returned (.float .f32 A) ∧ w' = w) := TA'
  have N : Hid (∀ w : World, Calls Tryd.prog 23 #[.int .i64 K, .float .f32 A] w fun e w' => ∃ z, e = .returned (.float .f32 z) ∧ z < 2 ^ 32 ∧ Grew w w') := N'
  clear F' TA' N' hT
  go_enter Tryd.func8, Tryd.ntmps8
  go_wp2_with fail
  refine (F.out).mono ?_
  rintro e w1 ⟨rfl, g1⟩
  have G1 : Hid (Grew w w1) := g1
  clear g1
  go_wp2_with fail
  refine (TA.out _).mono ?_
  rintro e w2 ⟨rfl, h2⟩
  obtain rfl := h2.symm
  go_wp2_with fail
  refine (N.out _).mono ?_
  rintro e w4 ⟨z, rfl, hz, g4⟩
  have L2 := layw32 z hz w4
  have G4 : Hid (Grew w1 w4) := by first | exact g4
  clear g4 hz
  go_wp2_with fail
  refine L2.mono ?_
  rintro e w5 ⟨R, rfl, hR, h5⟩
  obtain rfl := h5.symm
  have HR : Hid (One Ieee.single R) := hR
  clear hR
  go_wp2
  go_ret2
  go_light
  exact ⟨R, rfl, HR.out, G1.out.trans G4.out⟩
theorem layw64 (z : Nat) (hz : z < 2 ^ 64) (w : World) : Calls Tryd.prog 25 #[.float .f64 z] w fun e w' => ∃ R : Nat, e = .returned (.int .u64 (R : Int)) ∧ One Ieee.double R ∧ w' = w := by
  by_cases hn : Ieee.double.infRung < sz Ieee.double z
  · exact (lay64_nan z hn w).mono fun e w' ⟨he, hw⟩ => ⟨_, he, ⟨by decide, fun _ => rfl⟩, hw⟩
  · exact (lay64_num z hz hn w).mono fun e w' ⟨he, hw⟩ => ⟨_, he, ⟨hz, fun h => absurd h hn⟩, hw⟩
set_option maxRecDepth 100000 in
set_option maxHeartbeats 2000000 in
theorem Unaw64 (k : Nat) (h9 : 9 ≤ k) (h13 : k ≤ 13) (a : Nat) (ha : a < 18446744073709551616) (w : World) (hT : Rws w) :
    Calls Tryd.prog 8 #[.int .i64 ((146 + k : Nat) : Int), .int .u64 (a : Int)] w fun e w' => ∃ R : Nat, e = .returned (.tuple #[.int .u64 (R : Int), .int .i64 0]) ∧ One Ieee.double R ∧ Grew w w' := by
  have F' := find_7b ((146 + k : Nat) : Int) w hT (by omega) (by omega)
  have e1 : ((146 + k : Nat) : Int) - 146 = (k : Int) := by omega
  rw [e1] at F'
  have hA : a % 2 ^ 64 < 2 ^ 64 := Nat.mod_lt _ (by decide)
  have TA' := fun w : World => take64_any a ha w
  generalize a % 2 ^ 64 = A at *
  have N' : ∀ w : World, Calls Tryd.prog 26 #[.int .i64 (k : Int), .float .f64 A] w fun e w' => ∃ z, e = .returned (.float .f64 z) ∧ z < 2 ^ 64 ∧ Grew w w' := fun w =>
    (una64_any k h9 h13 A hA w).mono fun e w' ⟨z, he, hz, hg⟩ => ⟨z, he, hz.1, hg⟩
  generalize ((146 + k : Nat) : Int) = op at *
  have n0 : ((k : Int) == 0) = false := beq_eq_false_iff_ne.2 (by omega)
  have n1 : ((k : Int) == 7) = false := beq_eq_false_iff_ne.2 (by omega)
  have n2 : ((k : Int) == 8) = false := beq_eq_false_iff_ne.2 (by omega)
  clear h9 h13 e1
  generalize (k : Int) = K at *
  have F : Hid (Calls Tryd.prog 19 #[.int .i64 7, .int .i64 op] w fun e w' => e = .returned (.tuple #[.int .i64 K, .int .i64 64]) ∧ Grew w w') := F'
  have TA : Hid (∀ w : World, Calls Tryd.prog 27 #[.int .u64 (a : Int)] w fun e w' => e = .returned (.float .f64 A) ∧ w' = w) := TA'
  have N : Hid (∀ w : World, Calls Tryd.prog 26 #[.int .i64 K, .float .f64 A] w fun e w' => ∃ z, e = .returned (.float .f64 z) ∧ z < 2 ^ 64 ∧ Grew w w') := N'
  clear F' TA' N' hT
  go_enter Tryd.func8, Tryd.ntmps8
  go_wp2_with fail
  refine (F.out).mono ?_
  rintro e w1 ⟨rfl, g1⟩
  have G1 : Hid (Grew w w1) := g1
  clear g1
  go_wp2_with fail
  refine (TA.out _).mono ?_
  rintro e w2 ⟨rfl, h2⟩
  obtain rfl := h2.symm
  go_wp2_with fail
  refine (N.out _).mono ?_
  rintro e w4 ⟨z, rfl, hz, g4⟩
  have L2 := layw64 z hz w4
  have G4 : Hid (Grew w1 w4) := by first | exact g4
  clear g4 hz
  go_wp2_with fail
  refine L2.mono ?_
  rintro e w5 ⟨R, rfl, hR, h5⟩
  obtain rfl := h5.symm
  have HR : Hid (One Ieee.double R) := hR
  clear hR
  go_wp2
  go_ret2
  go_light
  exact ⟨R, rfl, HR.out, G1.out.trans G4.out⟩
end Go.Proofs.YtjkebimmddlccaaDoor
