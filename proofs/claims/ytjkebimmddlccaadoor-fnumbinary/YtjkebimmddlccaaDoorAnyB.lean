/-
  What the document's Add, Mul, Div and Binary answer for every word; no statement is proved here.
-/
import Derived.Test.YtjkebimmddlccaaDoorBinS
import Derived.Test.YtjkebimmddlccaaDoorAddW
import Derived.Test.YtjkebimmddlccaaDoorMulW
import Derived.Test.YtjkebimmddlccaaDoorDivW
import Derived.Test.YtjkebimmddlccaaDoorFBin
namespace Go.Proofs.YtjkebimmddlccaaDoor
open Go.RowKit
set_option linter.unusedVariables false
set_option linter.unusedSimpArgs false

theorem sw_pow (f : Ieee.Format) : ∃ k, f.signWeight = 2 ^ k := ⟨_, rfl⟩
theorem sw_64 {f : Ieee.Format} (ht : Two f) : 2 * f.signWeight ≤ 18446744073709551616 := by
  rcases ht with rfl | rfl <;> decide
theorem bit_pow (n k : Nat) : n / 2 ^ k % 2 = (n.testBit k).toNat := (Nat.toNat_testBit n k).symm
theorem ng_toNat (f : Ieee.Format) (a : Nat) : (ng f a).toNat = a / f.signWeight % 2 := by
  unfold ng
  rcases (by omega : a / f.signWeight % 2 = 0 ∨ a / f.signWeight % 2 = 1) with h | h <;> rw [h] <;> rfl
theorem and_sgn {f : Ieee.Format} (ht : Two f) (a : Nat) (ha : a < 18446744073709551616) : bits .and .u64 (a : Int) (f.signWeight : Int) = (((ng f a).toNat * f.signWeight : Nat) : Int) := by
  have h2 := sw_64 ht
  have hp := sw_pos f
  rw [bits_and_u64_nat a f.signWeight ha (by omega), ng_toNat]
  obtain ⟨k, hk⟩ := sw_pow f
  rw [hk, and_pow]
theorem ng_xor (f : Ieee.Format) (a b : Nat) : ng f (a ^^^ b) = (ng f a ^^ ng f b) := by
  have h : ∀ n : Nat, ng f n = n.testBit (f.exponentBits + f.fractionBits) := fun n => by
    rw [Nat.testBit_eq_decide_div_mod_eq]
    unfold ng
    rfl
  rw [h, h, h, Nat.testBit_xor]
theorem sgn_xor {f : Ieee.Format} (ht : Two f) (a b : Nat) (ha : a < 2 * f.signWeight) (hb : b < 2 * f.signWeight) :
    bits .and .u64 (bits .xor .u64 (a : Int) (b : Int)) (f.signWeight : Int) = (((ng f a ^^ ng f b).toNat * f.signWeight : Nat) : Int) := by
  have h2 := sw_64 ht
  rw [bits_xor_u64_nat a b (by omega) (by omega), and_sgn ht _ (Nat.xor_lt_two_pow (n := 64) (Nat.lt_of_lt_of_le ha h2) (Nat.lt_of_lt_of_le hb h2)), ng_xor]
theorem word_add (f : Ieee.Format) (s : Bool) (r : Nat) : f.word s r = s.toNat * f.signWeight + r := by
  unfold Ieee.Format.word; cases s <;> simp
theorem beq_nat_t {x y : Nat} (h : x = y) : ((x : Int) == (y : Int)) = true := beq_iff_eq.2 (by omega)
theorem beq_nat_f {x y : Nat} (h : x ≠ y) : ((x : Int) == (y : Int)) = false := beq_eq_false_iff_ne.2 (by omega)
theorem beq_nat_t0 {x : Nat} (h : x = 0) : ((x : Int) == 0) = true := beq_iff_eq.2 (by omega)
theorem beq_nat_f0 {x : Nat} (h : x ≠ 0) : ((x : Int) == 0) = false := beq_eq_false_iff_ne.2 (by omega)
theorem add_some {f : Ieee.Format} {a b : Nat} (ht : Two f) (fa : sz f a < f.infRung) (fb : sz f b < f.infRung) : ∃ r, f.add a b = some r := by
  unfold Ieee.Format.add
  rw [read_fin ht fa, read_fin ht fb]
  exact ⟨_, rfl⟩
theorem inf_pos {f : Ieee.Format} (ht : Two f) : 0 < f.infRung := by have := two_bin ht; have := binade_pos f; omega
theorem Add_any {f : Ieee.Format} (ht : Two f) (a b : Nat) (ha : a < 2 * f.signWeight) (hb : b < 2 * f.signWeight) (fa : sz f a ≤ f.infRung) (fb : sz f b ≤ f.infRung) (w : World) :
    Calls Tryd.prog 67 #[fv f, .int .u64 (a : Int), .int .u64 (b : Int)] w fun en w' => en = .returned (.int .u64 (((f.add a b).getD (cn f) : Nat) : Int)) ∧ Grew w w' := by
  have h2 := sw_64 ht
  have a6 : a < 18446744073709551616 := by omega
  have b6 : b < 18446744073709551616 := by omega
  have Za := fun w : World => size_any ht a a6 w
  have Zb := fun w : World => size_any ht b b6 w
  have If := fun w : World => inf_any ht w
  have Nn := fun w : World => nan_any ht w
  have ip := inf_pos ht
  by_cases ia : sz f a = f.infRung
  · by_cases ib : sz f b = f.infRung
    · rw [add_ii ht ha hb ia ib]
      by_cases e : a = b
      · subst e
        rw [if_pos rfl, Option.getD_some]
        exact Add_b (f := f) a a _ _ _ 0 w (beq_nat_t ia) (beq_nat_t ib) (by simp) Za Zb If
      · rw [if_neg e, Option.getD_none]
        exact Add_a (f := f) a b _ _ _ _ w (beq_nat_t ia) (beq_nat_t ib) (bne_iff_ne.2 (by omega)) Za Zb If Nn
    · rw [add_if ht ha ia (by omega), Option.getD_some]
      exact Add_c (f := f) a b _ _ _ 0 w (beq_nat_t ia) (beq_nat_f ib) Za Zb If
  · by_cases ib : sz f b = f.infRung
    · rw [add_fi ht hb (by omega) ib, Option.getD_some]
      exact Add_d (f := f) a b _ _ _ 0 w (beq_nat_f ia) (beq_nat_t ib) Za Zb If
    · have fa' : sz f a < f.infRung := by omega
      have fb' : sz f b < f.infRung := by omega
      by_cases za : sz f a = 0
      · by_cases zb : sz f b = 0
        · rw [add_zz ht za zb, Option.getD_some]
          have e := Add_e (f := f) a b _ _ _ 0 w (beq_nat_f ia) (beq_nat_f ib) (beq_nat_t0 za) (beq_nat_t0 zb) Za Zb If
          rw [bits_and_u64_nat a b a6 b6] at e
          have hab : a &&& b = f.word (ng f a && ng f b) 0 := by
            conv => lhs; rw [← word_of f ha, ← word_of f hb, za, zb]
            unfold Ieee.Format.word
            cases ng f a <;> cases ng f b <;> simp
          rw [hab] at e
          exact e
        · obtain ⟨r, hr⟩ := add_some ht fa' fb'
          have Sm := fun w : World => sum_any ht a b a6 b6 fa' fb' (Or.inr zb) w
          rw [hr, Option.getD_some] at Sm
          rw [hr, Option.getD_some]
          exact Add_f (f := f) a b _ _ _ _ w (beq_nat_f ia) (beq_nat_f ib) (beq_nat_t0 za) (beq_nat_f0 zb) Za Zb If Sm
      · obtain ⟨r, hr⟩ := add_some ht fa' fb'
        have Sm := fun w : World => sum_any ht a b a6 b6 fa' fb' (Or.inl za) w
        rw [hr, Option.getD_some] at Sm
        rw [hr, Option.getD_some]
        exact Add_g (f := f) a b _ _ _ _ w (beq_nat_f ia) (beq_nat_f ib) (beq_nat_f0 za) Za Zb If Sm
theorem wrap_word {f : Ieee.Format} (ht : Two f) (s : Bool) : IntKind.u64.wrap (((s.toNat * f.signWeight : Nat) : Int) + (f.infRung : Int)) = ((f.word s f.infRung : Nat) : Int) := by
  rw [word_add, IntKind.wrap_u64]
  have h2 := sw_64 ht
  have h3 := inf_lt f
  cases s
  · simp only [Bool.toNat_false, Nat.zero_mul]; omega
  · simp only [Bool.toNat_true, Nat.one_mul]; omega
theorem word_0 (f : Ieee.Format) (s : Bool) : f.word s 0 = s.toNat * f.signWeight := by rw [word_add, Nat.add_zero]
theorem Mul_any {f : Ieee.Format} (ht : Two f) (a b : Nat) (ha : a < 2 * f.signWeight) (hb : b < 2 * f.signWeight) (fa : sz f a ≤ f.infRung) (fb : sz f b ≤ f.infRung) (w : World) :
    Calls Tryd.prog 68 #[fv f, .int .u64 (a : Int), .int .u64 (b : Int)] w fun en w' => en = .returned (.int .u64 (((f.mul a b).getD (cn f) : Nat) : Int)) ∧ Grew w w' := by
  have h2 := sw_64 ht
  have a6 : a < 18446744073709551616 := by omega
  have b6 : b < 18446744073709551616 := by omega
  have Za := fun w : World => size_any ht a a6 w
  have Zb := fun w : World => size_any ht b b6 w
  have If := fun w : World => inf_any ht w
  have Nn := fun w : World => nan_any ht w
  have Sg := fun w : World => sign_any ht w
  have ip := inf_pos ht
  have hT := sgn_xor ht a b ha hb
  have hR := wrap_word ht (ng f a ^^ ng f b)
  by_cases ia : sz f a = f.infRung
  · have za : sz f a ≠ 0 := by omega
    by_cases ib : sz f b = f.infRung
    · have zb : sz f b ≠ 0 := by omega
      rw [mul_ii ht ia ib, Option.getD_some]
      exact Mul_ii (f := f) a b _ _ _ _ _ _ w (beq_nat_t ia) (beq_nat_f0 za) (beq_nat_t ib) (beq_nat_f0 zb) hT hR Za Zb If Sg
    · rw [mul_if ht ia (by omega)]
      by_cases zb : sz f b = 0
      · rw [if_pos zb, Option.getD_none]
        exact Mul_iz (f := f) a b _ _ _ _ _ _ w (beq_nat_t ia) (beq_nat_f0 za) (beq_nat_f ib) (beq_nat_t0 zb) hT Za Zb If Sg Nn
      · rw [if_neg zb, Option.getD_some]
        exact Mul_io (f := f) a b _ _ _ _ _ _ w (beq_nat_t ia) (beq_nat_f0 za) (beq_nat_f ib) (beq_nat_f0 zb) hT hR Za Zb If Sg
  · by_cases ib : sz f b = f.infRung
    · have zb : sz f b ≠ 0 := by omega
      rw [mul_fi ht (by omega) ib]
      by_cases za : sz f a = 0
      · rw [if_pos za, Option.getD_none]
        exact Mul_zi (f := f) a b _ _ _ _ _ _ w (beq_nat_f ia) (beq_nat_t0 za) (beq_nat_t ib) (beq_nat_f0 zb) hT Za Zb If Sg Nn
      · rw [if_neg za, Option.getD_some]
        exact Mul_oi (f := f) a b _ _ _ _ _ _ w (beq_nat_f ia) (beq_nat_f0 za) (beq_nat_t ib) (beq_nat_f0 zb) hT hR Za Zb If Sg
    · have Pd := fun w : World => product_any ht a b a6 b6 (by omega) (by omega) w
      rw [mul_fin ht (by omega) (by omega), Option.getD_some] at Pd
      rw [mul_fin ht (by omega) (by omega), Option.getD_some]
      by_cases za : sz f a = 0 <;> by_cases zb : sz f b = 0
      · exact Mul_zz (f := f) a b _ _ _ _ _ _ w (beq_nat_f ia) (beq_nat_t0 za) (beq_nat_f ib) (beq_nat_t0 zb) hT Za Zb If Sg Pd
      · exact Mul_zo (f := f) a b _ _ _ _ _ _ w (beq_nat_f ia) (beq_nat_t0 za) (beq_nat_f ib) (beq_nat_f0 zb) hT Za Zb If Sg Pd
      · exact Mul_oz (f := f) a b _ _ _ _ _ _ w (beq_nat_f ia) (beq_nat_f0 za) (beq_nat_f ib) (beq_nat_t0 zb) hT Za Zb If Sg Pd
      · exact Mul_oo (f := f) a b _ _ _ _ _ _ w (beq_nat_f ia) (beq_nat_f0 za) (beq_nat_f ib) (beq_nat_f0 zb) hT Za Zb If Sg Pd
theorem Div_any {f : Ieee.Format} (ht : Two f) (a b : Nat) (ha : a < 2 * f.signWeight) (hb : b < 2 * f.signWeight) (fa : sz f a ≤ f.infRung) (fb : sz f b ≤ f.infRung) (w : World) :
    Calls Tryd.prog 69 #[fv f, .int .u64 (a : Int), .int .u64 (b : Int)] w fun en w' => en = .returned (.int .u64 (((f.div a b).getD (cn f) : Nat) : Int)) ∧ Grew w w' := by
  have h2 := sw_64 ht
  have a6 : a < 18446744073709551616 := by omega
  have b6 : b < 18446744073709551616 := by omega
  have Za := fun w : World => size_any ht a a6 w
  have Zb := fun w : World => size_any ht b b6 w
  have If := fun w : World => inf_any ht w
  have Nn := fun w : World => nan_any ht w
  have Sg := fun w : World => sign_any ht w
  have ip := inf_pos ht
  have hT := sgn_xor ht a b ha hb
  have hR := wrap_word ht (ng f a ^^ ng f b)
  by_cases ia : sz f a = f.infRung
  · have za : sz f a ≠ 0 := by omega
    by_cases ib : sz f b = f.infRung
    · have zb : sz f b ≠ 0 := by omega
      rw [div_ii ht ia ib, Option.getD_none]
      exact Div_ii (f := f) a b _ _ _ _ _ _ w (beq_nat_t ia) (beq_nat_f0 za) (beq_nat_t ib) (beq_nat_f0 zb) hT Za Zb If Sg Nn
    · rw [div_if ht ia (by omega), Option.getD_some]
      by_cases zb : sz f b = 0
      · exact Div_iz (f := f) a b _ _ _ _ _ _ w (beq_nat_t ia) (beq_nat_f0 za) (beq_nat_f ib) (beq_nat_t0 zb) hT hR Za Zb If Sg
      · exact Div_io (f := f) a b _ _ _ _ _ _ w (beq_nat_t ia) (beq_nat_f0 za) (beq_nat_f ib) (beq_nat_f0 zb) hT hR Za Zb If Sg
  · by_cases ib : sz f b = f.infRung
    · have zb : sz f b ≠ 0 := by omega
      rw [div_fi ht (by omega) ib, Option.getD_some, word_0]
      by_cases za : sz f a = 0
      · exact Div_zi (f := f) a b _ _ _ _ _ 0 w (beq_nat_f ia) (beq_nat_t0 za) (beq_nat_t ib) (beq_nat_f0 zb) hT Za Zb If Sg
      · exact Div_oi (f := f) a b _ _ _ _ _ 0 w (beq_nat_f ia) (beq_nat_f0 za) (beq_nat_t ib) (beq_nat_f0 zb) hT Za Zb If Sg
    · by_cases zb : sz f b = 0
      · rw [div_fz ht (by omega) zb]
        by_cases za : sz f a = 0
        · rw [if_pos za, Option.getD_none]
          exact Div_zz (f := f) a b _ _ _ _ _ _ w (beq_nat_f ia) (beq_nat_t0 za) (beq_nat_f ib) (beq_nat_t0 zb) hT Za Zb If Sg Nn
        · rw [if_neg za, Option.getD_some]
          exact Div_oz (f := f) a b _ _ _ _ _ _ w (beq_nat_f ia) (beq_nat_f0 za) (beq_nat_f ib) (beq_nat_t0 zb) hT hR Za Zb If Sg
      · by_cases za : sz f a = 0
        · rw [div_zf ht za (by omega) zb, Option.getD_some, word_0]
          exact Div_zo (f := f) a b _ _ _ _ _ 0 w (beq_nat_f ia) (beq_nat_t0 za) (beq_nat_f ib) (beq_nat_f0 zb) hT Za Zb If Sg
        · have Qu := fun w : World => quotient_any ht a b a6 b6 (by omega) (by omega) za zb w
          rw [div_fin ht (by omega) (by omega) za zb, Option.getD_some] at Qu
          rw [div_fin ht (by omega) (by omega) za zb, Option.getD_some]
          exact Div_oo (f := f) a b _ _ _ _ _ _ w (beq_nat_f ia) (beq_nat_f0 za) (beq_nat_f ib) (beq_nat_f0 zb) hT Za Zb If Sg Qu
theorem mm_some {f : Ieee.Format} (ht : Two f) (m : Bool) {a b : Nat} (fa : sz f a ≤ f.infRung) (fb : sz f b ≤ f.infRung) : ∃ r, mm f m a b = some r := by
  unfold mm
  rw [order_key ht fa fb]
  cases compare (key f a) (key f b) <;> exact ⟨_, rfl⟩
theorem xor_tg {f : Ieee.Format} (ht : Two f) {a : Nat} (ha : a < 2 * f.signWeight) : bits .xor .u64 (a : Int) (f.signWeight : Int) = ((tg f a : Nat) : Int) := by
  rcases ht with rfl | rfl
  · rw [sw1] at ha ⊢; exact xor_31 a (by omega)
  · rw [sw2] at ha ⊢; exact xor_63 a (by omega)
theorem wid_sw (f : Ieee.Format) (ht : Two f) : 2 ^ f.width = 2 * f.signWeight := by rcases ht with rfl | rfl <;> decide
theorem FBin_any {f : Ieee.Format} (ht : Two f) (k : Nat) (hk : k < 6) (a b : Nat) (ha : a < 18446744073709551616) (hb : b < 18446744073709551616) (w : World) :
    Calls Tryd.prog 32 #[fv f, .int .i64 (k : Int), .int .u64 (a : Int), .int .u64 (b : Int)] w fun e w' => e = .returned (.int .u64 (((bop f k (a % 2 ^ f.width) (b % 2 ^ f.width)).getD (cn f) : Nat) : Int)) ∧ Grew w w' := by
  have U1 := fun w : World => cutF_any ht a ha w
  have U2 := fun w : World => cutF_any ht b hb w
  have h2 := sw_64 ht
  have A2 : a % 2 ^ f.width < 2 * f.signWeight := by rw [← wid_sw f ht]; exact Nat.mod_lt _ (Nat.two_pow_pos _)
  have D2 : b % 2 ^ f.width < 2 * f.signWeight := by rw [← wid_sw f ht]; exact Nat.mod_lt _ (Nat.two_pow_pos _)
  generalize a % 2 ^ f.width = A at *
  generalize b % 2 ^ f.width = D at *
  have hA : A < 18446744073709551616 := by omega
  have hD : D < 18446744073709551616 := by omega
  have N1 := fun w : World => isNan_any ht A hA w
  have N2 := fun w : World => isNan_any ht D hD w
  have Nn := fun w : World => nan_any ht w
  have k6 : ((k : Int) == 6) = false := beq_eq_false_iff_ne.2 (by omega)
  by_cases n1 : f.infRung < sz f A
  · simp only [n1, decide_true] at N1
    rw [nan_bop ht (Or.inl n1), Option.getD_none]
    exact FBin_nana (f := f) k a b A D _ w k6 U1 U2 N1 Nn
  · simp only [n1, decide_false] at N1
    by_cases n2 : f.infRung < sz f D
    · simp only [n2, decide_true] at N2
      rw [nan_bop ht (Or.inr n2), Option.getD_none]
      exact FBin_nanb (f := f) k a b A D _ w k6 U1 U2 N1 N2 Nn
    · simp only [n2, decide_false] at N2
      have fA : sz f A ≤ f.infRung := by omega
      have fD : sz f D ≤ f.infRung := by omega
      have hk' : k = 0 ∨ k = 1 ∨ k = 2 ∨ k = 3 ∨ k = 4 ∨ k = 5 := by omega
      rcases hk' with rfl | rfl | rfl | rfl | rfl | rfl
      · exact FBin_0 (f := f) a b A D _ 0 w U1 U2 N1 N2 (fun w => Add_any ht A D A2 D2 fA fD w)
      · obtain ⟨t1, t2, t3⟩ := tg_lt D2
        have Op := fun w : World => Add_any ht A (tg f D) A2 t1 fA (by rw [t2]; exact fD) w
        rw [← xor_tg ht D2, ← sub_tg ht D2] at Op
        exact FBin_1 (f := f) a b A D _ _ w U1 U2 N1 N2 Op (fun w => sign_any ht w)
      · exact FBin_2 (f := f) a b A D _ 0 w U1 U2 N1 N2 (fun w => Mul_any ht A D A2 D2 fA fD w)
      · exact FBin_3 (f := f) a b A D _ 0 w U1 U2 N1 N2 (fun w => Div_any ht A D A2 D2 fA fD w)
      · have Op := fun w : World => least_any ht false A D A2 D2 hA hD fA fD w
        obtain ⟨r, hr⟩ := mm_some ht false fA fD
        have e4 : bop f 4 A D = some r := hr
        rw [hr, Option.getD_some] at Op
        rw [e4, Option.getD_some]
        exact FBin_4 (f := f) a b A D _ 0 w U1 U2 N1 N2 Op
      · have Op := fun w : World => least_any ht true A D A2 D2 hA hD fA fD w
        obtain ⟨r, hr⟩ := mm_some ht true fA fD
        have e5 : bop f 5 A D = some r := hr
        rw [hr, Option.getD_some] at Op
        rw [e5, Option.getD_some]
        exact FBin_5 (f := f) a b A D _ 0 w U1 U2 N1 N2 Op
theorem FCps_any {f : Ieee.Format} (ht : Two f) (a b : Nat) (ha : a < 18446744073709551616) (hb : b < 18446744073709551616) (w : World) :
    Calls Tryd.prog 32 #[fv f, .int .i64 6, .int .u64 (a : Int), .int .u64 (b : Int)] w fun e w' => e = .returned (.int .u64 ((sz f (a % 2 ^ f.width) + (ng f (b % 2 ^ f.width)).toNat * f.signWeight : Nat) : Int)) ∧ Grew w w' := by
  have U1 := fun w : World => cutF_any ht a ha w
  have U2 := fun w : World => cutF_any ht b hb w
  have h2 := sw_64 ht
  have A2 : a % 2 ^ f.width < 2 * f.signWeight := by rw [← wid_sw f ht]; exact Nat.mod_lt _ (Nat.two_pow_pos _)
  have D2 : b % 2 ^ f.width < 2 * f.signWeight := by rw [← wid_sw f ht]; exact Nat.mod_lt _ (Nat.two_pow_pos _)
  generalize a % 2 ^ f.width = A at *
  generalize b % 2 ^ f.width = D at *
  have hA : A < 18446744073709551616 := by omega
  have hD : D < 18446744073709551616 := by omega
  have hs := sz_lt f A
  exact FBin_6 (f := f) a b A D _ _ _ w (by
    rw [and_sgn ht D hD, IntKind.wrap_u64]
    cases ng f D
    · simp only [Bool.toNat_false, Nat.zero_mul]; omega
    · simp only [Bool.toNat_true, Nat.one_mul]; omega) U1 U2 (fun w => size_any ht A hA w) (fun w => sign_any ht w)
theorem or_sgn (r s k : Nat) (h : r < 2 ^ k) : r ||| s * 2 ^ k = r + s * 2 ^ k := by
  rw [Nat.or_comm, Nat.mul_comm s, ← Nat.two_pow_add_eq_or_of_lt h, Nat.add_comm]
theorem cps_32 (a b : Nat) (ha : a < 18446744073709551616) (hb : b < 18446744073709551616) :
    bits .or .u64 (bits .andNot .u64 ((a % 2 ^ 32 : Nat) : Int) 2147483648) (bits .and .u64 (b : Int) 2147483648) = ((sz Ieee.single (a % 2 ^ 32) + (ng Ieee.single (b % 2 ^ 32)).toNat * Ieee.single.signWeight : Nat) : Int) := by
  rw [ng_toNat, sw1, not_31 _ (by omega), sgn_31 b hb, bits_or_u64_nat _ _ (by omega) (by omega)]
  unfold sz
  rw [sw1, or_sgn _ _ 31 (by omega)]
  omega
theorem cps_64 (a b : Nat) (ha : a < 18446744073709551616) (hb : b < 18446744073709551616) :
    bits .or .u64 (bits .andNot .u64 ((a % 2 ^ 64 : Nat) : Int) 9223372036854775808) (bits .and .u64 (b : Int) 9223372036854775808) = ((sz Ieee.double (a % 2 ^ 64) + (ng Ieee.double (b % 2 ^ 64)).toNat * Ieee.double.signWeight : Nat) : Int) := by
  rw [ng_toNat, sw2, not_63 _ (by omega), sgn_63 b hb, bits_or_u64_nat _ _ (by omega) (by omega)]
  unfold sz
  rw [sw2, or_sgn _ _ 63 (by omega)]
  omega
end Go.Proofs.YtjkebimmddlccaaDoor
