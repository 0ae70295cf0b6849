/-
  Proved: for every opcode and every two values InumBinary returns true, and the arguments read as before: every operator of two values answers as the document tells, bit by bit, and traps as it tells. No conditions.
-/
import Derived.Test.YtolllelejdnjlaaRefB
import Derived.Test.YtolllelejdnjlaaShM
import Derived.Test.YtolllelejdnjlaaKnowW
import Derived.Test.YtolllelejdnjlaaOrdM
import Derived.Test.YtolllelejdnjlaaDivM
import Derived.ChangeMaps5
import Derived.ShutString
import Derived.ChangeOld
import Derived.Below
import Derived.SizedLaws
import Derived.BigQuiet
namespace Go.Proofs.Ytolllelejdnjlaa
open Go.RowKit
set_option linter.unusedVariables false
set_option linter.unusedSimpArgs false

theorem bits_ct {t : Int} (ht : t = 1 ∨ t = 2) (A B : Int) (a0 : 0 ≤ A) (a1 : A < (if t = 1 then 4294967296 else 18446744073709551616)) (b0 : 0 ≤ B) (b1 : B < (if t = 1 then 4294967296 else 18446744073709551616)) :
    ct t (bits .and .u64 A B) = bits .and .u64 A B ∧ ct t (bits .or .u64 A B) = bits .or .u64 A B ∧ ct t (bits .xor .u64 A B) = bits .xor .u64 A B := by
  obtain ⟨x, rfl⟩ : ∃ x : Nat, A = x := ⟨A.toNat, by omega⟩
  obtain ⟨y, rfl⟩ : ∃ y : Nat, B = y := ⟨B.toNat, by omega⟩
  have h64 : 2 ^ wn t ≤ 18446744073709551616 := by unfold wn; split <;> decide
  have hx : x < 2 ^ wn t := by rcases ht with rfl | rfl <;> simp [wn] at * <;> omega
  have hy : y < 2 ^ wn t := by rcases ht with rfl | rfl <;> simp [wn] at * <;> omega
  rw [bits_and_u64_nat x y (by omega) (by omega), bits_or_u64_nat x y (by omega) (by omega), bits_xor_u64_nat x y (by omega) (by omega)]
  have n1 := Nat.and_lt_two_pow x hy
  have n2 := Nat.or_lt_two_pow hx hy
  have n3 := Nat.xor_lt_two_pow hx hy
  refine ⟨?_, ?_, ?_⟩
  · rw [ct_nat ht _ (by omega), Nat.mod_eq_of_lt n1]
  · rw [ct_nat ht _ (by omega), Nat.mod_eq_of_lt n2]
  · rw [ct_nat ht _ (by omega), Nat.mod_eq_of_lt n3]
theorem ct_small {t z : Int} (ht : t = 1 ∨ t = 2) (h0 : 0 ≤ z) (h1 : z < (if t = 1 then 4294967296 else 18446744073709551616)) : ct t z = z := by
  rcases ht with rfl | rfl <;> simp [ct] at * <;> omega
/- Where the answer has another width than what is taken, the operator takes one value. -/
theorem gv_tk {op : Int} (h : 15 ≤ kd op) (h1 : kd op ≤ 29) : gv op = tk op := by
  by_cases c0 : 80 ≤ op ∧ op ≤ 90
  · obtain ⟨e1, e2, e3⟩ := kt_0 c0
    omega
  by_cases c1 : 69 ≤ op ∧ op ≤ 79
  · obtain ⟨e1, e2, e3⟩ := kt_1 c1
    omega
  by_cases c2 : 121 ≤ op ∧ op ≤ 138
  · obtain ⟨e1, e2, e3⟩ := kt_2 c2
    omega
  by_cases c3 : 103 ≤ op ∧ op ≤ 120
  · obtain ⟨e1, e2, e3⟩ := kt_3 c3
    omega
  by_cases c4 : 194 ≤ op ∧ op ≤ 196
  · obtain ⟨e1, e2, e3⟩ := kt_4 c4
    omega
  by_cases c5 : 192 ≤ op ∧ op ≤ 193
  · obtain ⟨e1, e2, e3⟩ := kt_5 c5
    omega
  by_cases c6 : op = 167
  · obtain ⟨e1, e2, e3⟩ := kt_6 c6
    omega
  by_cases c7 : 172 ≤ op ∧ op ≤ 173
  · obtain ⟨e1, e2, e3⟩ := kt_7 c7
    omega
  exact absurd (kt_no c0 c1 c2 c3 c4 c5 c6 c7).1 (by omega)
theorem gv_cmp {op : Int} (h : 1 ≤ kd op) (h1 : kd op ≤ 11) : gv op = 1 ∧ 69 ≤ op ∧ op ≤ 90 := by
  by_cases c0 : 80 ≤ op ∧ op ≤ 90
  · obtain ⟨e1, e2, e3⟩ := kt_0 c0
    first | exact ⟨e3, by omega, by omega⟩ | (exfalso; omega)
  by_cases c1 : 69 ≤ op ∧ op ≤ 79
  · obtain ⟨e1, e2, e3⟩ := kt_1 c1
    first | exact ⟨e3, by omega, by omega⟩ | (exfalso; omega)
  by_cases c2 : 121 ≤ op ∧ op ≤ 138
  · obtain ⟨e1, e2, e3⟩ := kt_2 c2
    first | exact ⟨e3, by omega, by omega⟩ | (exfalso; omega)
  by_cases c3 : 103 ≤ op ∧ op ≤ 120
  · obtain ⟨e1, e2, e3⟩ := kt_3 c3
    first | exact ⟨e3, by omega, by omega⟩ | (exfalso; omega)
  by_cases c4 : 194 ≤ op ∧ op ≤ 196
  · obtain ⟨e1, e2, e3⟩ := kt_4 c4
    first | exact ⟨e3, by omega, by omega⟩ | (exfalso; omega)
  by_cases c5 : 192 ≤ op ∧ op ≤ 193
  · obtain ⟨e1, e2, e3⟩ := kt_5 c5
    first | exact ⟨e3, by omega, by omega⟩ | (exfalso; omega)
  by_cases c6 : op = 167
  · obtain ⟨e1, e2, e3⟩ := kt_6 c6
    first | exact ⟨e3, by omega, by omega⟩ | (exfalso; omega)
  by_cases c7 : 172 ≤ op ∧ op ≤ 173
  · obtain ⟨e1, e2, e3⟩ := kt_7 c7
    first | exact ⟨e3, by omega, by omega⟩ | (exfalso; omega)
  exact absurd (kt_no c0 c1 c2 c3 c4 c5 c6 c7).1 (by omega)
theorem not_test {op : Int} (h : 12 ≤ kd op) : ¬ (69 ≤ op ∧ op ≤ 90) := by
  by_cases c0 : 80 ≤ op ∧ op ≤ 90
  · obtain ⟨e1, e2, e3⟩ := kt_0 c0
    omega
  by_cases c1 : 69 ≤ op ∧ op ≤ 79
  · obtain ⟨e1, e2, e3⟩ := kt_1 c1
    omega
  by_cases c2 : 121 ≤ op ∧ op ≤ 138
  · obtain ⟨e1, e2, e3⟩ := kt_2 c2
    omega
  by_cases c3 : 103 ≤ op ∧ op ≤ 120
  · obtain ⟨e1, e2, e3⟩ := kt_3 c3
    omega
  by_cases c4 : 194 ≤ op ∧ op ≤ 196
  · obtain ⟨e1, e2, e3⟩ := kt_4 c4
    omega
  by_cases c5 : 192 ≤ op ∧ op ≤ 193
  · obtain ⟨e1, e2, e3⟩ := kt_5 c5
    omega
  by_cases c6 : op = 167
  · obtain ⟨e1, e2, e3⟩ := kt_6 c6
    omega
  by_cases c7 : 172 ≤ op ∧ op ≤ 173
  · obtain ⟨e1, e2, e3⟩ := kt_7 c7
    omega
  exact absurd (kt_no c0 c1 c2 c3 c4 c5 c6 c7).1 (by omega)
theorem RBinary_any (op a b : Int) (w : World) (h0 : 0 ≤ a) (h1 : a < 18446744073709551616) (h2 : 0 ≤ b) (h3 : b < 18446744073709551616) (hr : ark (kd op) = 2) :
    Calls Try.prog 17 #[.int .i64 op, .int .u64 a, .int .u64 b] w fun e w' => e = .returned (.tuple #[.int .u64 (bv op a b).1, .int .i64 (bv op a b).2]) ∧ w' = w := by
  obtain ⟨k0, k1⟩ := kd_bd op
  obtain ⟨z0, z1, z2⟩ := ark2 k0 k1 hr
  have ht := tk_or op
  have hw := wd_le (tk op)
  have BI := fun (w : World) => RBits_any op w
  unfold rb at BI
  rw [if_neg (by omega)] at BI
  have CA := fun (w : World) => Cut_any (tk op) a w ht h0
  have CB := fun (w : World) => Cut_any (tk op) b w ht h2
  have NM := fun (w : World) => RName_any op w
  obtain ⟨ba0, ba1⟩ := ct_bd ht h0 h1
  obtain ⟨bb0, bb1⟩ := ct_bd ht h2 h3
  have la := ct_lt ht h0 h1
  have lb := ct_lt ht h2 h3
  by_cases c1 : kd op ≤ 11
  · obtain ⟨g1, o1, o2⟩ := gv_cmp (by omega) c1
    rw [bv_cmp a b rfl rfl g1 z0 c1]
    exact rb_cmp op a b _ _ _ _ _ w BI CA CB NM (fun w => Test_yes op w o1 o2) (fun w => compared_any (kd op) (tk op) _ _ w z0 c1 ht ba0 la bb0 lb)
  have TS := fun (w : World) => Test_no op w (not_test (by omega))
  have hg := gv_tk (op := op) (by omega) z1
  by_cases c2 : 25 ≤ kd op
  · have e : bv op a b = (ct (tk op) (shx (kd op) (ct (tk op) a) (ct (tk op) b % wd (tk op)) (sg (tk op) (ct (tk op) a)) (wd (tk op))), 0) := by
      unfold bv
      rw [hr, if_neg (by simp), if_neg (by omega), if_neg (by omega), hg]
      unfold bnx
      rw [if_neg (by omega), if_pos c2]
    rw [e]
    have hm0 := Int.emod_nonneg (ct (tk op) b) (show wd (tk op) ≠ 0 from by omega)
    have hm1 := Int.emod_lt_of_pos (ct (tk op) b) (show 0 < wd (tk op) from by omega)
    have key : ∀ w : World, Calls Try.prog 32 #[.string (wstr (kd op)), .int .u64 (ct (tk op) a), .int .i64 (ct (tk op) b % wd (tk op)), .int .i64 (wd (tk op))] w fun e w' => e = .returned (.int .u64 (ct (tk op) (shx (kd op) (ct (tk op) a) (ct (tk op) b % wd (tk op)) (sg (tk op) (ct (tk op) a)) (wd (tk op))))) ∧ w' = w := by
      intro w
      have hn : ct (tk op) a < ((2 ^ wn (tk op) : Nat) : Int) := by rcases ht with h | h <;> rw [h] at ba1 ⊢ <;> simp [wn] at * <;> omega
      have hwn : wd (tk op) = (wn (tk op) : Int) := wd_wn _
      obtain ⟨x, hx⟩ : ∃ x : Nat, ct (tk op) a = x := ⟨(ct (tk op) a).toNat, by omega⟩
      obtain ⟨c, hc⟩ : ∃ c : Nat, ct (tk op) b % wd (tk op) = c := ⟨(ct (tk op) b % wd (tk op)).toNat, by omega⟩
      rw [hx] at hn la ⊢
      rw [hc] at hm1 ⊢
      have hxa : x < 2 ^ wn (tk op) := by omega
      have hcn : c < wn (tk op) := by omega
      have Bt := fun (i : Int) (w : World) (i0 : 0 ≤ i) (i1 : i < 64) => (bit_any (x : Int) i w (by omega) i0 i1 : Calls Try.prog 41 #[.int .u64 (x : Int), .int .i64 i] w fun e w' => e = .returned (.bool (x.testBit i.toNat)) ∧ w' = w)
      have hk : kd op = 25 ∨ kd op = 26 ∨ kd op = 27 ∨ kd op = 28 ∨ kd op = 29 := by omega
      rcases hk with hk | hk | hk | hk | hk
      · rw [hk, shx_25 ht x c _ _, hwn]
        exact shd_25 (wstr 25) x c (wn (tk op)) w (by omega) (by omega) hcn (by rw [q_25 (by decide) (by decide)]; decide) Bt
      · rw [hk, shx_26 ht x c _ hxa hcn, hwn]
        exact shd_26 (wstr 26) x c (wn (tk op)) w (by omega) (by omega) hcn (by rw [q_25 (by decide) (by decide)]; decide) (by rw [q_27 (by decide) (by decide)]; decide) (by rw [q_26 (by decide) (by decide)]; decide) Bt
      · rw [hk, shx_27 ht x c _ _ hxa, hwn]
        exact shd_27 (wstr 27) x c (wn (tk op)) w (by omega) (by omega) hcn (by rw [q_25 (by decide) (by decide)]; decide) (by rw [q_27 (by decide) (by decide)]; decide) Bt
      · rw [hk, shx_28 ht x c _ hxa hcn, hwn]
        exact shd_28 (wstr 28) x c (wn (tk op)) w (by omega) (by omega) hcn (by rw [q_25 (by decide) (by decide)]; decide) (by rw [q_27 (by decide) (by decide)]; decide) (by rw [q_26 (by decide) (by decide)]; decide) (by rw [q_28 (by decide) (by decide)]; decide) Bt
      · rw [hk, shx_29 ht x c _ hxa hcn, hwn]
        exact shd_29 (wstr 29) x c (wn (tk op)) w (by omega) (by omega) hcn (by rw [q_25 (by decide) (by decide)]; decide) (by rw [q_27 (by decide) (by decide)]; decide) (by rw [q_26 (by decide) (by decide)]; decide) (by rw [q_28 (by decide) (by decide)]; decide) Bt
    rcases hw with hu | hu
    · rw [hu] at BI CA CB
      have key2 := key
      rw [hu] at key2 ⊢
      exact rb_sh32 op a b _ _ _ _ w (by rw [q_15 k0 k1]; exact decide_eq_false (by omega)) (by rw [q_16 k0 k1]; exact decide_eq_false (by omega)) (by rw [q_17 k0 k1]; exact decide_eq_false (by omega)) (by rw [q_22 k0 k1]; exact decide_eq_false (by omega)) (by rw [q_23 k0 k1]; exact decide_eq_false (by omega)) (by rw [q_24 k0 k1]; exact decide_eq_false (by omega)) (by rw [q_18 k0 k1]; exact decide_eq_false (by omega)) (by rw [q_19 k0 k1]; exact decide_eq_false (by omega)) (by rw [q_20 k0 k1]; exact decide_eq_false (by omega)) (by rw [q_21 k0 k1]; exact decide_eq_false (by omega)) bb0 lb BI CA CB NM TS key2
    · rw [hu] at BI CA CB
      have key2 := key
      rw [hu] at key2 ⊢
      exact rb_sh64 op a b _ _ _ _ w (by rw [q_15 k0 k1]; exact decide_eq_false (by omega)) (by rw [q_16 k0 k1]; exact decide_eq_false (by omega)) (by rw [q_17 k0 k1]; exact decide_eq_false (by omega)) (by rw [q_22 k0 k1]; exact decide_eq_false (by omega)) (by rw [q_23 k0 k1]; exact decide_eq_false (by omega)) (by rw [q_24 k0 k1]; exact decide_eq_false (by omega)) (by rw [q_18 k0 k1]; exact decide_eq_false (by omega)) (by rw [q_19 k0 k1]; exact decide_eq_false (by omega)) (by rw [q_20 k0 k1]; exact decide_eq_false (by omega)) (by rw [q_21 k0 k1]; exact decide_eq_false (by omega)) bb0 lb BI CA CB NM TS key2
  by_cases c3 : 18 ≤ kd op ∧ kd op ≤ 21
  · by_cases hz : ct (tk op) b = 0
    · rw [bv_zero a b rfl rfl c3.1 c3.2 hz]
      have hb : (ct (tk op) b == 0) = true := beq_iff_eq.2 hz
      have hk : kd op = 18 ∨ kd op = 19 ∨ kd op = 20 ∨ kd op = 21 := by omega
      rcases hk with hk | hk | hk | hk
      · exact rb_18z op a b _ _ _ _ w (by rw [q_15 k0 k1]; exact decide_eq_false (by omega)) (by rw [q_16 k0 k1]; exact decide_eq_false (by omega)) (by rw [q_17 k0 k1]; exact decide_eq_false (by omega)) (by rw [q_22 k0 k1]; exact decide_eq_false (by omega)) (by rw [q_23 k0 k1]; exact decide_eq_false (by omega)) (by rw [q_24 k0 k1]; exact decide_eq_false (by omega)) (by rw [q_18 k0 k1]; exact decide_eq_true (by omega)) hb BI CA CB NM TS
      · exact rb_19z op a b _ _ _ _ w (by rw [q_15 k0 k1]; exact decide_eq_false (by omega)) (by rw [q_16 k0 k1]; exact decide_eq_false (by omega)) (by rw [q_17 k0 k1]; exact decide_eq_false (by omega)) (by rw [q_22 k0 k1]; exact decide_eq_false (by omega)) (by rw [q_23 k0 k1]; exact decide_eq_false (by omega)) (by rw [q_24 k0 k1]; exact decide_eq_false (by omega)) (by rw [q_18 k0 k1]; exact decide_eq_false (by omega)) (by rw [q_19 k0 k1]; exact decide_eq_true (by omega)) hb BI CA CB NM TS
      · exact rb_20z op a b _ _ _ _ w (by rw [q_15 k0 k1]; exact decide_eq_false (by omega)) (by rw [q_16 k0 k1]; exact decide_eq_false (by omega)) (by rw [q_17 k0 k1]; exact decide_eq_false (by omega)) (by rw [q_22 k0 k1]; exact decide_eq_false (by omega)) (by rw [q_23 k0 k1]; exact decide_eq_false (by omega)) (by rw [q_24 k0 k1]; exact decide_eq_false (by omega)) (by rw [q_18 k0 k1]; exact decide_eq_false (by omega)) (by rw [q_19 k0 k1]; exact decide_eq_false (by omega)) (by rw [q_20 k0 k1]; exact decide_eq_true (by omega)) hb BI CA CB NM TS
      · exact rb_21z op a b _ _ _ _ w (by rw [q_15 k0 k1]; exact decide_eq_false (by omega)) (by rw [q_16 k0 k1]; exact decide_eq_false (by omega)) (by rw [q_17 k0 k1]; exact decide_eq_false (by omega)) (by rw [q_22 k0 k1]; exact decide_eq_false (by omega)) (by rw [q_23 k0 k1]; exact decide_eq_false (by omega)) (by rw [q_24 k0 k1]; exact decide_eq_false (by omega)) (by rw [q_18 k0 k1]; exact decide_eq_false (by omega)) (by rw [q_19 k0 k1]; exact decide_eq_false (by omega)) (by rw [q_20 k0 k1]; exact decide_eq_false (by omega)) (by rw [q_21 k0 k1]; exact decide_eq_true (by omega)) hb BI CA CB NM TS
    · have hb : (ct (tk op) b == 0) = false := beq_eq_false_iff_ne.2 hz
      have D := fun (w : World) => divided_any (kd op) (tk op) (ct (tk op) a) (ct (tk op) b) w c3.1 c3.2 ht ba0 ba1 bb0 bb1 hz
      have e : bv op a b = dvx (kd op) (tk op) (ct (tk op) a) (ct (tk op) b) := by
        by_cases ho : kd op = 18 ∧ sg (tk op) (ct (tk op) a) = least (tk op) ∧ sg (tk op) (ct (tk op) b) = -1
        · rw [bv_over a b ho.1 rfl hz ho.2]
          unfold dvx
          rw [if_neg (by omega), if_neg (by omega), if_pos ho.2, if_neg (by omega)]
        · rw [bv_ar a b rfl rfl hg (by omega) (by omega) (fun _ _ => hz) (fun h h' => ho ⟨h, h'⟩)]
          have hk : kd op = 18 ∨ kd op = 19 ∨ kd op = 20 ∨ kd op = 21 := by omega
          have hq0 := Int.ediv_nonneg ba0 bb0
          have hq1 := Int.ediv_le_self (ct (tk op) b) ba0
          have hr0 := Int.emod_nonneg (ct (tk op) a) hz
          have hr1 := Int.emod_lt_of_pos (ct (tk op) a) (show 0 < ct (tk op) b from by omega)
          unfold dvx
          rcases hk with hk | hk | hk | hk <;> rw [hk] at ho ⊢
          · rw [if_neg (by decide), if_neg (by decide), if_neg (fun h => ho ⟨rfl, h⟩), if_neg (by decide)]; rfl
          · rw [if_pos rfl]
            show (ct (tk op) (ct (tk op) a / ct (tk op) b), _) = _
            rw [ct_small ht hq0 (by omega)]
          · rw [if_neg (by decide), if_neg (by decide)]
            show (ct (tk op) ((sg (tk op) (ct (tk op) a)).tmod (sg (tk op) (ct (tk op) b)) % 18446744073709551616), _) = _
            by_cases hl : sg (tk op) (ct (tk op) a) = least (tk op) ∧ sg (tk op) (ct (tk op) b) = -1
            · rw [if_pos hl, hl.2, Int.tmod_neg, Int.tmod_one]
              rcases ht with h | h <;> rw [h] <;> rfl
            · rw [if_neg hl, if_pos rfl]
          · rw [if_neg (by decide), if_pos rfl]
            show (ct (tk op) (ct (tk op) a % ct (tk op) b), _) = _
            rw [ct_small ht hr0 (by omega)]
      rw [e]
      have hk : kd op = 18 ∨ kd op = 19 ∨ kd op = 20 ∨ kd op = 21 := by omega
      rcases hk with hk | hk | hk | hk
      · exact rb_18n op a b _ _ _ _ _ _ w (by rw [q_15 k0 k1]; exact decide_eq_false (by omega)) (by rw [q_16 k0 k1]; exact decide_eq_false (by omega)) (by rw [q_17 k0 k1]; exact decide_eq_false (by omega)) (by rw [q_22 k0 k1]; exact decide_eq_false (by omega)) (by rw [q_23 k0 k1]; exact decide_eq_false (by omega)) (by rw [q_24 k0 k1]; exact decide_eq_false (by omega)) (by rw [q_18 k0 k1]; exact decide_eq_true (by omega)) hb BI CA CB NM TS D
      · exact rb_19n op a b _ _ _ _ _ _ w (by rw [q_15 k0 k1]; exact decide_eq_false (by omega)) (by rw [q_16 k0 k1]; exact decide_eq_false (by omega)) (by rw [q_17 k0 k1]; exact decide_eq_false (by omega)) (by rw [q_22 k0 k1]; exact decide_eq_false (by omega)) (by rw [q_23 k0 k1]; exact decide_eq_false (by omega)) (by rw [q_24 k0 k1]; exact decide_eq_false (by omega)) (by rw [q_18 k0 k1]; exact decide_eq_false (by omega)) (by rw [q_19 k0 k1]; exact decide_eq_true (by omega)) hb BI CA CB NM TS D
      · exact rb_20n op a b _ _ _ _ _ _ w (by rw [q_15 k0 k1]; exact decide_eq_false (by omega)) (by rw [q_16 k0 k1]; exact decide_eq_false (by omega)) (by rw [q_17 k0 k1]; exact decide_eq_false (by omega)) (by rw [q_22 k0 k1]; exact decide_eq_false (by omega)) (by rw [q_23 k0 k1]; exact decide_eq_false (by omega)) (by rw [q_24 k0 k1]; exact decide_eq_false (by omega)) (by rw [q_18 k0 k1]; exact decide_eq_false (by omega)) (by rw [q_19 k0 k1]; exact decide_eq_false (by omega)) (by rw [q_20 k0 k1]; exact decide_eq_true (by omega)) hb BI CA CB NM TS D
      · exact rb_21n op a b _ _ _ _ _ _ w (by rw [q_15 k0 k1]; exact decide_eq_false (by omega)) (by rw [q_16 k0 k1]; exact decide_eq_false (by omega)) (by rw [q_17 k0 k1]; exact decide_eq_false (by omega)) (by rw [q_22 k0 k1]; exact decide_eq_false (by omega)) (by rw [q_23 k0 k1]; exact decide_eq_false (by omega)) (by rw [q_24 k0 k1]; exact decide_eq_false (by omega)) (by rw [q_18 k0 k1]; exact decide_eq_false (by omega)) (by rw [q_19 k0 k1]; exact decide_eq_false (by omega)) (by rw [q_20 k0 k1]; exact decide_eq_false (by omega)) (by rw [q_21 k0 k1]; exact decide_eq_true (by omega)) hb BI CA CB NM TS D
  rw [bv_ar a b rfl rfl hg (by omega) (by omega) (fun h h' => absurd ⟨h, h'⟩ c3) (by omega)]
  obtain ⟨x1, x2, x3⟩ := bits_ct ht (ct (tk op) a) (ct (tk op) b) ba0 ba1 bb0 bb1
  have C := fun (z : Int) (w : World) => Cut_any (tk op) (z % 18446744073709551616) w ht (by omega)
  have hk : kd op = 15 ∨ kd op = 16 ∨ kd op = 17 ∨ kd op = 22 ∨ kd op = 23 ∨ kd op = 24 := by omega
  rcases hk with hk | hk | hk | hk | hk | hk
  · have CC := C (ct (tk op) a + ct (tk op) b)
    rw [← IntKind.wrap_u64] at CC
    have ea : arx (kd op) (ct (tk op) a) (ct (tk op) b) (sg (tk op) (ct (tk op) a)) (sg (tk op) (ct (tk op) b)) = IntKind.u64.wrap (ct (tk op) a + ct (tk op) b) := by rw [hk, IntKind.wrap_u64]; rfl
    rw [ea]
    exact rb_15 op a b _ _ _ _ _ w (by rw [q_15 k0 k1]; exact decide_eq_true (by omega)) BI CA CB NM TS CC
  · have CC := C (ct (tk op) a - ct (tk op) b)
    rw [← IntKind.wrap_u64] at CC
    have ea : arx (kd op) (ct (tk op) a) (ct (tk op) b) (sg (tk op) (ct (tk op) a)) (sg (tk op) (ct (tk op) b)) = IntKind.u64.wrap (ct (tk op) a - ct (tk op) b) := by rw [hk, IntKind.wrap_u64]; rfl
    rw [ea]
    exact rb_16 op a b _ _ _ _ _ w (by rw [q_15 k0 k1]; exact decide_eq_false (by omega)) (by rw [q_16 k0 k1]; exact decide_eq_true (by omega)) BI CA CB NM TS CC
  · have CC := C (ct (tk op) a * ct (tk op) b)
    rw [← IntKind.wrap_u64] at CC
    have ea : arx (kd op) (ct (tk op) a) (ct (tk op) b) (sg (tk op) (ct (tk op) a)) (sg (tk op) (ct (tk op) b)) = IntKind.u64.wrap (ct (tk op) a * ct (tk op) b) := by rw [hk, IntKind.wrap_u64]; rfl
    rw [ea]
    exact rb_17 op a b _ _ _ _ _ w (by rw [q_15 k0 k1]; exact decide_eq_false (by omega)) (by rw [q_16 k0 k1]; exact decide_eq_false (by omega)) (by rw [q_17 k0 k1]; exact decide_eq_true (by omega)) BI CA CB NM TS CC
  · have ea : arx (kd op) (ct (tk op) a) (ct (tk op) b) (sg (tk op) (ct (tk op) a)) (sg (tk op) (ct (tk op) b)) = bits .and .u64 (ct (tk op) a) (ct (tk op) b) := by rw [hk]; rfl
    rw [ea, x1]
    exact rb_22 op a b _ _ _ _ w (by rw [q_15 k0 k1]; exact decide_eq_false (by omega)) (by rw [q_16 k0 k1]; exact decide_eq_false (by omega)) (by rw [q_17 k0 k1]; exact decide_eq_false (by omega)) (by rw [q_22 k0 k1]; exact decide_eq_true (by omega)) BI CA CB NM TS
  · have ea : arx (kd op) (ct (tk op) a) (ct (tk op) b) (sg (tk op) (ct (tk op) a)) (sg (tk op) (ct (tk op) b)) = bits .or .u64 (ct (tk op) a) (ct (tk op) b) := by rw [hk]; rfl
    rw [ea, x2]
    exact rb_23 op a b _ _ _ _ w (by rw [q_15 k0 k1]; exact decide_eq_false (by omega)) (by rw [q_16 k0 k1]; exact decide_eq_false (by omega)) (by rw [q_17 k0 k1]; exact decide_eq_false (by omega)) (by rw [q_22 k0 k1]; exact decide_eq_false (by omega)) (by rw [q_23 k0 k1]; exact decide_eq_true (by omega)) BI CA CB NM TS
  · have ea : arx (kd op) (ct (tk op) a) (ct (tk op) b) (sg (tk op) (ct (tk op) a)) (sg (tk op) (ct (tk op) b)) = bits .xor .u64 (ct (tk op) a) (ct (tk op) b) := by rw [hk]; rfl
    rw [ea, x3]
    exact rb_24 op a b _ _ _ _ w (by rw [q_15 k0 k1]; exact decide_eq_false (by omega)) (by rw [q_16 k0 k1]; exact decide_eq_false (by omega)) (by rw [q_17 k0 k1]; exact decide_eq_false (by omega)) (by rw [q_22 k0 k1]; exact decide_eq_false (by omega)) (by rw [q_23 k0 k1]; exact decide_eq_false (by omega)) (by rw [q_24 k0 k1]; exact decide_eq_true (by omega)) BI CA CB NM TS
set_option maxRecDepth 100000 in
theorem bina_no (op a b r : Int) (w : World) (hr : (r != 2) = true)
    (B : Hid (∀ w : World, Calls Try.prog 16 #[.int .i64 op, .int .u64 a, .int .u64 b] w fun e w' => e = .returned (.tuple #[.int .u64 0, .int .i64 1]) ∧ Grew w w'))
    (R : Hid (∀ w : World, Calls Try.prog 8 #[.int .i64 op] w fun e w' => e = .returned (.int .i64 r) ∧ w' = w))
    (AW : Hid (∀ w : World, Calls Try.prog 12 #[] w fun e w' => e = .returned (.bool true) ∧ Grew w w')) :
    Calls Try.prog 5 #[.int .i64 op, .int .u64 a, .int .u64 b] w fun e w' => e = .returned (.bool true) ∧ Grew w w' := by
  go_enter Try.func5, Try.ntmps5
  go_wp2_with fail
  refine (B.out _).mono ?_
  rintro e w1 ⟨rfl, g1⟩
  have G1 : Hid (Grew w w1) := g1
  clear g1
  go_wp2_with fail
  refine (R.out _).mono ?_
  rintro e w2 ⟨rfl, hw⟩
  obtain rfl := hw.symm
  clear hw
  go_wp2_with fail
  refine (AW.out _).mono ?_
  rintro e w3 ⟨rfl, g3⟩
  have G3 : Hid (Grew w w3) := G1.out.trans g3
  clear g3
  go_wp2_with fail
  go_ret
  exact ⟨rfl, G3.out⟩
set_option maxRecDepth 100000 in
theorem bina_yes (op a b x y : Int) (w : World)
    (B : Hid (∀ w : World, Calls Try.prog 16 #[.int .i64 op, .int .u64 a, .int .u64 b] w fun e w' => e = .returned (.tuple #[.int .u64 x, .int .i64 y]) ∧ Grew w w'))
    (R : Hid (∀ w : World, Calls Try.prog 8 #[.int .i64 op] w fun e w' => e = .returned (.int .i64 2) ∧ w' = w))
    (D : Hid (∀ w : World, Calls Try.prog 17 #[.int .i64 op, .int .u64 a, .int .u64 b] w fun e w' => e = .returned (.tuple #[.int .u64 x, .int .i64 y]) ∧ w' = w)) :
    Calls Try.prog 5 #[.int .i64 op, .int .u64 a, .int .u64 b] w fun e w' => e = .returned (.bool true) ∧ Grew w w' := by
  go_enter Try.func5, Try.ntmps5
  go_wp2_with fail
  refine (B.out _).mono ?_
  rintro e w1 ⟨rfl, g1⟩
  have G1 : Hid (Grew w w1) := g1
  clear g1
  go_wp2_with fail
  refine (R.out _).mono ?_
  rintro e w2 ⟨rfl, hw⟩
  obtain rfl := hw.symm
  clear hw
  go_wp2_with fail
  refine (D.out _).mono ?_
  rintro e w3 ⟨rfl, hw3⟩
  obtain rfl := hw3.symm
  go_wp2_with fail
  go_ret
  exact ⟨by simp, G1.out⟩
theorem binary_walk (op a b : Int) (w : World) (o0 : -9223372036854775808 ≤ op) (o1 : op ≤ 9223372036854775807) (h0 : 0 ≤ a) (h1 : a < 18446744073709551616) (h2 : 0 ≤ b) (h3 : b < 18446744073709551616) :
    Calls Try.prog 5 #[.int .i64 op, .int .u64 a, .int .u64 b] w fun e w' => e = .returned (.bool true) ∧ Grew w w' := by
  have B := fun (w : World) => Binary_any op a b w o0 o1 h0 h1 h2 h3
  have R := fun (w : World) => RArity_any op w
  by_cases hr : ark (kd op) = 2
  · rw [hr] at R
    exact bina_yes op a b _ _ w B R (fun w => RBinary_any op a b w h0 h1 h2 h3 hr)
  · have e : bv op a b = (0, 1) := by unfold bv; rw [if_pos hr]
    rw [e] at B
    exact bina_no op a b _ w (by rw [bne_iff_ne]; exact hr) B R awake_any
end Go.Proofs.Ytolllelejdnjlaa
namespace Go.Proofs.Ytolllelejdnjlaa.inumBinary
open Go.ChangeShapes Go.WideShapes Go.ChangeAt Go.RowKit
set_option linter.unusedVariables false

theorem own : ownKnob Try.prog.godebug = none := by kernel_rfl
set_option maxRecDepth 100000 in
theorem lifted (os : Os) (started : os.Started) (H : Type) (enc : TypeId × Value → H) :
    ReturnsInHanded {} Try.checked os 5 .any (Rows.inumBinarySpec.pre6 enc Try.prog Try.f5 Rows.inumBinaryRow.domain false) (Rows.inumBinarySpec.post enc Try.prog Try.f5 false true false false) := by
  refine returnsInHanded_of_change_sized (C := Try.checked) own started (by kernel_rfl) Try.func5
    (ChangeSpec.witness6 (enc := enc) (C := Try.checked) false ⟨#[], #[.int .i64 0, .int .u64 0, .int .u64 0], []⟩ 8 (by kernel_rfl) (by kernel_rfl) (by kernel_rfl) (by kernel_rfl)) ?_
  intro W base args ds gs before hval0 hW hcnd hsz0 _
  clear hsz0
  have hval : ∀ (j : Nat) t v, Try.f5.params[j]? = some t → args[j]? = some v → Value.okWide Try.prog W .any base t v := hval0
  have hW' := hW
  obtain ⟨p, q, hA0, hV, rfl, hfz, hnd⟩ := hW
  have hA : DataW.TrodAll enc Try.prog W 0 (fun _ => true) true Try.f5.params.toList args.toList ds p := hA0
  rw [Try.params5] at hA hval
  obtain ⟨v0, vs0, d0, ds0, p0, q0, hargs, rfl, rfl, h0, r0⟩ := trodAll_cons hA
  obtain ⟨v1, vs1, d1, ds1, p1, q1, rfl, rfl, rfl, h1, r1⟩ := trodAll_cons r0
  obtain ⟨v2, vs2, d2, ds2, p2, q2, rfl, rfl, rfl, h2, r2⟩ := trodAll_cons r1
  obtain ⟨rfl, rfl, rfl⟩ := trodAll_nil r2
  obtain rfl : args = #[v0, v1, v2] := by cases args; simp_all
  obtain ⟨rfl, rfl⟩ := trodVars_none hV
  obtain ⟨a0, rfl, rfl, rfl, w0⟩ := open_int Try.underlying3 (hval 0 3 v0 rfl rfl) h0
  have b0 := bounds_i64 w0
  obtain ⟨a1, rfl, rfl, rfl, w1⟩ := open_int Try.underlying33 (hval 1 33 v1 rfl rfl) h1
  have b1 := bounds_u64 w1
  obtain ⟨a2, rfl, rfl, rfl, w2⟩ := open_int Try.underlying33 (hval 2 33 v2 rfl rfl) h2
  have b2 := bounds_u64 w2
  clear hA0 hval0
  refine (binary_walk a0 a1 a2 W (by omega) (by omega) (by omega) (by omega) (by omega) (by omega)).mono fun e W' ⟨he, bel⟩ => ?_
  subst he
  exact ⟨_, rfl, _, _, _, [], _, [], hW', trodAll_mk1 (shut_bool Try.underlying4 _), (trodAll_cons_mk (shut_int Try.underlying3 w0) (trodAll_cons_mk (shut_int Try.underlying33 w1) (trodAll_cons_mk (shut_int Try.underlying33 w2) trodAll_mk0))), rfl, bel.1.frame _, fun h => by cases h⟩

theorem over : Rows.inumBinaryRow.holds Try.pinned (OpenSpec.ofChange Rows.inumBinarySpec) :=
  OpenClaim.holds_of_wide 5 Try.f5 rfl rfl rfl rfl rfl rfl rfl ⟨rfl, rfl, rfl, rfl, rfl⟩ rfl rfl rfl rfl rfl (by kernel_rfl) Try.func5 (by kernel_rfl)
    (of_decide_eq_true (by kernel_rfl)) (by unfold Func.isWrapper; first | (rw [if_pos (by decide +kernel)]; kernel_rfl) | (rw [if_neg (by decide +kernel)]; exact ⟨rfl, rfl⟩))
    (fun os started H enc _ => lifted os started H enc)

end Go.Proofs.Ytolllelejdnjlaa.inumBinary
namespace Go.Proofs.Ytolllelejdnjlaa
theorem inumBinary_holds : Rows.InumBinarySaid := inumBinary.over
#print axioms inumBinary_holds
end Go.Proofs.Ytolllelejdnjlaa
