/-
  What inum.Binary answers, for every opcode and every two values; no statement is proved here.
-/
import Derived.Test.YtolllelejdnjlaaDoorBinT
namespace Go.Proofs.YtolllelejdnjlaaDoor
open Go.RowKit
set_option linter.unusedVariables false
set_option linter.unusedSimpArgs false

/- The answer of Binary: the value, the error. -/
def bv (op a b : Int) : Int × Int :=
  if ark (kd op) ≠ 2 then (0, 1)
  else if (18 ≤ kd op ∧ kd op ≤ 21) ∧ ct (tk op) b = 0 then (0, 30)
  else if kd op = 18 ∧ sg (tk op) (ct (tk op) a) = least (tk op) ∧ sg (tk op) (ct (tk op) b) = -1 then (0, 31)
  else (ct (gv op) (bnx (kd op) (tk op) (ct (tk op) a) (ct (tk op) b)), 0)
theorem ct_bd {t a : Int} (ht : t = 1 ∨ t = 2) (h0 : 0 ≤ a) (h1 : a < 18446744073709551616) : 0 ≤ ct t a ∧ ct t a < (if t = 1 then 4294967296 else 18446744073709551616) := by
  rcases ht with rfl | rfl <;> simp [ct] <;> omega
theorem ct_lt {t a : Int} (ht : t = 1 ∨ t = 2) (h0 : 0 ≤ a) (h1 : a < 18446744073709551616) : ct t a < 18446744073709551616 := by
  rcases ht with rfl | rfl <;> simp [ct] <;> omega
theorem ark2 {k : Int} (h0 : 0 ≤ k) (h1 : k ≤ 35) (h : ark k = 2) : 2 ≤ k ∧ k ≤ 29 ∧ (k ≤ 11 ∨ 15 ≤ k) := by
  unfold ark at h
  split at h
  · omega
  · split at h
    · omega
    · omega
theorem Binary_any (op a b : Int) (w : World) (o0 : -9223372036854775808 ≤ op) (o1 : op ≤ 9223372036854775807) (h0 : 0 ≤ a) (h1 : a < 18446744073709551616) (h2 : 0 ≤ b) (h3 : b < 18446744073709551616) :
    Calls Tryd.prog 16 #[.int .i64 op, .int .u64 a, .int .u64 b] w fun e w' => e = .returned (.tuple #[.int .u64 (bv op a b).1, .int .i64 (bv op a b).2]) ∧ Grew w w' := by
  have F : ∀ w : World, Calls Tryd.prog 11 #[.int .i64 op] w fun e w' => e = .returned (.agg #[.int .i64 (kd op), .int .i64 (tk op), .int .i64 (gv op)]) ∧ Grew w w' := fun w => find_any op w o0 o1
  have R : ∀ w : World, Calls Tryd.prog 12 #[.int .i64 (kd op)] w fun e w' => e = .returned (.int .i64 (ark (kd op))) ∧ w' = w := fun w => arity_any (kd op) w
  obtain ⟨k0, k1⟩ := kd_bd op
  have ht := tk_or op
  have hg := gv_or op
  unfold bv
  by_cases c1 : ark (kd op) ≠ 2
  · rw [if_pos c1]
    exact Bin_arg op a b (kd op) (tk op) (gv op) (ark (kd op)) 1 w (by rw [bne_iff_ne]; exact c1) rfl F R
  · rw [if_neg c1]
    have c1' : ark (kd op) = 2 := by omega
    have hr : (ark (kd op) != 2) = false := by rw [c1']; rfl
    obtain ⟨q0, q1, q2⟩ := ark2 k0 k1 c1'
    obtain ⟨ba0, ba1⟩ := ct_bd ht h0 h1
    obtain ⟨bb0, bb1⟩ := ct_bd ht h2 h3
    have la := ct_lt ht h0 h1
    have lb := ct_lt ht h2 h3
    have A := fun (w : World) => cut_u a (tk op) w ht
    have B := fun (w : World) => cut_u b (tk op) w ht
    have D := fun (w : World) => divides_any (kd op) w
    by_cases c2 : (18 ≤ kd op ∧ kd op ≤ 21) ∧ ct (tk op) b = 0
    · rw [if_pos c2]
      exact Bin_div op a b (ct (tk op) a) (ct (tk op) b) (kd op) (tk op) (gv op) (ark (kd op)) 30 _ w hr (decide_eq_true c2.1) (beq_iff_eq.2 c2.2) rfl F R A B D
    · rw [if_neg c2]
      by_cases c3 : kd op = 18 ∧ sg (tk op) (ct (tk op) a) = least (tk op) ∧ sg (tk op) (ct (tk op) b) = -1
      · rw [if_pos c3]
        have hb1 : ct (tk op) b ≠ 0 := fun h => c2 ⟨by omega, h⟩
        refine Bin_ovf op a b (ct (tk op) a) (ct (tk op) b) (kd op) (tk op) (gv op) (ark (kd op)) 31 _ w hr (decide_eq_true (by omega)) (beq_eq_false_iff_ne.2 hb1) c3.1 rfl F R A B D ?_
        intro w
        have := overflows_any (kd op) (tk op) (gv op) (ct (tk op) a) (ct (tk op) b) w ht ba0 la bb0 lb
        rwa [decide_eq_true c3.2] at this
      · rw [if_neg c3]
        have M := fun (w : World) (hb : 18 ≤ kd op → kd op ≤ 21 → ct (tk op) b ≠ 0) => binary_any (kd op) (tk op) (gv op) (ct (tk op) a) (ct (tk op) b) w q0 q1 q2 ht ba0 la bb0 bb1 hb
        have C := fun (w : World) => cut_u (bnx (kd op) (tk op) (ct (tk op) a) (ct (tk op) b)) (gv op) w hg
        by_cases d1 : 18 ≤ kd op ∧ kd op ≤ 21
        · have hb1 : ct (tk op) b ≠ 0 := fun h => c2 ⟨d1, h⟩
          by_cases d2 : kd op = 18
          · refine Bin_18 op a b (ct (tk op) a) (ct (tk op) b) (kd op) (tk op) (gv op) (ark (kd op)) _ _ _ w hr (decide_eq_true d1) (beq_eq_false_iff_ne.2 hb1) d2 F R A B D ?_ (fun w => M w (fun _ _ => hb1)) C
            intro w
            have := overflows_any (kd op) (tk op) (gv op) (ct (tk op) a) (ct (tk op) b) w ht ba0 la bb0 lb
            rwa [decide_eq_false (fun h => c3 ⟨d2, h⟩)] at this
          · exact Bin_nz op a b (ct (tk op) a) (ct (tk op) b) (kd op) (tk op) (gv op) (ark (kd op)) _ _ _ w hr (decide_eq_true d1) (beq_eq_false_iff_ne.2 hb1) (beq_eq_false_iff_ne.2 d2) F R A B D (fun w => M w (fun _ _ => hb1)) C
        · exact Bin_no op a b (ct (tk op) a) (ct (tk op) b) (kd op) (tk op) (gv op) (ark (kd op)) _ _ _ w hr (decide_eq_false d1) (beq_eq_false_iff_ne.2 (by omega)) F R A B D (fun w => M w (fun h h' => absurd ⟨h, h'⟩ d1)) C
end Go.Proofs.YtolllelejdnjlaaDoor
