/-
  The walks of the document's numbers of 128 bits; no statement is proved here.
-/
import Derived.Test.YtjkebimmddlccaaDoorFmW
namespace Go.Proofs.YtjkebimmddlccaaDoor
open Go.RowKit
set_option linter.unusedVariables false
set_option linter.unusedSimpArgs false

/- A number of 128 bits, and whether something was cut off below it. -/
def wv (W : Nat) (m : Bool) : Value := .agg #[.int .u64 ((W / 18446744073709551616 : Nat) : Int), .int .u64 ((W % 18446744073709551616 : Nat) : Int), .bool m]
/- How many binary digits. -/
def bl (m : Nat) : Nat := if m = 0 then 0 else m.log2 + 1
theorem bl_le {M k : Nat} (h : M / 2 ^ k ≠ 0) : k < bl M := by
  have hM : M ≠ 0 := by intro z; subst z; simp at h
  unfold bl
  rw [if_neg hM]
  have := log2_shift M k h
  omega
theorem bl_ge {M k : Nat} (h : M / 2 ^ k = 0) : bl M ≤ k := by
  unfold bl
  split
  · omega
  · rename_i hM
    have : M < 2 ^ k := by
      rcases Nat.lt_or_ge M (2 ^ k) with h1 | h1
      · exact h1
      · have := (Nat.le_div_iff_mul_le (Nat.two_pow_pos k)).2 (by rw [Nat.one_mul]; exact h1 : 1 * 2 ^ k ≤ M)
        omega
    have := (Nat.log2_lt hM).2 this
    omega
theorem bl_64 {M : Nat} (h : M < 18446744073709551616) : bl M ≤ 64 := bl_ge (Nat.div_eq_of_lt h)
theorem half_div (M k : Nat) : M / 2 ^ k / 2 = M / 2 ^ (k + 1) := by rw [Nat.div_div_eq_div_mul, ← Nat.pow_succ]
set_option maxRecDepth 100000 in
set_option maxHeartbeats 2000000 in
theorem bits_any (M : Nat) (hM : M < 18446744073709551616) (w : World) :
    Calls Tryd.prog 90 #[.int .u64 (M : Int)] w fun e w' => e = .returned (.int .i64 (bl M : Int)) ∧ w' = w := by
  have hb := bl_64 hM
  go_enter Tryd.func90, Tryd.ntmps90
  go_wp2_with fail
  go_loop [0, 3] (fun m_ n_ => ∃ k X : Nat, m_ = .int .u64 (X : Int) ∧ n_ = .int .i64 (k : Int) ∧ X = M / 2 ^ k ∧ k ≤ bl M) (fun m_ n_ => bl M - (intOf n_).toNat)
  case atStart => exact ⟨0, M, rfl, rfl, by simp, by omega⟩
  case round =>
    obtain ⟨k, X, rfl, rfl, hX, hk⟩ := hrel
    have HX : Hid (X = M / 2 ^ k) := hX
    by_cases h0 : X = 0
    · have HB : Hid (bl M = k) := by show _ = _; have := bl_ge (hX.symm.trans h0); omega
      clear hX hk hb
      subst h0
      go_wp2
      go_ret
      go_light
      exact ⟨by rw [HB.out]; rfl, rfl⟩
    · have hlt := bl_le (M := M) (k := k) (by rw [← hX]; exact h0)
      clear hX
      go_wp2
      go_light
      exact ⟨⟨k + 1, X / 2, by first | rfl | simp, by first | rfl | simp, by rw [HX.out, half_div], by omega⟩, by simp [intOf]; omega⟩
end Go.Proofs.YtjkebimmddlccaaDoor
