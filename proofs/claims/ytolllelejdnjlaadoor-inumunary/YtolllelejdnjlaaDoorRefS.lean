/-
  The walks of the document's small functions on values; no statement is proved here.
-/
import Derived.Test.YtolllelejdnjlaaDoorWorld
import Derived.Test.YtolllelejdnjlaaDoorPlain
import Derived.Laws.Bits64
import Derived.Laws.BitsLemmas
namespace Go.Proofs.YtolllelejdnjlaaDoor
open Go.RowKit
set_option linter.unusedVariables false
set_option linter.unusedSimpArgs false

set_option maxRecDepth 100000 in
theorem Cut_any (t a : Int) (w : World) (ht : t = 1 ∨ t = 2) (h0 : 0 ≤ a) : Calls Tryd.prog 18 #[.int .u64 a, .int .i64 (wd t)] w fun e w' => e = .returned (.int .u64 (ct t a)) ∧ w' = w := by
  rcases ht with rfl | rfl
  · show Calls Tryd.prog 18 #[.int .u64 a, .int .i64 32] w fun e w' => e = .returned (.int .u64 (a % 4294967296)) ∧ w' = w
    go_enter Tryd.func18, Tryd.ntmps18
    go_wp2
    go_ret
    exact ⟨rfl, rfl⟩
  · show Calls Tryd.prog 18 #[.int .u64 a, .int .i64 64] w fun e w' => e = .returned (.int .u64 a) ∧ w' = w
    go_enter Tryd.func18, Tryd.ntmps18
    go_wp2
    go_ret
    exact ⟨rfl, rfl⟩
theorem rtruth_any (b : Bool) (w : World) : Calls Tryd.prog 19 #[.bool b] w fun e w' => e = .returned (.int .u64 (if b then 1 else 0)) ∧ w' = w := by
  cases b <;> go_enter Tryd.func19, Tryd.ntmps19 <;> go_wp2 <;> go_ret <;> exact ⟨rfl, rfl⟩
set_option maxRecDepth 100000 in
theorem bit_any (a i : Int) (w : World) (h0 : 0 ≤ a) (hi : 0 ≤ i) (hi2 : i < 64) : Calls Tryd.prog 32 #[.int .u64 a, .int .i64 i] w fun e w' => e = .returned (.bool (a.toNat.testBit i.toNat)) ∧ w' = w := by
  obtain ⟨n, rfl⟩ : ∃ n : Nat, a = n := ⟨a.toNat, by omega⟩
  obtain ⟨k, rfl⟩ : ∃ k : Nat, i = k := ⟨i.toNat, by omega⟩
  have e : (n : Int).toNat.testBit ((k : Int).toNat) = (((n : Int) / 2 ^ (k : Int).toNat).tmod 2 == 1) := by
    rw [Nat.testBit_eq_decide_div_mod_eq]
    have h1 : ((n : Int) / 2 ^ (k : Int).toNat) = ((n / 2 ^ k : Nat) : Int) := by simp
    rw [h1, Int.tmod_eq_emod_of_nonneg (Int.natCast_nonneg _)]
    simp only [Int.toNat_natCast]
    by_cases hz : n / 2 ^ k % 2 = 1
    · have : ((n / 2 ^ k : Nat) : Int) % 2 = 1 := by omega
      rw [this, decide_eq_true hz]; rfl
    · have : ((n / 2 ^ k : Nat) : Int) % 2 = 0 := by omega
      rw [this, decide_eq_false hz]; rfl
  rw [e]
  clear e
  go_enter Tryd.func32, Tryd.ntmps32
  go_wp2
  go_ret
  exact ⟨rfl, rfl⟩
set_option maxRecDepth 100000 in
theorem Signed_any (t a : Int) (w : World) (ht : t = 1 ∨ t = 2) (h0 : 0 ≤ a) (h1 : a < 18446744073709551616) :
    Calls Tryd.prog 20 #[.int .u64 a, .int .i64 (wd t)] w fun e w' => e = .returned (.int .i64 (sg t a)) ∧ w' = w := by
  rcases ht with rfl | rfl
  · have A : Hid (∀ w : World, Calls Tryd.prog 18 #[.int .u64 a, .int .i64 32] w fun e w' => e = .returned (.int .u64 (a % 4294967296)) ∧ w' = w) := fun w => Cut_any 1 a w (by decide) h0
    obtain ⟨c, hc⟩ : ∃ c, c = a % 4294967296 := ⟨_, rfl⟩
    rw [← hc] at A
    have c0 : 0 ≤ c := by omega
    have c1 : c < 4294967296 := by omega
    show Calls Tryd.prog 20 #[.int .u64 a, .int .i64 32] w fun e w' => e = .returned (.int .i64 ((a + 2147483648) % 4294967296 - 2147483648)) ∧ w' = w
    by_cases hh : 2147483648 ≤ c
    · have e : (a + 2147483648) % 4294967296 - 2147483648 = c - 4294967296 := by omega
      rw [e]
      clear e hc h0 h1
      go_enter Tryd.func20, Tryd.ntmps20
      go_wp2_with fail
      refine (A.out _).mono ?_
      rintro e w1 ⟨rfl, hw⟩
      obtain rfl := hw.symm
      go_wp2
      go_ret
      exact ⟨rfl, rfl⟩
    · have e : (a + 2147483648) % 4294967296 - 2147483648 = c := by omega
      rw [e]
      clear e hc h0 h1
      go_enter Tryd.func20, Tryd.ntmps20
      go_wp2_with fail
      refine (A.out _).mono ?_
      rintro e w1 ⟨rfl, hw⟩
      obtain rfl := hw.symm
      go_wp2
      go_ret
      exact ⟨rfl, rfl⟩
  · have A : Hid (∀ w : World, Calls Tryd.prog 18 #[.int .u64 a, .int .i64 64] w fun e w' => e = .returned (.int .u64 a) ∧ w' = w) := fun w => Cut_any 2 a w (by decide) h0
    have e1 : sg 2 a = wrap64 a := by unfold sg wrap64; rw [if_neg (by decide)]
    rw [e1, show wd 2 = 64 from by decide]
    clear e1 h0 h1
    go_enter Tryd.func20, Tryd.ntmps20
    go_wp2_with fail
    refine (A.out _).mono ?_
    rintro e w1 ⟨rfl, hw⟩
    obtain rfl := hw.symm
    go_wp2
    go_ret
    exact ⟨rfl, rfl⟩
end Go.Proofs.YtolllelejdnjlaaDoor
