/-
  Plain facts: turning keeps the number of bits; no statement is proved here.
-/
import Derived.Test.YtolllelejdnjlaaDoorShM
import Derived.Test.YtolllelejdnjlaaDoorPopM
namespace Go.Proofs.YtolllelejdnjlaaDoor
open Go.RowKit
set_option linter.unusedVariables false
set_option linter.unusedSimpArgs false

theorem pc_congr {a b n : Nat} (h : ∀ i, i < n → a.testBit i = b.testBit i) : pc a n = pc b n := by
  induction n with
  | zero => rfl
  | succ n ih => rw [pc, pc, ih (fun i hi => h i (by omega)), h n (by omega)]
theorem pc_wide {a n m : Nat} (ha : a < 2 ^ n) (hm : n ≤ m) : pc a m = pc a n := by
  obtain ⟨k, rfl⟩ : ∃ k, m = n + k := ⟨m - n, by omega⟩
  rw [pc_split, Nat.div_eq_of_lt ha]
  have : ∀ k, pc 0 k = 0 := by
    intro k
    induction k with
    | zero => rfl
    | succ k ih => rw [pc, ih]; simp
  rw [this]; rfl
theorem pc_turn (N A c : Nat) (hA : A < 2 ^ N) (hc : c < N) : pc (sb (fun i => A.testBit ((i + N - c) % N)) N) N = pc A N := by
  have hb : ∀ i, i < N → (sb (fun i => A.testBit ((i + N - c) % N)) N).testBit i = A.testBit ((i + N - c) % N) := fun i hi => by rw [sb_bit]; simp [hi]
  generalize sb (fun i => A.testBit ((i + N - c) % N)) N = l at *
  have e1 := pc_split l c (N - c)
  have e2 := pc_split A (N - c) c
  rw [show c + (N - c) = N from by omega] at e1
  rw [show N - c + c = N from by omega] at e2
  rw [e1, e2]
  have f1 : pc l c = pc (A / 2 ^ (N - c)) c := pc_congr fun i hi => by
    rw [hb i (by omega), shr_bit, Nat.mod_eq_of_lt (show i + N - c < N from by omega)]
    congr 1; omega
  have f2 : pc (l / 2 ^ c) (N - c) = pc A (N - c) := pc_congr fun i hi => by
    rw [shr_bit, hb (c + i) (by omega), show c + i + N - c = i + N from by omega, Nat.add_mod_right, Nat.mod_eq_of_lt (by omega)]
  omega
/- Where the answer has another width than what is taken, the operator takes one value. -/
theorem bv_rot {op t : Int} (k : Int) (a b : Int) (ht : t = 1 ∨ t = 2) (hk : kd op = k) (hk2 : k = 28 ∨ k = 29) (htk : tk op = t) (hg : gv op = t) :
    bv op a b = (ct t (shx k (ct t a) (ct t b % wd t) (sg t (ct t a)) (wd t)), 0) := by
  unfold bv
  rw [hk, htk, hg]
  have ha : ark k = 2 := by unfold ark; rw [if_neg (by omega), if_neg (by omega)]
  rw [ha, if_neg (by simp), if_neg (by omega), if_neg (by omega)]
  unfold bnx
  rw [if_neg (by omega), if_pos (by omega)]
/- There and back, and as many bits. -/
theorem turns {t l r : Int} (a b : Int) (ht : t = 1 ∨ t = 2) (h0 : 0 ≤ a) (h1 : a < 18446744073709551616) (h2 : 0 ≤ b) (h3 : b < 18446744073709551616)
    (hl : kd l = 28 ∧ tk l = t ∧ gv l = t) (hr : kd r = 29 ∧ tk r = t ∧ gv r = t) :
    ∃ L : Nat, bv l a b = ((L : Int), 0) ∧ bv r (L : Int) b = (ct t a, 0) ∧ L < 18446744073709551616 ∧ pc L 64 = pc (ct t a).toNat 64 ∧ ct t (L : Int) = L := by
  obtain ⟨ba0, ba1⟩ := ct_bd ht h0 h1
  obtain ⟨bb0, bb1⟩ := ct_bd ht h2 h3
  have hw := wd_le t
  have hm0 := Int.emod_nonneg (ct t b) (show wd t ≠ 0 from by omega)
  have hm1 := Int.emod_lt_of_pos (ct t b) (show 0 < wd t from by omega)
  have hn : ct t a < ((2 ^ wn t : Nat) : Int) := by rcases ht with h | h <;> rw [h] at ba1 ⊢ <;> simp [wn] at * <;> omega
  have hwn : wd t = (wn t : Int) := wd_wn _
  have h64 : 2 ^ wn t ≤ 18446744073709551616 := by unfold wn; split <;> decide
  have hw64 : wn t ≤ 64 := by unfold wn; split <;> omega
  rw [bv_rot 28 a b ht hl.1 (by omega) hl.2.1 hl.2.2]
  obtain ⟨x, hx⟩ : ∃ x : Nat, ct t a = x := ⟨(ct t a).toNat, by omega⟩
  obtain ⟨c, hc⟩ : ∃ c : Nat, ct t b % wd t = c := ⟨(ct t b % wd t).toNat, by omega⟩
  rw [hx, hc]
  have hxa : x < 2 ^ wn t := by omega
  have hcn : c < wn t := by omega
  rw [shx_28 ht x c _ hxa hcn]
  have hL := sb_lt (fun i => x.testBit ((i + wn t - c) % wn t)) (wn t)
  have hback := rot_back (wn t) 64 x c hxa hcn hw64
  have hpc := pc_turn (wn t) x c hxa hcn
  generalize sb (fun i => x.testBit ((i + wn t - c) % wn t)) (wn t) = L at *
  have hct : ct t (L : Int) = L := by rw [ct_nat ht L (by omega), Nat.mod_eq_of_lt hL]
  refine ⟨L, rfl, ?_, by omega, ?_, hct⟩
  · rw [bv_rot 29 (L : Int) b ht hr.1 (by omega) hr.2.1 hr.2.2, hct, hc, shx_29 ht L c _ hL hcn, hback]
  · rw [Int.toNat_natCast, pc_wide hL hw64, pc_wide hxa hw64, hpc]
end Go.Proofs.YtolllelejdnjlaaDoor
