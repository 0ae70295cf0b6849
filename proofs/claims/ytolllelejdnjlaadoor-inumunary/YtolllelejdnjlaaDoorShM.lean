/-
  Plain facts: shifts and rotations are what their bits say; no statement is proved here.
-/
import Derived.Test.YtolllelejdnjlaaDoorBinA
import Derived.Test.YtolllelejdnjlaaDoorBitM
namespace Go.Proofs.YtolllelejdnjlaaDoor
open Go.RowKit
set_option linter.unusedVariables false
set_option linter.unusedSimpArgs false

def wn (t : Int) : Nat := if t = 1 then 32 else 64
theorem wd_wn (t : Int) : wd t = (wn t : Int) := by unfold wd wn; split <;> rfl
theorem ct_nat {t : Int} (ht : t = 1 ∨ t = 2) (z : Nat) (hz : z < 18446744073709551616) : ct t (z : Int) = ((z % 2 ^ wn t : Nat) : Int) := by
  rcases ht with rfl | rfl
  · show ((z : Int) % 4294967296) = ((z % 2 ^ 32 : Nat) : Int); omega
  · show (z : Int) = ((z % 2 ^ 64 : Nat) : Int); omega
theorem pow_nat (n : Nat) : (2 : Int) ^ n = ((2 ^ n : Nat) : Int) := by simp
/- What a shift of a value that is cut gives, cut, by its bits. -/
theorem shx_25 {t : Int} (ht : t = 1 ∨ t = 2) (a c : Nat) (x u : Int) : ct t (shx 25 a c x u) = ((sb (fun i => decide (c ≤ i) && a.testBit (i - c)) (wn t) : Nat) : Int) := by
  show ct t (IntKind.u64.wrap ((a : Int) * 2 ^ (c : Int).toNat)) = _
  rw [Int.toNat_natCast, pow_nat, IntKind.wrap_u64, show ((a : Int) * ((2 ^ c : Nat) : Int)) % 18446744073709551616 = ((a * 2 ^ c % 2 ^ 64 : Nat) : Int) from by simp]
  rw [ct_nat ht _ (Nat.mod_lt _ (by decide)), shl_sb (wn t) 64 a c (by unfold wn; split <;> omega)]
theorem shx_27 {t : Int} (ht : t = 1 ∨ t = 2) (a c : Nat) (x u : Int) (ha : a < 2 ^ wn t) : ct t (shx 27 a c x u) = ((sb (fun i => decide (i + c < wn t) && a.testBit (i + c)) (wn t) : Nat) : Int) := by
  show ct t ((a : Int) / 2 ^ (c : Int).toNat) = _
  have h64 : 2 ^ wn t ≤ 18446744073709551616 := by unfold wn; split <;> decide
  have hd : a / 2 ^ c < 2 ^ wn t := Nat.lt_of_le_of_lt (Nat.div_le_self _ _) ha
  rw [Int.toNat_natCast, pow_nat, show (a : Int) / ((2 ^ c : Nat) : Int) = ((a / 2 ^ c : Nat) : Int) from by simp, ct_nat ht _ (by omega), Nat.mod_eq_of_lt hd, ← shr_sb (wn t) a c ha]
theorem or_nat (x y : Nat) (hx : x < 18446744073709551616) (hy : y < 18446744073709551616) : bits .or .u64 (x : Int) (y : Int) = ((x ||| y : Nat) : Int) := bits_or_u64_nat x y hx hy
theorem or_lt (x y : Nat) (hx : x < 18446744073709551616) (hy : y < 18446744073709551616) : x ||| y < 18446744073709551616 := Nat.or_lt_two_pow (n := 64) hx hy
theorem shx_28 {t : Int} (ht : t = 1 ∨ t = 2) (a c : Nat) (x : Int) (ha : a < 2 ^ wn t) (hc : c < wn t) : ct t (shx 28 a c x (wd t)) = ((sb (fun i => a.testBit ((i + wn t - c) % wn t)) (wn t) : Nat) : Int) := by
  show ct t (bits .or .u64 (IntKind.u64.wrap ((a : Int) * 2 ^ (c : Int).toNat)) ((a : Int) / 2 ^ (wd t - (c : Int)).toNat)) = _
  have h64 : 2 ^ wn t ≤ 18446744073709551616 := by unfold wn; split <;> decide
  have hw : wn t ≤ 64 := by unfold wn; split <;> omega
  have e2 : (wd t - (c : Int)).toNat = wn t - c := by rw [wd_wn]; omega
  have hd : a / 2 ^ (wn t - c) < 2 ^ wn t := Nat.lt_of_le_of_lt (Nat.div_le_self _ _) ha
  have hm : a * 2 ^ c % 2 ^ 64 < 18446744073709551616 := Nat.mod_lt _ (by decide)
  rw [e2, Int.toNat_natCast, pow_nat, pow_nat, IntKind.wrap_u64, show ((a : Int) * ((2 ^ c : Nat) : Int)) % 18446744073709551616 = ((a * 2 ^ c % 2 ^ 64 : Nat) : Int) from by simp,
    show (a : Int) / ((2 ^ (wn t - c) : Nat) : Int) = ((a / 2 ^ (wn t - c) : Nat) : Int) from by simp, or_nat _ _ hm (by omega), ct_nat ht _ (or_lt _ _ hm (by omega)), rotl_sb (wn t) 64 a c ha hc hw]
theorem shx_29 {t : Int} (ht : t = 1 ∨ t = 2) (a c : Nat) (x : Int) (ha : a < 2 ^ wn t) (hc : c < wn t) : ct t (shx 29 a c x (wd t)) = ((sb (fun i => a.testBit ((i + c) % wn t)) (wn t) : Nat) : Int) := by
  show ct t (bits .or .u64 ((a : Int) / 2 ^ (c : Int).toNat) (IntKind.u64.wrap ((a : Int) * 2 ^ (wd t - (c : Int)).toNat))) = _
  have h64 : 2 ^ wn t ≤ 18446744073709551616 := by unfold wn; split <;> decide
  have hw : wn t ≤ 64 := by unfold wn; split <;> omega
  have e2 : (wd t - (c : Int)).toNat = wn t - c := by rw [wd_wn]; omega
  have hd : a / 2 ^ c < 2 ^ wn t := Nat.lt_of_le_of_lt (Nat.div_le_self _ _) ha
  have hm : a * 2 ^ (wn t - c) % 2 ^ 64 < 18446744073709551616 := Nat.mod_lt _ (by decide)
  rw [e2, Int.toNat_natCast, pow_nat, pow_nat, IntKind.wrap_u64, show ((a : Int) * ((2 ^ (wn t - c) : Nat) : Int)) % 18446744073709551616 = ((a * 2 ^ (wn t - c) % 2 ^ 64 : Nat) : Int) from by simp,
    show (a : Int) / ((2 ^ c : Nat) : Int) = ((a / 2 ^ c : Nat) : Int) from by simp, or_nat _ _ (by omega) hm, ct_nat ht _ (or_lt _ _ (by omega) hm), rotr_sb (wn t) 64 a c ha hc hw]
theorem sar_int (N a c : Nat) (hc : c ≤ N) : ((a : Int) - 2 ^ N) / 2 ^ c = ((a / 2 ^ c : Nat) : Int) - ((2 ^ (N - c) : Nat) : Int) := by
  have e : (2 : Int) ^ N = 2 ^ (N - c) * 2 ^ c := by rw [← Int.pow_add]; congr 1; omega
  rw [e, Int.sub_mul_ediv_right _ _ (by exact_mod_cast Nat.ne_of_gt (Nat.two_pow_pos c)), pow_nat, pow_nat]
  simp
theorem shx_26 {t : Int} (ht : t = 1 ∨ t = 2) (a c : Nat) (u : Int) (ha : a < 2 ^ wn t) (hc : c < wn t) : ct t (shx 26 a c (sg t a) u) = ((sb (fun i => a.testBit (if wn t ≤ i + c then wn t - 1 else i + c)) (wn t) : Nat) : Int) := by
  show ct t (IntKind.u64.wrap (sg t a / 2 ^ (c : Int).toNat)) = _
  rw [← sar_sb (wn t) a c ha hc, Int.toNat_natCast, IntKind.wrap_u64]
  rcases ht with rfl | rfl
  · have hw : wn 1 = 32 := rfl
    have ha1 : a < 4294967296 := ha
    have hc1 : c < 32 := hc
    rw [hw]
    by_cases h : 2 ^ (32 - 1) ≤ a
    · rw [if_pos h]
      have e : sg 1 (a : Int) = (a : Int) - 2 ^ 32 := by simp [sg]; omega
      have hq : a / 2 ^ c < 2 ^ (32 - c) := by rw [Nat.div_lt_iff_lt_mul (Nat.two_pow_pos c), ← Nat.pow_add, show 32 - c + c = 32 from by omega]; exact ha
      have hle : 2 ^ (32 - c) ≤ 2 ^ 32 := Nat.pow_le_pow_right (by decide) (by omega)
      rw [e, sar_int 32 a c (by omega)]
      show (_ % 18446744073709551616) % 4294967296 = _
      generalize a / 2 ^ c = q at *
      generalize 2 ^ (32 - c) = p at *
      omega
    · rw [if_neg h]
      have e : sg 1 (a : Int) = (a : Int) := by simp [sg]; omega
      have hd : a / 2 ^ c ≤ a := Nat.div_le_self _ _
      rw [e, pow_nat, show (a : Int) / ((2 ^ c : Nat) : Int) = ((a / 2 ^ c : Nat) : Int) from by simp]
      show (_ % 18446744073709551616) % 4294967296 = _
      generalize a / 2 ^ c = q at *
      omega
  · have hw : wn 2 = 64 := rfl
    have ha1 : a < 18446744073709551616 := ha
    have hc1 : c < 64 := hc
    rw [hw]
    by_cases h : 2 ^ (64 - 1) ≤ a
    · rw [if_pos h]
      have e : sg 2 (a : Int) = (a : Int) - 2 ^ 64 := by simp [sg]; omega
      have hq : a / 2 ^ c < 2 ^ (64 - c) := by rw [Nat.div_lt_iff_lt_mul (Nat.two_pow_pos c), ← Nat.pow_add, show 64 - c + c = 64 from by omega]; exact ha
      have hle : 2 ^ (64 - c) ≤ 2 ^ 64 := Nat.pow_le_pow_right (by decide) (by omega)
      rw [e, sar_int 64 a c (by omega)]
      show (_ % 18446744073709551616) = _
      generalize a / 2 ^ c = q at *
      generalize 2 ^ (64 - c) = p at *
      omega
    · rw [if_neg h]
      have e : sg 2 (a : Int) = (a : Int) := by simp [sg]; omega
      have hd : a / 2 ^ c ≤ a := Nat.div_le_self _ _
      rw [e, pow_nat, show (a : Int) / ((2 ^ c : Nat) : Int) = ((a / 2 ^ c : Nat) : Int) from by simp]
      show (_ % 18446744073709551616) = _
      generalize a / 2 ^ c = q at *
      omega
end Go.Proofs.YtolllelejdnjlaaDoor
