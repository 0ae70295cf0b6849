/-
  What the document's Round gives; no statement is proved here.
-/
import Derived.Test.YtjkebimmddlccaaDoorRnd1p0
import Derived.Test.YtjkebimmddlccaaDoorRnd1p1
import Derived.Test.YtjkebimmddlccaaDoorRnd1p2
import Derived.Test.YtjkebimmddlccaaDoorRnd1m0
import Derived.Test.YtjkebimmddlccaaDoorRnd1m1
import Derived.Test.YtjkebimmddlccaaDoorRnd1m2
import Derived.Test.YtjkebimmddlccaaDoorRnd2p0
import Derived.Test.YtjkebimmddlccaaDoorRnd2p1
import Derived.Test.YtjkebimmddlccaaDoorRnd2p2
import Derived.Test.YtjkebimmddlccaaDoorRnd2m0
import Derived.Test.YtjkebimmddlccaaDoorRnd2m1
import Derived.Test.YtjkebimmddlccaaDoorRnd2m2
namespace Go.Proofs.YtjkebimmddlccaaDoor
open Go.RowKit
set_option linter.unusedVariables false
set_option linter.unusedSimpArgs false

theorem rd_nz (f : Ieee.Format) (neg : Bool) (W : Nat) (m : Bool) (e : Int) (h : W ≠ 0) : rd f neg W m e = f.word neg (min (rungR f W m e) f.infRung) := by unfold rd; rw [if_neg h]
theorem drop_last (f : Ieee.Format) (W : Nat) (e drop : Int) (h : W ≠ 0) (hd : drop = max ((bl W : Int) - f.fractionBits - 1) (f.leastPlace - e)) : lastR f W e = e + drop := by
  unfold lastR
  have : bl W = W.log2 + 1 := by unfold bl; rw [if_neg h]
  omega
/- The digits that are kept, where none is dropped. -/
theorem kept_up (f : Ieee.Format) (W : Nat) (e drop : Int) (h : W ≠ 0) (hd : drop = max ((bl W : Int) - f.fractionBits - 1) (f.leastPlace - e)) (hn : drop ≤ 0) (m : Bool) :
    rungR f W m e = (e + drop - f.leastPlace).toNat * f.binade + W * 2 ^ (-drop).toNat ∧ W * 2 ^ (-drop).toNat < 2 * f.binade ∧ (W * 2 ^ (-drop).toNat < f.binade → e + drop = f.leastPlace) := by
  have hl := drop_last f W e drop h hd
  have hb : bl W = W.log2 + 1 := by unfold bl; rw [if_neg h]
  refine ⟨?_, ?_, ?_⟩
  · unfold rungR
    rw [hl, show (e - (e + drop)).toNat = (-drop).toNat from by omega, show (e + drop - e).toNat = 0 from by omega, rne_zero, Nat.shiftLeft_eq]
  · have h1 : W < 2 ^ (W.log2 + 1) := lt_log2 W
    have h2 : (-drop).toNat ≤ f.fractionBits - W.log2 := by omega
    have h3 : W.log2 ≤ f.fractionBits := by omega
    calc W * 2 ^ (-drop).toNat ≤ W * 2 ^ (f.fractionBits - W.log2) := Nat.mul_le_mul_left _ (Nat.pow_le_pow_right (by decide) h2)
      _ < 2 ^ (W.log2 + 1) * 2 ^ (f.fractionBits - W.log2) := Nat.mul_lt_mul_of_pos_right h1 (Nat.two_pow_pos _)
      _ = 2 ^ (f.fractionBits + 1) := by rw [← Nat.pow_add]; congr 1; omega
      _ = 2 * f.binade := by rw [Nat.pow_succ, Nat.mul_comm]; rfl
  · intro hk
    by_cases c : drop = f.leastPlace - e
    · omega
    · exfalso
      have hd2 : (-drop).toNat = f.fractionBits - W.log2 := by omega
      have h3 : W.log2 ≤ f.fractionBits := by omega
      have : f.binade ≤ W * 2 ^ (-drop).toNat := by
        rw [hd2]
        calc f.binade = 2 ^ W.log2 * 2 ^ (f.fractionBits - W.log2) := by rw [← Nat.pow_add]; unfold Ieee.Format.binade; congr 1; omega
          _ ≤ W * 2 ^ (f.fractionBits - W.log2) := Nat.mul_le_mul_right _ (log2_le h)
      omega
/- The digits that are kept, where some are dropped. -/
theorem kept_down (f : Ieee.Format) (W : Nat) (e drop : Int) (h : W ≠ 0) (hd : drop = max ((bl W : Int) - f.fractionBits - 1) (f.leastPlace - e)) (hn : 0 < drop) (m : Bool) :
    rungR f W m e = (e + drop - f.leastPlace).toNat * f.binade + (W / 2 ^ drop.toNat + upR W drop.toNat m) ∧ W / 2 ^ drop.toNat < 2 * f.binade ∧ (W / 2 ^ drop.toNat < f.binade → e + drop = f.leastPlace) := by
  have hl := drop_last f W e drop h hd
  have hb : bl W = W.log2 + 1 := by unfold bl; rw [if_neg h]
  refine ⟨?_, ?_, ?_⟩
  · unfold rungR rne
    rw [hl, show (e - (e + drop)).toNat = 0 from by omega, show (e + drop - e).toNat = drop.toNat from by omega, Nat.shiftLeft_zero]
  · apply Nat.div_lt_of_lt_mul
    have h1 : W < 2 ^ (W.log2 + 1) := lt_log2 W
    refine Nat.lt_of_lt_of_le h1 ?_
    calc 2 ^ (W.log2 + 1) ≤ 2 ^ (drop.toNat + (f.fractionBits + 1)) := Nat.pow_le_pow_right (by decide) (by omega)
      _ = 2 ^ drop.toNat * (2 * f.binade) := by rw [Nat.pow_add]; congr 1; rw [Nat.pow_succ, Nat.mul_comm]; rfl
  · intro hk
    by_cases c : drop = f.leastPlace - e
    · omega
    · exfalso
      have hd2 : W.log2 = f.fractionBits + drop.toNat := by omega
      have : f.binade ≤ W / 2 ^ drop.toNat := by
        apply (Nat.le_div_iff_mul_le (Nat.two_pow_pos _)).2
        have := log2_le h
        rw [hd2, Nat.pow_add] at this
        exact this
      omega
theorem wv_agg (M : Nat) (m : Bool) (h : M < 18446744073709551616) : wv M m = .agg #[.int .u64 0, .int .u64 (M : Int), .bool m] := wv_small M h m
theorem par_lo (X : Nat) : X % 18446744073709551616 % 2 = X % 2 := by omega
theorem bit_b (h : Nat) (hh : h < 18446744073709551616) : (bits .and .u64 (h : Int) 1 == 1) = decide (h % 2 = 1) := by
  rw [and_1 h hh]
  have : h % 2 = 0 ∨ h % 2 = 1 := by omega
  rcases this with q | q <;> rw [q] <;> rfl
theorem o1p_T3 (e drop x : Int) (κ : Nat) (hk : (κ : Int) = x) (h1 : κ < 8388608) (h2 : e + drop = -149) : ((if false = true then 2147483648 + min ((e + drop - -149).toNat * 8388608 + κ) 2139095040 else min ((e + drop - -149).toNat * 8388608 + κ) 2139095040 : Nat) : Int) = 0 + x := by
  simp only [Bool.false_eq_true, if_false]
  omega
theorem o1p_T4 (e drop x : Int) (κ : Nat) (hk : (κ : Int) = x) (h1 : 8388608 ≤ κ) (h2 : κ < 16777216) (x0 : 1 ≤ e + drop + 150) (x1 : e + drop + 150 < 255) : ((if false = true then 2147483648 + min ((e + drop - -149).toNat * 8388608 + κ) 2139095040 else min ((e + drop - -149).toNat * 8388608 + κ) 2139095040 : Nat) : Int) = 0 + (e + drop + 150) * 8388608 + x - 8388608 := by
  simp only [Bool.false_eq_true, if_false]
  omega
theorem o1p_T5 (e drop x : Int) (κ : Nat) (hk : (κ : Int) = x) (h1 : 8388608 ≤ κ) (x1 : 255 ≤ e + drop + 150) : ((if false = true then 2147483648 + min ((e + drop - -149).toNat * 8388608 + κ) 2139095040 else min ((e + drop - -149).toNat * 8388608 + κ) 2139095040 : Nat) : Int) = 2139095040 := by
  simp only [Bool.false_eq_true, if_false]
  omega
theorem o1p_T1 (e drop x : Int) (κ : Nat) (hk : (κ : Int) = x) (h1 : κ = 16777216) (x0 : 1 ≤ e + drop + 1 + 150) (x1 : e + drop + 1 + 150 < 255) (x2 : -149 ≤ e + drop) : ((if false = true then 2147483648 + min ((e + drop - -149).toNat * 8388608 + κ) 2139095040 else min ((e + drop - -149).toNat * 8388608 + κ) 2139095040 : Nat) : Int) = 0 + (e + drop + 1 + 150) * 8388608 := by
  simp only [Bool.false_eq_true, if_false]
  omega
theorem o1p_T2 (e drop x : Int) (κ : Nat) (hk : (κ : Int) = x) (h1 : κ = 16777216) (x1 : 255 ≤ e + drop + 1 + 150) : ((if false = true then 2147483648 + min ((e + drop - -149).toNat * 8388608 + κ) 2139095040 else min ((e + drop - -149).toNat * 8388608 + κ) 2139095040 : Nat) : Int) = 2139095040 := by
  simp only [Bool.false_eq_true, if_false]
  omega
theorem o1m_T3 (e drop x : Int) (κ : Nat) (hk : (κ : Int) = x) (h1 : κ < 8388608) (h2 : e + drop = -149) : ((if true = true then 2147483648 + min ((e + drop - -149).toNat * 8388608 + κ) 2139095040 else min ((e + drop - -149).toNat * 8388608 + κ) 2139095040 : Nat) : Int) = 2147483648 + x := by
  simp only [if_true]
  omega
theorem o1m_T4 (e drop x : Int) (κ : Nat) (hk : (κ : Int) = x) (h1 : 8388608 ≤ κ) (h2 : κ < 16777216) (x0 : 1 ≤ e + drop + 150) (x1 : e + drop + 150 < 255) : ((if true = true then 2147483648 + min ((e + drop - -149).toNat * 8388608 + κ) 2139095040 else min ((e + drop - -149).toNat * 8388608 + κ) 2139095040 : Nat) : Int) = 2147483648 + (e + drop + 150) * 8388608 + x - 8388608 := by
  simp only [if_true]
  omega
theorem o1m_T5 (e drop x : Int) (κ : Nat) (hk : (κ : Int) = x) (h1 : 8388608 ≤ κ) (x1 : 255 ≤ e + drop + 150) : ((if true = true then 2147483648 + min ((e + drop - -149).toNat * 8388608 + κ) 2139095040 else min ((e + drop - -149).toNat * 8388608 + κ) 2139095040 : Nat) : Int) = 4286578688 := by
  simp only [if_true]
  omega
theorem o1m_T1 (e drop x : Int) (κ : Nat) (hk : (κ : Int) = x) (h1 : κ = 16777216) (x0 : 1 ≤ e + drop + 1 + 150) (x1 : e + drop + 1 + 150 < 255) (x2 : -149 ≤ e + drop) : ((if true = true then 2147483648 + min ((e + drop - -149).toNat * 8388608 + κ) 2139095040 else min ((e + drop - -149).toNat * 8388608 + κ) 2139095040 : Nat) : Int) = 2147483648 + (e + drop + 1 + 150) * 8388608 := by
  simp only [if_true]
  omega
theorem o1m_T2 (e drop x : Int) (κ : Nat) (hk : (κ : Int) = x) (h1 : κ = 16777216) (x1 : 255 ≤ e + drop + 1 + 150) : ((if true = true then 2147483648 + min ((e + drop - -149).toNat * 8388608 + κ) 2139095040 else min ((e + drop - -149).toNat * 8388608 + κ) 2139095040 : Nat) : Int) = 4286578688 := by
  simp only [if_true]
  omega
theorem o2p_T3 (e drop x : Int) (κ : Nat) (hk : (κ : Int) = x) (h1 : κ < 4503599627370496) (h2 : e + drop = -1074) : ((if false = true then 9223372036854775808 + min ((e + drop - -1074).toNat * 4503599627370496 + κ) 9218868437227405312 else min ((e + drop - -1074).toNat * 4503599627370496 + κ) 9218868437227405312 : Nat) : Int) = 0 + x := by
  simp only [Bool.false_eq_true, if_false]
  omega
theorem o2p_T4 (e drop x : Int) (κ : Nat) (hk : (κ : Int) = x) (h1 : 4503599627370496 ≤ κ) (h2 : κ < 9007199254740992) (x0 : 1 ≤ e + drop + 1075) (x1 : e + drop + 1075 < 2047) : ((if false = true then 9223372036854775808 + min ((e + drop - -1074).toNat * 4503599627370496 + κ) 9218868437227405312 else min ((e + drop - -1074).toNat * 4503599627370496 + κ) 9218868437227405312 : Nat) : Int) = 0 + (e + drop + 1075) * 4503599627370496 + x - 4503599627370496 := by
  simp only [Bool.false_eq_true, if_false]
  omega
theorem o2p_T5 (e drop x : Int) (κ : Nat) (hk : (κ : Int) = x) (h1 : 4503599627370496 ≤ κ) (x1 : 2047 ≤ e + drop + 1075) : ((if false = true then 9223372036854775808 + min ((e + drop - -1074).toNat * 4503599627370496 + κ) 9218868437227405312 else min ((e + drop - -1074).toNat * 4503599627370496 + κ) 9218868437227405312 : Nat) : Int) = 9218868437227405312 := by
  simp only [Bool.false_eq_true, if_false]
  omega
theorem o2p_T1 (e drop x : Int) (κ : Nat) (hk : (κ : Int) = x) (h1 : κ = 9007199254740992) (x0 : 1 ≤ e + drop + 1 + 1075) (x1 : e + drop + 1 + 1075 < 2047) (x2 : -1074 ≤ e + drop) : ((if false = true then 9223372036854775808 + min ((e + drop - -1074).toNat * 4503599627370496 + κ) 9218868437227405312 else min ((e + drop - -1074).toNat * 4503599627370496 + κ) 9218868437227405312 : Nat) : Int) = 0 + (e + drop + 1 + 1075) * 4503599627370496 := by
  simp only [Bool.false_eq_true, if_false]
  omega
theorem o2p_T2 (e drop x : Int) (κ : Nat) (hk : (κ : Int) = x) (h1 : κ = 9007199254740992) (x1 : 2047 ≤ e + drop + 1 + 1075) : ((if false = true then 9223372036854775808 + min ((e + drop - -1074).toNat * 4503599627370496 + κ) 9218868437227405312 else min ((e + drop - -1074).toNat * 4503599627370496 + κ) 9218868437227405312 : Nat) : Int) = 9218868437227405312 := by
  simp only [Bool.false_eq_true, if_false]
  omega
theorem o2m_T3 (e drop x : Int) (κ : Nat) (hk : (κ : Int) = x) (h1 : κ < 4503599627370496) (h2 : e + drop = -1074) : ((if true = true then 9223372036854775808 + min ((e + drop - -1074).toNat * 4503599627370496 + κ) 9218868437227405312 else min ((e + drop - -1074).toNat * 4503599627370496 + κ) 9218868437227405312 : Nat) : Int) = 9223372036854775808 + x := by
  simp only [if_true]
  omega
theorem o2m_T4 (e drop x : Int) (κ : Nat) (hk : (κ : Int) = x) (h1 : 4503599627370496 ≤ κ) (h2 : κ < 9007199254740992) (x0 : 1 ≤ e + drop + 1075) (x1 : e + drop + 1075 < 2047) : ((if true = true then 9223372036854775808 + min ((e + drop - -1074).toNat * 4503599627370496 + κ) 9218868437227405312 else min ((e + drop - -1074).toNat * 4503599627370496 + κ) 9218868437227405312 : Nat) : Int) = 9223372036854775808 + (e + drop + 1075) * 4503599627370496 + x - 4503599627370496 := by
  simp only [if_true]
  omega
theorem o2m_T5 (e drop x : Int) (κ : Nat) (hk : (κ : Int) = x) (h1 : 4503599627370496 ≤ κ) (x1 : 2047 ≤ e + drop + 1075) : ((if true = true then 9223372036854775808 + min ((e + drop - -1074).toNat * 4503599627370496 + κ) 9218868437227405312 else min ((e + drop - -1074).toNat * 4503599627370496 + κ) 9218868437227405312 : Nat) : Int) = 18442240474082181120 := by
  simp only [if_true]
  omega
theorem o2m_T1 (e drop x : Int) (κ : Nat) (hk : (κ : Int) = x) (h1 : κ = 9007199254740992) (x0 : 1 ≤ e + drop + 1 + 1075) (x1 : e + drop + 1 + 1075 < 2047) (x2 : -1074 ≤ e + drop) : ((if true = true then 9223372036854775808 + min ((e + drop - -1074).toNat * 4503599627370496 + κ) 9218868437227405312 else min ((e + drop - -1074).toNat * 4503599627370496 + κ) 9218868437227405312 : Nat) : Int) = 9223372036854775808 + (e + drop + 1 + 1075) * 4503599627370496 := by
  simp only [if_true]
  omega
theorem o2m_T2 (e drop x : Int) (κ : Nat) (hk : (κ : Int) = x) (h1 : κ = 9007199254740992) (x1 : 2047 ≤ e + drop + 1 + 1075) : ((if true = true then 9223372036854775808 + min ((e + drop - -1074).toNat * 4503599627370496 + κ) 9218868437227405312 else min ((e + drop - -1074).toNat * 4503599627370496 + κ) 9218868437227405312 : Nat) : Int) = 18442240474082181120 := by
  simp only [if_true]
  omega
set_option maxRecDepth 100000 in
set_option maxHeartbeats 2000000 in
theorem Round1p (W : Nat) (m : Bool) (e : Int) (hW : W < 340282366920938463463374607431768211456) (e0 : -3900 ≤ e) (e1 : e ≤ 3900) (w : World) :
    Calls Tryd.prog 79 #[fv Ieee.single, .bool false, wv W m, .int .i64 e] w fun en w' => en = .returned (.int .u64 (rd Ieee.single false W m e : Int)) ∧ Grew w w' := by
  have hW' : Wd W _ _ := Wd.of hW
  rw [hW'.wv, fv1]
  have Bi := fun w : World => bias_1 w
  have If := fun w : World => inf_any (f := Ieee.single) (by simp [Two]) w
  have Sg := fun w : World => sign_any (f := Ieee.single) (by simp [Two]) w
  rw [fv1] at Bi If Sg
  rw [ir1] at If
  rw [sw1] at Sg
  have hbl : bl W ≤ 128 := bl_ge (Nat.div_eq_of_lt (by rw [show (2 : Nat) ^ 128 = 340282366920938463463374607431768211456 from by decide]; exact hW))
  obtain ⟨drop, hdrop⟩ : ∃ d : Int, d = max ((bl W : Int) - 24) (-149 - e) := ⟨_, rfl⟩
  have d0 : -5000 ≤ drop := by omega
  have d1 : drop ≤ 5000 := by omega
  have Rr := fun w : World => right_w W _ _ drop m hW' d0 d1 w
  by_cases hz : W = 0
  · have hr : rd Ieee.single false W m e = 0 := by unfold rd; rw [if_pos hz]; decide
    rw [hr]
    have hHL : W / 18446744073709551616 = 0 ∧ W % 18446744073709551616 = 0 := by subst hz; decide
    by_cases hp : 0 < drop
    · rw [show W / 2 ^ drop.toNat = 0 from by subst hz; simp, wv_agg 0 _ (by decide)] at Rr
      exact Rd1_p_Z1 _ _ 0 0 0 m _ false e _ drop _ w (by omega) (by omega) (by omega) (by omega) hdrop (by omega) (by omega) hp hHL rfl (fun w => long_w W _ _ m hW' w) Bi Rr
    · have Lf := fun w : World => left_w W (-drop).toNat _ _ m hW' (by subst hz; simp) (by omega) w
      rw [show W * 2 ^ (-drop).toNat = 0 from by subst hz; simp, wv_agg 0 _ (by decide), show (((-drop).toNat : Nat) : Int) = -drop from by omega] at Lf
      rw [show drop.toNat = 0 from by omega, Nat.pow_zero, Nat.div_one, Nat.mod_one, hW'.wv] at Rr
      have Rr2 : ∀ w : World, Calls Tryd.prog 93 _ w _ := Rr
      simp only [ne_eq, not_true, decide_false, Bool.or_false] at Rr
      exact Rd1_p_Z0 _ _ 0 0 0 m _ false e _ drop _ w (by omega) (by omega) (by omega) (by omega) hdrop (by omega) (by omega) (by omega) hHL rfl (fun w => long_w W _ _ m hW' w) Bi Rr Lf
  · have hHL : ¬ (W / 18446744073709551616 = 0 ∧ W % 18446744073709551616 = 0) := by omega
    rw [rd_nz _ _ _ _ _ hz]
    have hfd : drop = max ((bl W : Int) - (Ieee.single.fractionBits : Nat) - 1) (Ieee.single.leastPlace - e) := by rw [lp1, show Ieee.single.fractionBits = 23 from rfl]; omega
    by_cases hp : 0 < drop
    · obtain ⟨k1, k2, k3⟩ := kept_down Ieee.single W e drop hz hfd hp m
      have Rh := fun w : World => right_w W _ _ (drop - 1) m hW' (by omega) (by omega) w
      rw [k1, lp1, bn1, ir1]
      rw [bn1] at k2 k3
      rw [lp1] at k3
      have hM : W / 2 ^ drop.toNat < 18446744073709551616 := by omega
      rw [wv_agg _ _ hM] at Rr
      have hx : W / 2 ^ (drop - 1).toNat < 340282366920938463463374607431768211456 := Nat.lt_of_le_of_lt (Nat.div_le_self _ _) hW
      have hxd : Wd (W / 2 ^ (drop - 1).toNat) _ _ := Wd.of hx
      rw [hxd.wv] at Rh
      have eu : upR W drop.toNat m = if W / 2 ^ (drop - 1).toNat % 2 = 1 ∧ ((m || decide (W % 2 ^ (drop - 1).toNat ≠ 0)) = true ∨ W / 2 ^ drop.toNat % 2 = 1) then 1 else 0 := by
        unfold upR
        rw [if_neg (by omega), show drop.toNat - 1 = (drop - 1).toNat from by omega]
        simp only [Bool.or_eq_true, decide_eq_true_eq, or_assoc]
      have hh : W / 2 ^ (drop - 1).toNat % 18446744073709551616 < 18446744073709551616 := Nat.mod_lt _ (by decide)
      have bm := bit_b _ hh
      rw [par_lo] at bm
      have bo := bit_b _ hM
      generalize (m || decide (W % 2 ^ (drop - 1).toNat ≠ 0)) = hb at *
      generalize (m || decide (W % 2 ^ drop.toNat ≠ 0)) = mm at *
      generalize ((W / 2 ^ (drop - 1).toNat / 18446744073709551616 : Nat) : Int) = g at *
      generalize W / 2 ^ (drop - 1).toNat % 18446744073709551616 = h at *
      generalize W / 2 ^ (drop - 1).toNat % 2 = hp2 at *
      generalize W / 2 ^ drop.toNat = M at *
      have hlp : -149 ≤ e + drop := by omega
      have go : ∀ (κ : Nat), κ = M ∨ κ = M + 1 → upR W drop.toNat m + M = κ → True := fun _ _ _ => trivial
      clear go hxd hx
      unfold Ieee.Format.word
      rw [sw1]
      by_cases c1 : hp2 = 1
      · rw [decide_eq_true c1] at bm
        cases hb
        · by_cases c2 : M % 2 = 1
          · rw [decide_eq_true c2] at bo
            rw [if_pos ⟨c1, Or.inr c2⟩] at eu
            rw [eu]
            by_cases hc : M + 1 = 16777216
            · by_cases hx : e + drop + 1 + 150 < 255
              · exact Rd1_p_Py2T1 _ _ M h g m mm _ e _ drop _ w (by omega) (by omega) (by omega) (by omega) hdrop (by omega) (by omega) hp hHL bm rfl bo (show _ = _ from hc) (by omega) (by omega) hx (o1p_T1 e drop ((M : Int) + 1) (M + 1) (by omega) hc (by omega) hx hlp) (fun w => long_w W _ _ m hW' w) Bi Rr Rh
              · exact Rd1_p_Py2T2 _ _ M h g m mm _ e _ drop _ w (by omega) (by omega) (by omega) (by omega) hdrop (by omega) (by omega) hp hHL bm rfl bo (show _ = _ from hc) (by omega) (by omega) (o1p_T2 e drop ((M : Int) + 1) (M + 1) (by omega) hc (by omega)) (fun w => long_w W _ _ m hW' w) Bi If Rr Rh
            by_cases hs : M + 1 < 8388608
            · exact Rd1_p_Py2T3 _ _ M h g m mm _ e _ drop _ w (by omega) (by omega) (by omega) (by omega) hdrop (by omega) (by omega) hp hHL bm rfl bo (show _ < _ by omega) (by omega) (show _ < _ from hs) (o1p_T3 e drop ((M : Int) + 1) (M + 1) (by omega) (by omega) (k3 (by omega))) (fun w => long_w W _ _ m hW' w) Bi Rr Rh
            by_cases hx : e + drop + 150 < 255
            · exact Rd1_p_Py2T4 _ _ M h g m mm _ e _ drop _ w (by omega) (by omega) (by omega) (by omega) hdrop (by omega) (by omega) hp hHL bm rfl bo (show _ < _ by omega) (by omega) (show _ ≤ _ by omega) (by omega) hx (o1p_T4 e drop ((M : Int) + 1) (M + 1) (by omega) (by omega) (by omega) (by omega) hx) (fun w => long_w W _ _ m hW' w) Bi Rr Rh
            exact Rd1_p_Py2T5 _ _ M h g m mm _ e _ drop _ w (by omega) (by omega) (by omega) (by omega) hdrop (by omega) (by omega) hp hHL bm rfl bo (show _ < _ by omega) (by omega) (show _ ≤ _ by omega) (by omega) (o1p_T5 e drop ((M : Int) + 1) (M + 1) (by omega) (by omega) (by omega)) (fun w => long_w W _ _ m hW' w) Bi If Rr Rh
          · rw [decide_eq_false c2] at bo
            rw [if_neg (by simp [c2])] at eu
            rw [eu]
            by_cases hs : M < 8388608
            · exact Rd1_p_Pn2T3 _ _ M h g m mm _ e _ drop _ w (by omega) (by omega) (by omega) (by omega) hdrop (by omega) (by omega) hp hHL bm rfl bo (show _ < _ by omega) (by omega) (show _ < _ from hs) (o1p_T3 e drop (M : Int) (M + 0) (by omega) (by omega) (k3 (by omega))) (fun w => long_w W _ _ m hW' w) Bi Rr Rh
            by_cases hx : e + drop + 150 < 255
            · exact Rd1_p_Pn2T4 _ _ M h g m mm _ e _ drop _ w (by omega) (by omega) (by omega) (by omega) hdrop (by omega) (by omega) hp hHL bm rfl bo (show _ < _ by omega) (by omega) (show _ ≤ _ by omega) (by omega) hx (o1p_T4 e drop (M : Int) (M + 0) (by omega) (by omega) (by omega) (by omega) hx) (fun w => long_w W _ _ m hW' w) Bi Rr Rh
            exact Rd1_p_Pn2T5 _ _ M h g m mm _ e _ drop _ w (by omega) (by omega) (by omega) (by omega) hdrop (by omega) (by omega) hp hHL bm rfl bo (show _ < _ by omega) (by omega) (show _ ≤ _ by omega) (by omega) (o1p_T5 e drop (M : Int) (M + 0) (by omega) (by omega) (by omega)) (fun w => long_w W _ _ m hW' w) Bi If Rr Rh
        · rw [if_pos ⟨c1, Or.inl rfl⟩] at eu
          rw [eu]
          by_cases hc : M + 1 = 16777216
          · by_cases hx : e + drop + 1 + 150 < 255
            · exact Rd1_p_Py1T1 _ _ M h g m mm _ e _ drop _ w (by omega) (by omega) (by omega) (by omega) hdrop (by omega) (by omega) hp hHL bm rfl (show _ = _ from hc) (by omega) (by omega) hx (o1p_T1 e drop ((M : Int) + 1) (M + 1) (by omega) hc (by omega) hx hlp) (fun w => long_w W _ _ m hW' w) Bi Rr Rh
            · exact Rd1_p_Py1T2 _ _ M h g m mm _ e _ drop _ w (by omega) (by omega) (by omega) (by omega) hdrop (by omega) (by omega) hp hHL bm rfl (show _ = _ from hc) (by omega) (by omega) (o1p_T2 e drop ((M : Int) + 1) (M + 1) (by omega) hc (by omega)) (fun w => long_w W _ _ m hW' w) Bi If Rr Rh
          by_cases hs : M + 1 < 8388608
          · exact Rd1_p_Py1T3 _ _ M h g m mm _ e _ drop _ w (by omega) (by omega) (by omega) (by omega) hdrop (by omega) (by omega) hp hHL bm rfl (show _ < _ by omega) (by omega) (show _ < _ from hs) (o1p_T3 e drop ((M : Int) + 1) (M + 1) (by omega) (by omega) (k3 (by omega))) (fun w => long_w W _ _ m hW' w) Bi Rr Rh
          by_cases hx : e + drop + 150 < 255
          · exact Rd1_p_Py1T4 _ _ M h g m mm _ e _ drop _ w (by omega) (by omega) (by omega) (by omega) hdrop (by omega) (by omega) hp hHL bm rfl (show _ < _ by omega) (by omega) (show _ ≤ _ by omega) (by omega) hx (o1p_T4 e drop ((M : Int) + 1) (M + 1) (by omega) (by omega) (by omega) (by omega) hx) (fun w => long_w W _ _ m hW' w) Bi Rr Rh
          exact Rd1_p_Py1T5 _ _ M h g m mm _ e _ drop _ w (by omega) (by omega) (by omega) (by omega) hdrop (by omega) (by omega) hp hHL bm rfl (show _ < _ by omega) (by omega) (show _ ≤ _ by omega) (by omega) (o1p_T5 e drop ((M : Int) + 1) (M + 1) (by omega) (by omega) (by omega)) (fun w => long_w W _ _ m hW' w) Bi If Rr Rh
      · rw [decide_eq_false c1] at bm
        rw [if_neg (fun q => c1 q.1)] at eu
        rw [eu]
        by_cases hs : M < 8388608
        · exact Rd1_p_Pn1T3 _ _ M h g m mm _ e _ drop _ w (by omega) (by omega) (by omega) (by omega) hdrop (by omega) (by omega) hp hHL bm (show _ < _ by omega) (by omega) (show _ < _ from hs) (o1p_T3 e drop (M : Int) (M + 0) (by omega) (by omega) (k3 (by omega))) (fun w => long_w W _ _ m hW' w) Bi Rr Rh
        by_cases hx : e + drop + 150 < 255
        · exact Rd1_p_Pn1T4 _ _ M h g m mm _ e _ drop _ w (by omega) (by omega) (by omega) (by omega) hdrop (by omega) (by omega) hp hHL bm (show _ < _ by omega) (by omega) (show _ ≤ _ by omega) (by omega) hx (o1p_T4 e drop (M : Int) (M + 0) (by omega) (by omega) (by omega) (by omega) hx) (fun w => long_w W _ _ m hW' w) Bi Rr Rh
        exact Rd1_p_Pn1T5 _ _ M h g m mm _ e _ drop _ w (by omega) (by omega) (by omega) (by omega) hdrop (by omega) (by omega) hp hHL bm (show _ < _ by omega) (by omega) (show _ ≤ _ by omega) (by omega) (o1p_T5 e drop (M : Int) (M + 0) (by omega) (by omega) (by omega)) (fun w => long_w W _ _ m hW' w) Bi If Rr Rh
    · have hn : drop ≤ 0 := by omega
      obtain ⟨k1, k2, k3⟩ := kept_up Ieee.single W e drop hz hfd hn m
      rw [k1, lp1, bn1, ir1]
      rw [bn1] at k2 k3
      rw [lp1] at k3
      have Lf := fun w : World => left_w W (-drop).toNat _ _ m hW' (by omega) (by omega) w
      rw [wv_agg _ _ (by omega), show (((-drop).toNat : Nat) : Int) = -drop from by omega] at Lf
      rw [show drop.toNat = 0 from by omega, Nat.pow_zero, Nat.div_one, Nat.mod_one, hW'.wv] at Rr
      simp only [ne_eq, not_true, decide_false, Bool.or_false] at Rr
      generalize W * 2 ^ (-drop).toNat = M at *
      unfold Ieee.Format.word
      rw [sw1]
      by_cases hs : M < 8388608
      · exact Rd1_p_NT3 _ _ M 0 0 m _ false e _ drop _ w (by omega) (by omega) (by omega) (by omega) hdrop (by omega) (by omega) hn hHL (show _ < _ by omega) (by omega) (show _ < _ from hs) (by show _ = _; simp only [Bool.false_eq_true, if_false]; omega) (fun w => long_w W _ _ m hW' w) Bi Rr Lf
      by_cases hx : e + drop + 150 < 255
      · exact Rd1_p_NT4 _ _ M 0 0 m _ false e _ drop _ w (by omega) (by omega) (by omega) (by omega) hdrop (by omega) (by omega) hn hHL (show _ < _ by omega) (by omega) (show _ ≤ _ by omega) (by omega) hx (by show _ = _; simp only [Bool.false_eq_true, if_false]; omega) (fun w => long_w W _ _ m hW' w) Bi Rr Lf
      exact Rd1_p_NT5 _ _ M 0 0 m _ false e _ drop _ w (by omega) (by omega) (by omega) (by omega) hdrop (by omega) (by omega) hn hHL (show _ < _ by omega) (by omega) (show _ ≤ _ by omega) (by omega) (by show _ = _; simp only [Bool.false_eq_true, if_false]; omega) (fun w => long_w W _ _ m hW' w) Bi If Rr Lf
set_option maxRecDepth 100000 in
set_option maxHeartbeats 2000000 in
theorem Round1m (W : Nat) (m : Bool) (e : Int) (hW : W < 340282366920938463463374607431768211456) (e0 : -3900 ≤ e) (e1 : e ≤ 3900) (w : World) :
    Calls Tryd.prog 79 #[fv Ieee.single, .bool true, wv W m, .int .i64 e] w fun en w' => en = .returned (.int .u64 (rd Ieee.single true W m e : Int)) ∧ Grew w w' := by
  have hW' : Wd W _ _ := Wd.of hW
  rw [hW'.wv, fv1]
  have Bi := fun w : World => bias_1 w
  have If := fun w : World => inf_any (f := Ieee.single) (by simp [Two]) w
  have Sg := fun w : World => sign_any (f := Ieee.single) (by simp [Two]) w
  rw [fv1] at Bi If Sg
  rw [ir1] at If
  rw [sw1] at Sg
  have hbl : bl W ≤ 128 := bl_ge (Nat.div_eq_of_lt (by rw [show (2 : Nat) ^ 128 = 340282366920938463463374607431768211456 from by decide]; exact hW))
  obtain ⟨drop, hdrop⟩ : ∃ d : Int, d = max ((bl W : Int) - 24) (-149 - e) := ⟨_, rfl⟩
  have d0 : -5000 ≤ drop := by omega
  have d1 : drop ≤ 5000 := by omega
  have Rr := fun w : World => right_w W _ _ drop m hW' d0 d1 w
  by_cases hz : W = 0
  · have hr : rd Ieee.single true W m e = 2147483648 := by unfold rd; rw [if_pos hz]; decide
    rw [hr]
    have hHL : W / 18446744073709551616 = 0 ∧ W % 18446744073709551616 = 0 := by subst hz; decide
    by_cases hp : 0 < drop
    · rw [show W / 2 ^ drop.toNat = 0 from by subst hz; simp, wv_agg 0 _ (by decide)] at Rr
      exact Rd1_m_Z1 _ _ 0 0 0 m _ false e _ drop _ w (by omega) (by omega) (by omega) (by omega) hdrop (by omega) (by omega) hp hHL rfl (fun w => long_w W _ _ m hW' w) Bi Sg Rr
    · have Lf := fun w : World => left_w W (-drop).toNat _ _ m hW' (by subst hz; simp) (by omega) w
      rw [show W * 2 ^ (-drop).toNat = 0 from by subst hz; simp, wv_agg 0 _ (by decide), show (((-drop).toNat : Nat) : Int) = -drop from by omega] at Lf
      rw [show drop.toNat = 0 from by omega, Nat.pow_zero, Nat.div_one, Nat.mod_one, hW'.wv] at Rr
      have Rr2 : ∀ w : World, Calls Tryd.prog 93 _ w _ := Rr
      simp only [ne_eq, not_true, decide_false, Bool.or_false] at Rr
      exact Rd1_m_Z0 _ _ 0 0 0 m _ false e _ drop _ w (by omega) (by omega) (by omega) (by omega) hdrop (by omega) (by omega) (by omega) hHL rfl (fun w => long_w W _ _ m hW' w) Bi Sg Rr Lf
  · have hHL : ¬ (W / 18446744073709551616 = 0 ∧ W % 18446744073709551616 = 0) := by omega
    rw [rd_nz _ _ _ _ _ hz]
    have hfd : drop = max ((bl W : Int) - (Ieee.single.fractionBits : Nat) - 1) (Ieee.single.leastPlace - e) := by rw [lp1, show Ieee.single.fractionBits = 23 from rfl]; omega
    by_cases hp : 0 < drop
    · obtain ⟨k1, k2, k3⟩ := kept_down Ieee.single W e drop hz hfd hp m
      have Rh := fun w : World => right_w W _ _ (drop - 1) m hW' (by omega) (by omega) w
      rw [k1, lp1, bn1, ir1]
      rw [bn1] at k2 k3
      rw [lp1] at k3
      have hM : W / 2 ^ drop.toNat < 18446744073709551616 := by omega
      rw [wv_agg _ _ hM] at Rr
      have hx : W / 2 ^ (drop - 1).toNat < 340282366920938463463374607431768211456 := Nat.lt_of_le_of_lt (Nat.div_le_self _ _) hW
      have hxd : Wd (W / 2 ^ (drop - 1).toNat) _ _ := Wd.of hx
      rw [hxd.wv] at Rh
      have eu : upR W drop.toNat m = if W / 2 ^ (drop - 1).toNat % 2 = 1 ∧ ((m || decide (W % 2 ^ (drop - 1).toNat ≠ 0)) = true ∨ W / 2 ^ drop.toNat % 2 = 1) then 1 else 0 := by
        unfold upR
        rw [if_neg (by omega), show drop.toNat - 1 = (drop - 1).toNat from by omega]
        simp only [Bool.or_eq_true, decide_eq_true_eq, or_assoc]
      have hh : W / 2 ^ (drop - 1).toNat % 18446744073709551616 < 18446744073709551616 := Nat.mod_lt _ (by decide)
      have bm := bit_b _ hh
      rw [par_lo] at bm
      have bo := bit_b _ hM
      generalize (m || decide (W % 2 ^ (drop - 1).toNat ≠ 0)) = hb at *
      generalize (m || decide (W % 2 ^ drop.toNat ≠ 0)) = mm at *
      generalize ((W / 2 ^ (drop - 1).toNat / 18446744073709551616 : Nat) : Int) = g at *
      generalize W / 2 ^ (drop - 1).toNat % 18446744073709551616 = h at *
      generalize W / 2 ^ (drop - 1).toNat % 2 = hp2 at *
      generalize W / 2 ^ drop.toNat = M at *
      have hlp : -149 ≤ e + drop := by omega
      have go : ∀ (κ : Nat), κ = M ∨ κ = M + 1 → upR W drop.toNat m + M = κ → True := fun _ _ _ => trivial
      clear go hxd hx
      unfold Ieee.Format.word
      rw [sw1]
      by_cases c1 : hp2 = 1
      · rw [decide_eq_true c1] at bm
        cases hb
        · by_cases c2 : M % 2 = 1
          · rw [decide_eq_true c2] at bo
            rw [if_pos ⟨c1, Or.inr c2⟩] at eu
            rw [eu]
            by_cases hc : M + 1 = 16777216
            · by_cases hx : e + drop + 1 + 150 < 255
              · exact Rd1_m_Py2T1 _ _ M h g m mm _ e _ drop _ w (by omega) (by omega) (by omega) (by omega) hdrop (by omega) (by omega) hp hHL bm rfl bo (show _ = _ from hc) (by omega) (by omega) hx (o1m_T1 e drop ((M : Int) + 1) (M + 1) (by omega) hc (by omega) hx hlp) (fun w => long_w W _ _ m hW' w) Bi Sg Rr Rh
              · exact Rd1_m_Py2T2 _ _ M h g m mm _ e _ drop _ w (by omega) (by omega) (by omega) (by omega) hdrop (by omega) (by omega) hp hHL bm rfl bo (show _ = _ from hc) (by omega) (by omega) (o1m_T2 e drop ((M : Int) + 1) (M + 1) (by omega) hc (by omega)) (fun w => long_w W _ _ m hW' w) Bi Sg If Rr Rh
            by_cases hs : M + 1 < 8388608
            · exact Rd1_m_Py2T3 _ _ M h g m mm _ e _ drop _ w (by omega) (by omega) (by omega) (by omega) hdrop (by omega) (by omega) hp hHL bm rfl bo (show _ < _ by omega) (by omega) (show _ < _ from hs) (o1m_T3 e drop ((M : Int) + 1) (M + 1) (by omega) (by omega) (k3 (by omega))) (fun w => long_w W _ _ m hW' w) Bi Sg Rr Rh
            by_cases hx : e + drop + 150 < 255
            · exact Rd1_m_Py2T4 _ _ M h g m mm _ e _ drop _ w (by omega) (by omega) (by omega) (by omega) hdrop (by omega) (by omega) hp hHL bm rfl bo (show _ < _ by omega) (by omega) (show _ ≤ _ by omega) (by omega) hx (o1m_T4 e drop ((M : Int) + 1) (M + 1) (by omega) (by omega) (by omega) (by omega) hx) (fun w => long_w W _ _ m hW' w) Bi Sg Rr Rh
            exact Rd1_m_Py2T5 _ _ M h g m mm _ e _ drop _ w (by omega) (by omega) (by omega) (by omega) hdrop (by omega) (by omega) hp hHL bm rfl bo (show _ < _ by omega) (by omega) (show _ ≤ _ by omega) (by omega) (o1m_T5 e drop ((M : Int) + 1) (M + 1) (by omega) (by omega) (by omega)) (fun w => long_w W _ _ m hW' w) Bi Sg If Rr Rh
          · rw [decide_eq_false c2] at bo
            rw [if_neg (by simp [c2])] at eu
            rw [eu]
            by_cases hs : M < 8388608
            · exact Rd1_m_Pn2T3 _ _ M h g m mm _ e _ drop _ w (by omega) (by omega) (by omega) (by omega) hdrop (by omega) (by omega) hp hHL bm rfl bo (show _ < _ by omega) (by omega) (show _ < _ from hs) (o1m_T3 e drop (M : Int) (M + 0) (by omega) (by omega) (k3 (by omega))) (fun w => long_w W _ _ m hW' w) Bi Sg Rr Rh
            by_cases hx : e + drop + 150 < 255
            · exact Rd1_m_Pn2T4 _ _ M h g m mm _ e _ drop _ w (by omega) (by omega) (by omega) (by omega) hdrop (by omega) (by omega) hp hHL bm rfl bo (show _ < _ by omega) (by omega) (show _ ≤ _ by omega) (by omega) hx (o1m_T4 e drop (M : Int) (M + 0) (by omega) (by omega) (by omega) (by omega) hx) (fun w => long_w W _ _ m hW' w) Bi Sg Rr Rh
            exact Rd1_m_Pn2T5 _ _ M h g m mm _ e _ drop _ w (by omega) (by omega) (by omega) (by omega) hdrop (by omega) (by omega) hp hHL bm rfl bo (show _ < _ by omega) (by omega) (show _ ≤ _ by omega) (by omega) (o1m_T5 e drop (M : Int) (M + 0) (by omega) (by omega) (by omega)) (fun w => long_w W _ _ m hW' w) Bi Sg If Rr Rh
        · rw [if_pos ⟨c1, Or.inl rfl⟩] at eu
          rw [eu]
          by_cases hc : M + 1 = 16777216
          · by_cases hx : e + drop + 1 + 150 < 255
            · exact Rd1_m_Py1T1 _ _ M h g m mm _ e _ drop _ w (by omega) (by omega) (by omega) (by omega) hdrop (by omega) (by omega) hp hHL bm rfl (show _ = _ from hc) (by omega) (by omega) hx (o1m_T1 e drop ((M : Int) + 1) (M + 1) (by omega) hc (by omega) hx hlp) (fun w => long_w W _ _ m hW' w) Bi Sg Rr Rh
            · exact Rd1_m_Py1T2 _ _ M h g m mm _ e _ drop _ w (by omega) (by omega) (by omega) (by omega) hdrop (by omega) (by omega) hp hHL bm rfl (show _ = _ from hc) (by omega) (by omega) (o1m_T2 e drop ((M : Int) + 1) (M + 1) (by omega) hc (by omega)) (fun w => long_w W _ _ m hW' w) Bi Sg If Rr Rh
          by_cases hs : M + 1 < 8388608
          · exact Rd1_m_Py1T3 _ _ M h g m mm _ e _ drop _ w (by omega) (by omega) (by omega) (by omega) hdrop (by omega) (by omega) hp hHL bm rfl (show _ < _ by omega) (by omega) (show _ < _ from hs) (o1m_T3 e drop ((M : Int) + 1) (M + 1) (by omega) (by omega) (k3 (by omega))) (fun w => long_w W _ _ m hW' w) Bi Sg Rr Rh
          by_cases hx : e + drop + 150 < 255
          · exact Rd1_m_Py1T4 _ _ M h g m mm _ e _ drop _ w (by omega) (by omega) (by omega) (by omega) hdrop (by omega) (by omega) hp hHL bm rfl (show _ < _ by omega) (by omega) (show _ ≤ _ by omega) (by omega) hx (o1m_T4 e drop ((M : Int) + 1) (M + 1) (by omega) (by omega) (by omega) (by omega) hx) (fun w => long_w W _ _ m hW' w) Bi Sg Rr Rh
          exact Rd1_m_Py1T5 _ _ M h g m mm _ e _ drop _ w (by omega) (by omega) (by omega) (by omega) hdrop (by omega) (by omega) hp hHL bm rfl (show _ < _ by omega) (by omega) (show _ ≤ _ by omega) (by omega) (o1m_T5 e drop ((M : Int) + 1) (M + 1) (by omega) (by omega) (by omega)) (fun w => long_w W _ _ m hW' w) Bi Sg If Rr Rh
      · rw [decide_eq_false c1] at bm
        rw [if_neg (fun q => c1 q.1)] at eu
        rw [eu]
        by_cases hs : M < 8388608
        · exact Rd1_m_Pn1T3 _ _ M h g m mm _ e _ drop _ w (by omega) (by omega) (by omega) (by omega) hdrop (by omega) (by omega) hp hHL bm (show _ < _ by omega) (by omega) (show _ < _ from hs) (o1m_T3 e drop (M : Int) (M + 0) (by omega) (by omega) (k3 (by omega))) (fun w => long_w W _ _ m hW' w) Bi Sg Rr Rh
        by_cases hx : e + drop + 150 < 255
        · exact Rd1_m_Pn1T4 _ _ M h g m mm _ e _ drop _ w (by omega) (by omega) (by omega) (by omega) hdrop (by omega) (by omega) hp hHL bm (show _ < _ by omega) (by omega) (show _ ≤ _ by omega) (by omega) hx (o1m_T4 e drop (M : Int) (M + 0) (by omega) (by omega) (by omega) (by omega) hx) (fun w => long_w W _ _ m hW' w) Bi Sg Rr Rh
        exact Rd1_m_Pn1T5 _ _ M h g m mm _ e _ drop _ w (by omega) (by omega) (by omega) (by omega) hdrop (by omega) (by omega) hp hHL bm (show _ < _ by omega) (by omega) (show _ ≤ _ by omega) (by omega) (o1m_T5 e drop (M : Int) (M + 0) (by omega) (by omega) (by omega)) (fun w => long_w W _ _ m hW' w) Bi Sg If Rr Rh
    · have hn : drop ≤ 0 := by omega
      obtain ⟨k1, k2, k3⟩ := kept_up Ieee.single W e drop hz hfd hn m
      rw [k1, lp1, bn1, ir1]
      rw [bn1] at k2 k3
      rw [lp1] at k3
      have Lf := fun w : World => left_w W (-drop).toNat _ _ m hW' (by omega) (by omega) w
      rw [wv_agg _ _ (by omega), show (((-drop).toNat : Nat) : Int) = -drop from by omega] at Lf
      rw [show drop.toNat = 0 from by omega, Nat.pow_zero, Nat.div_one, Nat.mod_one, hW'.wv] at Rr
      simp only [ne_eq, not_true, decide_false, Bool.or_false] at Rr
      generalize W * 2 ^ (-drop).toNat = M at *
      unfold Ieee.Format.word
      rw [sw1]
      by_cases hs : M < 8388608
      · exact Rd1_m_NT3 _ _ M 0 0 m _ false e _ drop _ w (by omega) (by omega) (by omega) (by omega) hdrop (by omega) (by omega) hn hHL (show _ < _ by omega) (by omega) (show _ < _ from hs) (by show _ = _; simp only [if_true]; omega) (fun w => long_w W _ _ m hW' w) Bi Sg Rr Lf
      by_cases hx : e + drop + 150 < 255
      · exact Rd1_m_NT4 _ _ M 0 0 m _ false e _ drop _ w (by omega) (by omega) (by omega) (by omega) hdrop (by omega) (by omega) hn hHL (show _ < _ by omega) (by omega) (show _ ≤ _ by omega) (by omega) hx (by show _ = _; simp only [if_true]; omega) (fun w => long_w W _ _ m hW' w) Bi Sg Rr Lf
      exact Rd1_m_NT5 _ _ M 0 0 m _ false e _ drop _ w (by omega) (by omega) (by omega) (by omega) hdrop (by omega) (by omega) hn hHL (show _ < _ by omega) (by omega) (show _ ≤ _ by omega) (by omega) (by show _ = _; simp only [if_true]; omega) (fun w => long_w W _ _ m hW' w) Bi Sg If Rr Lf
set_option maxRecDepth 100000 in
set_option maxHeartbeats 2000000 in
theorem Round2p (W : Nat) (m : Bool) (e : Int) (hW : W < 340282366920938463463374607431768211456) (e0 : -3900 ≤ e) (e1 : e ≤ 3900) (w : World) :
    Calls Tryd.prog 79 #[fv Ieee.double, .bool false, wv W m, .int .i64 e] w fun en w' => en = .returned (.int .u64 (rd Ieee.double false W m e : Int)) ∧ Grew w w' := by
  have hW' : Wd W _ _ := Wd.of hW
  rw [hW'.wv, fv2]
  have Bi := fun w : World => bias_2 w
  have If := fun w : World => inf_any (f := Ieee.double) (by simp [Two]) w
  have Sg := fun w : World => sign_any (f := Ieee.double) (by simp [Two]) w
  rw [fv2] at Bi If Sg
  rw [ir2] at If
  rw [sw2] at Sg
  have hbl : bl W ≤ 128 := bl_ge (Nat.div_eq_of_lt (by rw [show (2 : Nat) ^ 128 = 340282366920938463463374607431768211456 from by decide]; exact hW))
  obtain ⟨drop, hdrop⟩ : ∃ d : Int, d = max ((bl W : Int) - 53) (-1074 - e) := ⟨_, rfl⟩
  have d0 : -5000 ≤ drop := by omega
  have d1 : drop ≤ 5000 := by omega
  have Rr := fun w : World => right_w W _ _ drop m hW' d0 d1 w
  by_cases hz : W = 0
  · have hr : rd Ieee.double false W m e = 0 := by unfold rd; rw [if_pos hz]; decide
    rw [hr]
    have hHL : W / 18446744073709551616 = 0 ∧ W % 18446744073709551616 = 0 := by subst hz; decide
    by_cases hp : 0 < drop
    · rw [show W / 2 ^ drop.toNat = 0 from by subst hz; simp, wv_agg 0 _ (by decide)] at Rr
      exact Rd2_p_Z1 _ _ 0 0 0 m _ false e _ drop _ w (by omega) (by omega) (by omega) (by omega) hdrop (by omega) (by omega) hp hHL rfl (fun w => long_w W _ _ m hW' w) Bi Rr
    · have Lf := fun w : World => left_w W (-drop).toNat _ _ m hW' (by subst hz; simp) (by omega) w
      rw [show W * 2 ^ (-drop).toNat = 0 from by subst hz; simp, wv_agg 0 _ (by decide), show (((-drop).toNat : Nat) : Int) = -drop from by omega] at Lf
      rw [show drop.toNat = 0 from by omega, Nat.pow_zero, Nat.div_one, Nat.mod_one, hW'.wv] at Rr
      have Rr2 : ∀ w : World, Calls Tryd.prog 93 _ w _ := Rr
      simp only [ne_eq, not_true, decide_false, Bool.or_false] at Rr
      exact Rd2_p_Z0 _ _ 0 0 0 m _ false e _ drop _ w (by omega) (by omega) (by omega) (by omega) hdrop (by omega) (by omega) (by omega) hHL rfl (fun w => long_w W _ _ m hW' w) Bi Rr Lf
  · have hHL : ¬ (W / 18446744073709551616 = 0 ∧ W % 18446744073709551616 = 0) := by omega
    rw [rd_nz _ _ _ _ _ hz]
    have hfd : drop = max ((bl W : Int) - (Ieee.double.fractionBits : Nat) - 1) (Ieee.double.leastPlace - e) := by rw [lp2, show Ieee.double.fractionBits = 52 from rfl]; omega
    by_cases hp : 0 < drop
    · obtain ⟨k1, k2, k3⟩ := kept_down Ieee.double W e drop hz hfd hp m
      have Rh := fun w : World => right_w W _ _ (drop - 1) m hW' (by omega) (by omega) w
      rw [k1, lp2, bn2, ir2]
      rw [bn2] at k2 k3
      rw [lp2] at k3
      have hM : W / 2 ^ drop.toNat < 18446744073709551616 := by omega
      rw [wv_agg _ _ hM] at Rr
      have hx : W / 2 ^ (drop - 1).toNat < 340282366920938463463374607431768211456 := Nat.lt_of_le_of_lt (Nat.div_le_self _ _) hW
      have hxd : Wd (W / 2 ^ (drop - 1).toNat) _ _ := Wd.of hx
      rw [hxd.wv] at Rh
      have eu : upR W drop.toNat m = if W / 2 ^ (drop - 1).toNat % 2 = 1 ∧ ((m || decide (W % 2 ^ (drop - 1).toNat ≠ 0)) = true ∨ W / 2 ^ drop.toNat % 2 = 1) then 1 else 0 := by
        unfold upR
        rw [if_neg (by omega), show drop.toNat - 1 = (drop - 1).toNat from by omega]
        simp only [Bool.or_eq_true, decide_eq_true_eq, or_assoc]
      have hh : W / 2 ^ (drop - 1).toNat % 18446744073709551616 < 18446744073709551616 := Nat.mod_lt _ (by decide)
      have bm := bit_b _ hh
      rw [par_lo] at bm
      have bo := bit_b _ hM
      generalize (m || decide (W % 2 ^ (drop - 1).toNat ≠ 0)) = hb at *
      generalize (m || decide (W % 2 ^ drop.toNat ≠ 0)) = mm at *
      generalize ((W / 2 ^ (drop - 1).toNat / 18446744073709551616 : Nat) : Int) = g at *
      generalize W / 2 ^ (drop - 1).toNat % 18446744073709551616 = h at *
      generalize W / 2 ^ (drop - 1).toNat % 2 = hp2 at *
      generalize W / 2 ^ drop.toNat = M at *
      have hlp : -1074 ≤ e + drop := by omega
      have go : ∀ (κ : Nat), κ = M ∨ κ = M + 1 → upR W drop.toNat m + M = κ → True := fun _ _ _ => trivial
      clear go hxd hx
      unfold Ieee.Format.word
      rw [sw2]
      by_cases c1 : hp2 = 1
      · rw [decide_eq_true c1] at bm
        cases hb
        · by_cases c2 : M % 2 = 1
          · rw [decide_eq_true c2] at bo
            rw [if_pos ⟨c1, Or.inr c2⟩] at eu
            rw [eu]
            by_cases hc : M + 1 = 9007199254740992
            · by_cases hx : e + drop + 1 + 1075 < 2047
              · exact Rd2_p_Py2T1 _ _ M h g m mm _ e _ drop _ w (by omega) (by omega) (by omega) (by omega) hdrop (by omega) (by omega) hp hHL bm rfl bo (show _ = _ from hc) (by omega) (by omega) hx (o2p_T1 e drop ((M : Int) + 1) (M + 1) (by omega) hc (by omega) hx hlp) (fun w => long_w W _ _ m hW' w) Bi Rr Rh
              · exact Rd2_p_Py2T2 _ _ M h g m mm _ e _ drop _ w (by omega) (by omega) (by omega) (by omega) hdrop (by omega) (by omega) hp hHL bm rfl bo (show _ = _ from hc) (by omega) (by omega) (o2p_T2 e drop ((M : Int) + 1) (M + 1) (by omega) hc (by omega)) (fun w => long_w W _ _ m hW' w) Bi If Rr Rh
            by_cases hs : M + 1 < 4503599627370496
            · exact Rd2_p_Py2T3 _ _ M h g m mm _ e _ drop _ w (by omega) (by omega) (by omega) (by omega) hdrop (by omega) (by omega) hp hHL bm rfl bo (show _ < _ by omega) (by omega) (show _ < _ from hs) (o2p_T3 e drop ((M : Int) + 1) (M + 1) (by omega) (by omega) (k3 (by omega))) (fun w => long_w W _ _ m hW' w) Bi Rr Rh
            by_cases hx : e + drop + 1075 < 2047
            · exact Rd2_p_Py2T4 _ _ M h g m mm _ e _ drop _ w (by omega) (by omega) (by omega) (by omega) hdrop (by omega) (by omega) hp hHL bm rfl bo (show _ < _ by omega) (by omega) (show _ ≤ _ by omega) (by omega) hx (o2p_T4 e drop ((M : Int) + 1) (M + 1) (by omega) (by omega) (by omega) (by omega) hx) (fun w => long_w W _ _ m hW' w) Bi Rr Rh
            exact Rd2_p_Py2T5 _ _ M h g m mm _ e _ drop _ w (by omega) (by omega) (by omega) (by omega) hdrop (by omega) (by omega) hp hHL bm rfl bo (show _ < _ by omega) (by omega) (show _ ≤ _ by omega) (by omega) (o2p_T5 e drop ((M : Int) + 1) (M + 1) (by omega) (by omega) (by omega)) (fun w => long_w W _ _ m hW' w) Bi If Rr Rh
          · rw [decide_eq_false c2] at bo
            rw [if_neg (by simp [c2])] at eu
            rw [eu]
            by_cases hs : M < 4503599627370496
            · exact Rd2_p_Pn2T3 _ _ M h g m mm _ e _ drop _ w (by omega) (by omega) (by omega) (by omega) hdrop (by omega) (by omega) hp hHL bm rfl bo (show _ < _ by omega) (by omega) (show _ < _ from hs) (o2p_T3 e drop (M : Int) (M + 0) (by omega) (by omega) (k3 (by omega))) (fun w => long_w W _ _ m hW' w) Bi Rr Rh
            by_cases hx : e + drop + 1075 < 2047
            · exact Rd2_p_Pn2T4 _ _ M h g m mm _ e _ drop _ w (by omega) (by omega) (by omega) (by omega) hdrop (by omega) (by omega) hp hHL bm rfl bo (show _ < _ by omega) (by omega) (show _ ≤ _ by omega) (by omega) hx (o2p_T4 e drop (M : Int) (M + 0) (by omega) (by omega) (by omega) (by omega) hx) (fun w => long_w W _ _ m hW' w) Bi Rr Rh
            exact Rd2_p_Pn2T5 _ _ M h g m mm _ e _ drop _ w (by omega) (by omega) (by omega) (by omega) hdrop (by omega) (by omega) hp hHL bm rfl bo (show _ < _ by omega) (by omega) (show _ ≤ _ by omega) (by omega) (o2p_T5 e drop (M : Int) (M + 0) (by omega) (by omega) (by omega)) (fun w => long_w W _ _ m hW' w) Bi If Rr Rh
        · rw [if_pos ⟨c1, Or.inl rfl⟩] at eu
          rw [eu]
          by_cases hc : M + 1 = 9007199254740992
          · by_cases hx : e + drop + 1 + 1075 < 2047
            · exact Rd2_p_Py1T1 _ _ M h g m mm _ e _ drop _ w (by omega) (by omega) (by omega) (by omega) hdrop (by omega) (by omega) hp hHL bm rfl (show _ = _ from hc) (by omega) (by omega) hx (o2p_T1 e drop ((M : Int) + 1) (M + 1) (by omega) hc (by omega) hx hlp) (fun w => long_w W _ _ m hW' w) Bi Rr Rh
            · exact Rd2_p_Py1T2 _ _ M h g m mm _ e _ drop _ w (by omega) (by omega) (by omega) (by omega) hdrop (by omega) (by omega) hp hHL bm rfl (show _ = _ from hc) (by omega) (by omega) (o2p_T2 e drop ((M : Int) + 1) (M + 1) (by omega) hc (by omega)) (fun w => long_w W _ _ m hW' w) Bi If Rr Rh
          by_cases hs : M + 1 < 4503599627370496
          · exact Rd2_p_Py1T3 _ _ M h g m mm _ e _ drop _ w (by omega) (by omega) (by omega) (by omega) hdrop (by omega) (by omega) hp hHL bm rfl (show _ < _ by omega) (by omega) (show _ < _ from hs) (o2p_T3 e drop ((M : Int) + 1) (M + 1) (by omega) (by omega) (k3 (by omega))) (fun w => long_w W _ _ m hW' w) Bi Rr Rh
          by_cases hx : e + drop + 1075 < 2047
          · exact Rd2_p_Py1T4 _ _ M h g m mm _ e _ drop _ w (by omega) (by omega) (by omega) (by omega) hdrop (by omega) (by omega) hp hHL bm rfl (show _ < _ by omega) (by omega) (show _ ≤ _ by omega) (by omega) hx (o2p_T4 e drop ((M : Int) + 1) (M + 1) (by omega) (by omega) (by omega) (by omega) hx) (fun w => long_w W _ _ m hW' w) Bi Rr Rh
          exact Rd2_p_Py1T5 _ _ M h g m mm _ e _ drop _ w (by omega) (by omega) (by omega) (by omega) hdrop (by omega) (by omega) hp hHL bm rfl (show _ < _ by omega) (by omega) (show _ ≤ _ by omega) (by omega) (o2p_T5 e drop ((M : Int) + 1) (M + 1) (by omega) (by omega) (by omega)) (fun w => long_w W _ _ m hW' w) Bi If Rr Rh
      · rw [decide_eq_false c1] at bm
        rw [if_neg (fun q => c1 q.1)] at eu
        rw [eu]
        by_cases hs : M < 4503599627370496
        · exact Rd2_p_Pn1T3 _ _ M h g m mm _ e _ drop _ w (by omega) (by omega) (by omega) (by omega) hdrop (by omega) (by omega) hp hHL bm (show _ < _ by omega) (by omega) (show _ < _ from hs) (o2p_T3 e drop (M : Int) (M + 0) (by omega) (by omega) (k3 (by omega))) (fun w => long_w W _ _ m hW' w) Bi Rr Rh
        by_cases hx : e + drop + 1075 < 2047
        · exact Rd2_p_Pn1T4 _ _ M h g m mm _ e _ drop _ w (by omega) (by omega) (by omega) (by omega) hdrop (by omega) (by omega) hp hHL bm (show _ < _ by omega) (by omega) (show _ ≤ _ by omega) (by omega) hx (o2p_T4 e drop (M : Int) (M + 0) (by omega) (by omega) (by omega) (by omega) hx) (fun w => long_w W _ _ m hW' w) Bi Rr Rh
        exact Rd2_p_Pn1T5 _ _ M h g m mm _ e _ drop _ w (by omega) (by omega) (by omega) (by omega) hdrop (by omega) (by omega) hp hHL bm (show _ < _ by omega) (by omega) (show _ ≤ _ by omega) (by omega) (o2p_T5 e drop (M : Int) (M + 0) (by omega) (by omega) (by omega)) (fun w => long_w W _ _ m hW' w) Bi If Rr Rh
    · have hn : drop ≤ 0 := by omega
      obtain ⟨k1, k2, k3⟩ := kept_up Ieee.double W e drop hz hfd hn m
      rw [k1, lp2, bn2, ir2]
      rw [bn2] at k2 k3
      rw [lp2] at k3
      have Lf := fun w : World => left_w W (-drop).toNat _ _ m hW' (by omega) (by omega) w
      rw [wv_agg _ _ (by omega), show (((-drop).toNat : Nat) : Int) = -drop from by omega] at Lf
      rw [show drop.toNat = 0 from by omega, Nat.pow_zero, Nat.div_one, Nat.mod_one, hW'.wv] at Rr
      simp only [ne_eq, not_true, decide_false, Bool.or_false] at Rr
      generalize W * 2 ^ (-drop).toNat = M at *
      unfold Ieee.Format.word
      rw [sw2]
      by_cases hs : M < 4503599627370496
      · exact Rd2_p_NT3 _ _ M 0 0 m _ false e _ drop _ w (by omega) (by omega) (by omega) (by omega) hdrop (by omega) (by omega) hn hHL (show _ < _ by omega) (by omega) (show _ < _ from hs) (by show _ = _; simp only [Bool.false_eq_true, if_false]; omega) (fun w => long_w W _ _ m hW' w) Bi Rr Lf
      by_cases hx : e + drop + 1075 < 2047
      · exact Rd2_p_NT4 _ _ M 0 0 m _ false e _ drop _ w (by omega) (by omega) (by omega) (by omega) hdrop (by omega) (by omega) hn hHL (show _ < _ by omega) (by omega) (show _ ≤ _ by omega) (by omega) hx (by show _ = _; simp only [Bool.false_eq_true, if_false]; omega) (fun w => long_w W _ _ m hW' w) Bi Rr Lf
      exact Rd2_p_NT5 _ _ M 0 0 m _ false e _ drop _ w (by omega) (by omega) (by omega) (by omega) hdrop (by omega) (by omega) hn hHL (show _ < _ by omega) (by omega) (show _ ≤ _ by omega) (by omega) (by show _ = _; simp only [Bool.false_eq_true, if_false]; omega) (fun w => long_w W _ _ m hW' w) Bi If Rr Lf
set_option maxRecDepth 100000 in
set_option maxHeartbeats 2000000 in
theorem Round2m (W : Nat) (m : Bool) (e : Int) (hW : W < 340282366920938463463374607431768211456) (e0 : -3900 ≤ e) (e1 : e ≤ 3900) (w : World) :
    Calls Tryd.prog 79 #[fv Ieee.double, .bool true, wv W m, .int .i64 e] w fun en w' => en = .returned (.int .u64 (rd Ieee.double true W m e : Int)) ∧ Grew w w' := by
  have hW' : Wd W _ _ := Wd.of hW
  rw [hW'.wv, fv2]
  have Bi := fun w : World => bias_2 w
  have If := fun w : World => inf_any (f := Ieee.double) (by simp [Two]) w
  have Sg := fun w : World => sign_any (f := Ieee.double) (by simp [Two]) w
  rw [fv2] at Bi If Sg
  rw [ir2] at If
  rw [sw2] at Sg
  have hbl : bl W ≤ 128 := bl_ge (Nat.div_eq_of_lt (by rw [show (2 : Nat) ^ 128 = 340282366920938463463374607431768211456 from by decide]; exact hW))
  obtain ⟨drop, hdrop⟩ : ∃ d : Int, d = max ((bl W : Int) - 53) (-1074 - e) := ⟨_, rfl⟩
  have d0 : -5000 ≤ drop := by omega
  have d1 : drop ≤ 5000 := by omega
  have Rr := fun w : World => right_w W _ _ drop m hW' d0 d1 w
  by_cases hz : W = 0
  · have hr : rd Ieee.double true W m e = 9223372036854775808 := by unfold rd; rw [if_pos hz]; decide
    rw [hr]
    have hHL : W / 18446744073709551616 = 0 ∧ W % 18446744073709551616 = 0 := by subst hz; decide
    by_cases hp : 0 < drop
    · rw [show W / 2 ^ drop.toNat = 0 from by subst hz; simp, wv_agg 0 _ (by decide)] at Rr
      exact Rd2_m_Z1 _ _ 0 0 0 m _ false e _ drop _ w (by omega) (by omega) (by omega) (by omega) hdrop (by omega) (by omega) hp hHL rfl (fun w => long_w W _ _ m hW' w) Bi Sg Rr
    · have Lf := fun w : World => left_w W (-drop).toNat _ _ m hW' (by subst hz; simp) (by omega) w
      rw [show W * 2 ^ (-drop).toNat = 0 from by subst hz; simp, wv_agg 0 _ (by decide), show (((-drop).toNat : Nat) : Int) = -drop from by omega] at Lf
      rw [show drop.toNat = 0 from by omega, Nat.pow_zero, Nat.div_one, Nat.mod_one, hW'.wv] at Rr
      have Rr2 : ∀ w : World, Calls Tryd.prog 93 _ w _ := Rr
      simp only [ne_eq, not_true, decide_false, Bool.or_false] at Rr
      exact Rd2_m_Z0 _ _ 0 0 0 m _ false e _ drop _ w (by omega) (by omega) (by omega) (by omega) hdrop (by omega) (by omega) (by omega) hHL rfl (fun w => long_w W _ _ m hW' w) Bi Sg Rr Lf
  · have hHL : ¬ (W / 18446744073709551616 = 0 ∧ W % 18446744073709551616 = 0) := by omega
    rw [rd_nz _ _ _ _ _ hz]
    have hfd : drop = max ((bl W : Int) - (Ieee.double.fractionBits : Nat) - 1) (Ieee.double.leastPlace - e) := by rw [lp2, show Ieee.double.fractionBits = 52 from rfl]; omega
    by_cases hp : 0 < drop
    · obtain ⟨k1, k2, k3⟩ := kept_down Ieee.double W e drop hz hfd hp m
      have Rh := fun w : World => right_w W _ _ (drop - 1) m hW' (by omega) (by omega) w
      rw [k1, lp2, bn2, ir2]
      rw [bn2] at k2 k3
      rw [lp2] at k3
      have hM : W / 2 ^ drop.toNat < 18446744073709551616 := by omega
      rw [wv_agg _ _ hM] at Rr
      have hx : W / 2 ^ (drop - 1).toNat < 340282366920938463463374607431768211456 := Nat.lt_of_le_of_lt (Nat.div_le_self _ _) hW
      have hxd : Wd (W / 2 ^ (drop - 1).toNat) _ _ := Wd.of hx
      rw [hxd.wv] at Rh
      have eu : upR W drop.toNat m = if W / 2 ^ (drop - 1).toNat % 2 = 1 ∧ ((m || decide (W % 2 ^ (drop - 1).toNat ≠ 0)) = true ∨ W / 2 ^ drop.toNat % 2 = 1) then 1 else 0 := by
        unfold upR
        rw [if_neg (by omega), show drop.toNat - 1 = (drop - 1).toNat from by omega]
        simp only [Bool.or_eq_true, decide_eq_true_eq, or_assoc]
      have hh : W / 2 ^ (drop - 1).toNat % 18446744073709551616 < 18446744073709551616 := Nat.mod_lt _ (by decide)
      have bm := bit_b _ hh
      rw [par_lo] at bm
      have bo := bit_b _ hM
      generalize (m || decide (W % 2 ^ (drop - 1).toNat ≠ 0)) = hb at *
      generalize (m || decide (W % 2 ^ drop.toNat ≠ 0)) = mm at *
      generalize ((W / 2 ^ (drop - 1).toNat / 18446744073709551616 : Nat) : Int) = g at *
      generalize W / 2 ^ (drop - 1).toNat % 18446744073709551616 = h at *
      generalize W / 2 ^ (drop - 1).toNat % 2 = hp2 at *
      generalize W / 2 ^ drop.toNat = M at *
      have hlp : -1074 ≤ e + drop := by omega
      have go : ∀ (κ : Nat), κ = M ∨ κ = M + 1 → upR W drop.toNat m + M = κ → True := fun _ _ _ => trivial
      clear go hxd hx
      unfold Ieee.Format.word
      rw [sw2]
      by_cases c1 : hp2 = 1
      · rw [decide_eq_true c1] at bm
        cases hb
        · by_cases c2 : M % 2 = 1
          · rw [decide_eq_true c2] at bo
            rw [if_pos ⟨c1, Or.inr c2⟩] at eu
            rw [eu]
            by_cases hc : M + 1 = 9007199254740992
            · by_cases hx : e + drop + 1 + 1075 < 2047
              · exact Rd2_m_Py2T1 _ _ M h g m mm _ e _ drop _ w (by omega) (by omega) (by omega) (by omega) hdrop (by omega) (by omega) hp hHL bm rfl bo (show _ = _ from hc) (by omega) (by omega) hx (o2m_T1 e drop ((M : Int) + 1) (M + 1) (by omega) hc (by omega) hx hlp) (fun w => long_w W _ _ m hW' w) Bi Sg Rr Rh
              · exact Rd2_m_Py2T2 _ _ M h g m mm _ e _ drop _ w (by omega) (by omega) (by omega) (by omega) hdrop (by omega) (by omega) hp hHL bm rfl bo (show _ = _ from hc) (by omega) (by omega) (o2m_T2 e drop ((M : Int) + 1) (M + 1) (by omega) hc (by omega)) (fun w => long_w W _ _ m hW' w) Bi Sg If Rr Rh
            by_cases hs : M + 1 < 4503599627370496
            · exact Rd2_m_Py2T3 _ _ M h g m mm _ e _ drop _ w (by omega) (by omega) (by omega) (by omega) hdrop (by omega) (by omega) hp hHL bm rfl bo (show _ < _ by omega) (by omega) (show _ < _ from hs) (o2m_T3 e drop ((M : Int) + 1) (M + 1) (by omega) (by omega) (k3 (by omega))) (fun w => long_w W _ _ m hW' w) Bi Sg Rr Rh
            by_cases hx : e + drop + 1075 < 2047
            · exact Rd2_m_Py2T4 _ _ M h g m mm _ e _ drop _ w (by omega) (by omega) (by omega) (by omega) hdrop (by omega) (by omega) hp hHL bm rfl bo (show _ < _ by omega) (by omega) (show _ ≤ _ by omega) (by omega) hx (o2m_T4 e drop ((M : Int) + 1) (M + 1) (by omega) (by omega) (by omega) (by omega) hx) (fun w => long_w W _ _ m hW' w) Bi Sg Rr Rh
            exact Rd2_m_Py2T5 _ _ M h g m mm _ e _ drop _ w (by omega) (by omega) (by omega) (by omega) hdrop (by omega) (by omega) hp hHL bm rfl bo (show _ < _ by omega) (by omega) (show _ ≤ _ by omega) (by omega) (o2m_T5 e drop ((M : Int) + 1) (M + 1) (by omega) (by omega) (by omega)) (fun w => long_w W _ _ m hW' w) Bi Sg If Rr Rh
          · rw [decide_eq_false c2] at bo
            rw [if_neg (by simp [c2])] at eu
            rw [eu]
            by_cases hs : M < 4503599627370496
            · exact Rd2_m_Pn2T3 _ _ M h g m mm _ e _ drop _ w (by omega) (by omega) (by omega) (by omega) hdrop (by omega) (by omega) hp hHL bm rfl bo (show _ < _ by omega) (by omega) (show _ < _ from hs) (o2m_T3 e drop (M : Int) (M + 0) (by omega) (by omega) (k3 (by omega))) (fun w => long_w W _ _ m hW' w) Bi Sg Rr Rh
            by_cases hx : e + drop + 1075 < 2047
            · exact Rd2_m_Pn2T4 _ _ M h g m mm _ e _ drop _ w (by omega) (by omega) (by omega) (by omega) hdrop (by omega) (by omega) hp hHL bm rfl bo (show _ < _ by omega) (by omega) (show _ ≤ _ by omega) (by omega) hx (o2m_T4 e drop (M : Int) (M + 0) (by omega) (by omega) (by omega) (by omega) hx) (fun w => long_w W _ _ m hW' w) Bi Sg Rr Rh
            exact Rd2_m_Pn2T5 _ _ M h g m mm _ e _ drop _ w (by omega) (by omega) (by omega) (by omega) hdrop (by omega) (by omega) hp hHL bm rfl bo (show _ < _ by omega) (by omega) (show _ ≤ _ by omega) (by omega) (o2m_T5 e drop (M : Int) (M + 0) (by omega) (by omega) (by omega)) (fun w => long_w W _ _ m hW' w) Bi Sg If Rr Rh
        · rw [if_pos ⟨c1, Or.inl rfl⟩] at eu
          rw [eu]
          by_cases hc : M + 1 = 9007199254740992
          · by_cases hx : e + drop + 1 + 1075 < 2047
            · exact Rd2_m_Py1T1 _ _ M h g m mm _ e _ drop _ w (by omega) (by omega) (by omega) (by omega) hdrop (by omega) (by omega) hp hHL bm rfl (show _ = _ from hc) (by omega) (by omega) hx (o2m_T1 e drop ((M : Int) + 1) (M + 1) (by omega) hc (by omega) hx hlp) (fun w => long_w W _ _ m hW' w) Bi Sg Rr Rh
            · exact Rd2_m_Py1T2 _ _ M h g m mm _ e _ drop _ w (by omega) (by omega) (by omega) (by omega) hdrop (by omega) (by omega) hp hHL bm rfl (show _ = _ from hc) (by omega) (by omega) (o2m_T2 e drop ((M : Int) + 1) (M + 1) (by omega) hc (by omega)) (fun w => long_w W _ _ m hW' w) Bi Sg If Rr Rh
          by_cases hs : M + 1 < 4503599627370496
          · exact Rd2_m_Py1T3 _ _ M h g m mm _ e _ drop _ w (by omega) (by omega) (by omega) (by omega) hdrop (by omega) (by omega) hp hHL bm rfl (show _ < _ by omega) (by omega) (show _ < _ from hs) (o2m_T3 e drop ((M : Int) + 1) (M + 1) (by omega) (by omega) (k3 (by omega))) (fun w => long_w W _ _ m hW' w) Bi Sg Rr Rh
          by_cases hx : e + drop + 1075 < 2047
          · exact Rd2_m_Py1T4 _ _ M h g m mm _ e _ drop _ w (by omega) (by omega) (by omega) (by omega) hdrop (by omega) (by omega) hp hHL bm rfl (show _ < _ by omega) (by omega) (show _ ≤ _ by omega) (by omega) hx (o2m_T4 e drop ((M : Int) + 1) (M + 1) (by omega) (by omega) (by omega) (by omega) hx) (fun w => long_w W _ _ m hW' w) Bi Sg Rr Rh
          exact Rd2_m_Py1T5 _ _ M h g m mm _ e _ drop _ w (by omega) (by omega) (by omega) (by omega) hdrop (by omega) (by omega) hp hHL bm rfl (show _ < _ by omega) (by omega) (show _ ≤ _ by omega) (by omega) (o2m_T5 e drop ((M : Int) + 1) (M + 1) (by omega) (by omega) (by omega)) (fun w => long_w W _ _ m hW' w) Bi Sg If Rr Rh
      · rw [decide_eq_false c1] at bm
        rw [if_neg (fun q => c1 q.1)] at eu
        rw [eu]
        by_cases hs : M < 4503599627370496
        · exact Rd2_m_Pn1T3 _ _ M h g m mm _ e _ drop _ w (by omega) (by omega) (by omega) (by omega) hdrop (by omega) (by omega) hp hHL bm (show _ < _ by omega) (by omega) (show _ < _ from hs) (o2m_T3 e drop (M : Int) (M + 0) (by omega) (by omega) (k3 (by omega))) (fun w => long_w W _ _ m hW' w) Bi Sg Rr Rh
        by_cases hx : e + drop + 1075 < 2047
        · exact Rd2_m_Pn1T4 _ _ M h g m mm _ e _ drop _ w (by omega) (by omega) (by omega) (by omega) hdrop (by omega) (by omega) hp hHL bm (show _ < _ by omega) (by omega) (show _ ≤ _ by omega) (by omega) hx (o2m_T4 e drop (M : Int) (M + 0) (by omega) (by omega) (by omega) (by omega) hx) (fun w => long_w W _ _ m hW' w) Bi Sg Rr Rh
        exact Rd2_m_Pn1T5 _ _ M h g m mm _ e _ drop _ w (by omega) (by omega) (by omega) (by omega) hdrop (by omega) (by omega) hp hHL bm (show _ < _ by omega) (by omega) (show _ ≤ _ by omega) (by omega) (o2m_T5 e drop (M : Int) (M + 0) (by omega) (by omega) (by omega)) (fun w => long_w W _ _ m hW' w) Bi Sg If Rr Rh
    · have hn : drop ≤ 0 := by omega
      obtain ⟨k1, k2, k3⟩ := kept_up Ieee.double W e drop hz hfd hn m
      rw [k1, lp2, bn2, ir2]
      rw [bn2] at k2 k3
      rw [lp2] at k3
      have Lf := fun w : World => left_w W (-drop).toNat _ _ m hW' (by omega) (by omega) w
      rw [wv_agg _ _ (by omega), show (((-drop).toNat : Nat) : Int) = -drop from by omega] at Lf
      rw [show drop.toNat = 0 from by omega, Nat.pow_zero, Nat.div_one, Nat.mod_one, hW'.wv] at Rr
      simp only [ne_eq, not_true, decide_false, Bool.or_false] at Rr
      generalize W * 2 ^ (-drop).toNat = M at *
      unfold Ieee.Format.word
      rw [sw2]
      by_cases hs : M < 4503599627370496
      · exact Rd2_m_NT3 _ _ M 0 0 m _ false e _ drop _ w (by omega) (by omega) (by omega) (by omega) hdrop (by omega) (by omega) hn hHL (show _ < _ by omega) (by omega) (show _ < _ from hs) (by show _ = _; simp only [if_true]; omega) (fun w => long_w W _ _ m hW' w) Bi Sg Rr Lf
      by_cases hx : e + drop + 1075 < 2047
      · exact Rd2_m_NT4 _ _ M 0 0 m _ false e _ drop _ w (by omega) (by omega) (by omega) (by omega) hdrop (by omega) (by omega) hn hHL (show _ < _ by omega) (by omega) (show _ ≤ _ by omega) (by omega) hx (by show _ = _; simp only [if_true]; omega) (fun w => long_w W _ _ m hW' w) Bi Sg Rr Lf
      exact Rd2_m_NT5 _ _ M 0 0 m _ false e _ drop _ w (by omega) (by omega) (by omega) (by omega) hdrop (by omega) (by omega) hn hHL (show _ < _ by omega) (by omega) (show _ ≤ _ by omega) (by omega) (by show _ = _; simp only [if_true]; omega) (fun w => long_w W _ _ m hW' w) Bi Sg If Rr Lf
theorem Round_any {f : Ieee.Format} (ht : Two f) (neg : Bool) (W : Nat) (m : Bool) (e : Int) (hW : W < 340282366920938463463374607431768211456) (e0 : -3900 ≤ e) (e1 : e ≤ 3900) (w : World) :
    Calls Tryd.prog 79 #[fv f, .bool neg, wv W m, .int .i64 e] w fun en w' => en = .returned (.int .u64 (rd f neg W m e : Int)) ∧ Grew w w' := by
  rcases ht with rfl | rfl <;> cases neg
  · exact Round1p W m e hW e0 e1 w
  · exact Round1m W m e hW e0 e1 w
  · exact Round2p W m e hW e0 e1 w
  · exact Round2m W m e hW e0 e1 w
end Go.Proofs.YtjkebimmddlccaaDoor
