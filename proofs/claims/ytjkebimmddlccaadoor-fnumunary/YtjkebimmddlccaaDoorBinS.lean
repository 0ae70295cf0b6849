/-
  The document's sum, product, quotient and least of two floats: what they answer; no statement is proved here.
-/
import Derived.Test.YtjkebimmddlccaaDoorBinM
import Derived.Test.YtjkebimmddlccaaDoorRoundA
import Derived.Test.YtjkebimmddlccaaDoorSum
import Derived.Test.YtjkebimmddlccaaDoorProd
import Derived.Test.YtjkebimmddlccaaDoorQuo
namespace Go.Proofs.YtjkebimmddlccaaDoor
open Go.RowKit
set_option linter.unusedVariables false
set_option linter.unusedSimpArgs false

theorem wv_ex (W : Nat) : ∃ H L : Int, (∀ m, wv W m = .agg #[.int .u64 H, .int .u64 L, .bool m]) ∧ (H = 0 ∧ L = 0 ↔ W = 0) :=
  ⟨_, _, fun _ => rfl, by omega⟩
theorem pl_rng {f : Ieee.Format} (ht : Two f) {a : Nat} (fa : sz f a < f.infRung) : -1074 ≤ pl f a ∧ pl f a ≤ 971 := by
  unfold pl ex
  rcases ht with rfl | rfl
  · rw [lp1, bn1]; rw [ir1] at fa; generalize sz Ieee.single a = s at fa ⊢; omega
  · rw [lp2, bn2]; rw [ir2] at fa; generalize sz Ieee.double a = s at fa ⊢; omega
theorem mg_54 {f : Ieee.Format} (ht : Two f) (a : Nat) : mg f a < 9007199254740992 := by
  have h := mg_lt (f := f) a
  rcases ht with rfl | rfl
  · exact Nat.lt_of_lt_of_le h (by decide)
  · exact h
theorem c60 : ((60 : Nat) : Int) = 60 := rfl
theorem left60 (m : Nat) (hm : m < 9007199254740992) (H L : Int) (hw : ∀ b, wv (m * 2 ^ 60) b = .agg #[.int .u64 H, .int .u64 L, .bool b]) :
    CG 89 #[.agg #[.int .u64 0, .int .u64 (m : Int), .bool false], .int .i64 60] (.agg #[.int .u64 H, .int .u64 L, .bool false]) := fun w => by
  have h := left_any m 60 false (by omega) (by decide) w
  rw [wv_agg m false (by omega), hw false, c60] at h
  exact h
theorem right60 (V D : Nat) (e : Int) (he : e = D) (hD : D ≤ 5000) (hV : V < 340282366920938463463374607431768211456) (H L G K : Int) (hw : ∀ b, wv V b = .agg #[.int .u64 H, .int .u64 L, .bool b]) (hu : ∀ b, wv (V / 2 ^ D) b = .agg #[.int .u64 G, .int .u64 K, .bool b]) :
    CG 93 #[.agg #[.int .u64 H, .int .u64 L, .bool false], .int .i64 e] (.agg #[.int .u64 G, .int .u64 K, .bool (decide (V % 2 ^ D ≠ 0))]) := fun w => by
  have h := right_any V e false hV (by omega) (by omega) w
  rw [show e.toNat = D from by omega, hw false, hu, Bool.false_or] at h
  exact h
theorem plusA (W V : Nat) (m : Bool) (hs : W + V < 340282366920938463463374607431768211456) (H L G K A B : Int) (hw : ∀ b, wv W b = .agg #[.int .u64 H, .int .u64 L, .bool b]) (hu : ∀ b, wv V b = .agg #[.int .u64 G, .int .u64 K, .bool b]) (ha : ∀ b, wv (W + V) b = .agg #[.int .u64 A, .int .u64 B, .bool b]) :
    CG 104 #[.agg #[.int .u64 H, .int .u64 L, .bool false], .agg #[.int .u64 G, .int .u64 K, .bool m]] (.agg #[.int .u64 A, .int .u64 B, .bool m]) := fun w => by
  have h := plus_any W V false m hs w
  rw [hw, hu, ha, Bool.false_or] at h
  exact h
theorem minusA (W V : Nat) (m : Bool) (hW : W < 340282366920938463463374607431768211456) (hs : V + m.toNat ≤ W) (H L G K A B : Int) (hw : ∀ b, wv W b = .agg #[.int .u64 H, .int .u64 L, .bool b]) (hu : ∀ b, wv V b = .agg #[.int .u64 G, .int .u64 K, .bool b]) (ha : ∀ b, wv (W - V - m.toNat) b = .agg #[.int .u64 A, .int .u64 B, .bool b]) :
    CG 105 #[.agg #[.int .u64 H, .int .u64 L, .bool false], .agg #[.int .u64 G, .int .u64 K, .bool m]] (.agg #[.int .u64 A, .int .u64 B, .bool m]) := fun w => by
  have h := minus_any W V false m hW hs w
  rw [hw, hu, ha, Bool.false_or] at h
  exact h
theorem roundA {f : Ieee.Format} (ht : Two f) (neg : Bool) (W : Nat) (m : Bool) (e : Int) (hW : W < 340282366920938463463374607431768211456) (e0 : -3900 ≤ e) (e1 : e ≤ 3900) (H L : Int) (hw : ∀ b, wv W b = .agg #[.int .u64 H, .int .u64 L, .bool b]) :
    CG 79 #[.agg #[.int .i64 (f.fractionBits : Int), .int .i64 (f.exponentBits : Int)], .bool neg, .agg #[.int .u64 H, .int .u64 L, .bool m], .int .i64 e] (.int .u64 (rd f neg W m e : Int)) := fun w => by
  have h := Round_any ht neg W m e hW e0 e1 w
  rw [hw] at h
  exact h
theorem shr_le (V D : Nat) : V / 2 ^ D ≤ V := Nat.div_le_self _ _
theorem pl_sub {f : Ieee.Format} {a b : Nat} (h : sz f b ≤ sz f a) : pl f a - pl f b = ((ex f a - ex f b : Nat) : Int) := by
  have := ex_le h; unfold pl; omega
theorem ex_2k {f : Ieee.Format} (ht : Two f) {a : Nat} (fa : sz f a < f.infRung) : ex f a ≤ 2046 := by
  unfold ex
  rcases ht with rfl | rfl
  · rw [bn1]; rw [ir1] at fa; generalize sz Ieee.single a = s at fa ⊢; omega
  · rw [bn2]; rw [ir2] at fa; generalize sz Ieee.double a = s at fa ⊢; omega
theorem sum128 {m n v : Nat} (hm : m < 9007199254740992) (hn : n < 9007199254740992) (hv : v ≤ n * 2 ^ 60) : m * 2 ^ 60 + v < 340282366920938463463374607431768211456 := by omega
theorem sub128 {A X : Nat} (V k : Nat) (h : A < X) : A - V - k < X := by omega
theorem h60 {m : Nat} (hm : m < 9007199254740992) : m * 2 ^ 60 < 340282366920938463463374607431768211456 := by omega
theorem sumS {f : Ieee.Format} (ht : Two f) (a b : Nat) (ha : a < 18446744073709551616) (hb : b < 18446744073709551616) (fa : sz f a < f.infRung) (fb : sz f b < f.infRung) (h : sz f b ≤ sz f a) (h0 : sz f a ≠ 0) (hs : ng f a = ng f b) (w : World) :
    Calls Tryd.prog 94 #[fv f, .int .u64 (a : Int), .int .u64 (b : Int)] w fun en w' => en = .returned (.int .u64 (((f.add a b).getD 0 : Nat) : Int)) ∧ Grew w w' := by
  have A := add_same ht fa fb h h0 hs 60 (by decide)
  rw [c60] at A
  rw [A, Option.getD_some]
  clear A
  have Za := fun w : World => size_any ht a ha w
  have Zb := fun w : World => size_any ht b hb w
  have PX := fun w : World => parts_any ht a ha w
  have PY := fun w : World => parts_any ht b hb w
  have NX := fun w : World => below_any ht a ha w
  have NY := fun w : World => below_any ht b hb w
  rw [← hs] at NY
  have ea := pl_rng ht fa
  have eb := pl_rng ht fb
  have ma := mg_54 ht a
  have mb := mg_54 ht b
  have ed := pl_sub h
  have e2 := ex_2k ht fa
  have eD : ex f a - ex f b ≤ 5000 := by omega
  have sl : ((sz f a : Int) < (sz f b : Int)) = False := eq_false (by omega)
  clear hs h0 h fa fb e2
  generalize sz f a = sa at *
  generalize sz f b = sb at *
  generalize mg f a = m at *
  generalize mg f b = n at *
  generalize pl f a = e at *
  generalize pl f b = d at *
  generalize ex f a - ex f b = D at *
  generalize ng f a = p at *
  have hn60 : n * 2 ^ 60 < 340282366920938463463374607431768211456 := h60 (by assumption)
  have hv := shr_le (n * 2 ^ 60) D
  have hsum : m * 2 ^ 60 + n * 2 ^ 60 / 2 ^ D < 340282366920938463463374607431768211456 := sum128 ma mb hv
  obtain ⟨H1, K1, w1, _⟩ := wv_ex (m * 2 ^ 60)
  obtain ⟨H2, K2, w2, _⟩ := wv_ex (n * 2 ^ 60)
  obtain ⟨H3, K3, w3, _⟩ := wv_ex (n * 2 ^ 60 / 2 ^ D)
  obtain ⟨H4, K4, w4, _⟩ := wv_ex (m * 2 ^ 60 + n * 2 ^ 60 / 2 ^ D)
  exact sum_de (f := f) a b sa sb m n e d H1 K1 H2 K2 H3 K3 H4 K4 _ p p _ _ w sl (by omega) (by omega) (by omega) (by omega) Za Zb PX PY (left60 m ma H1 K1 w1) (left60 n mb H2 K2 w2)
    (right60 _ D (e - d) ed eD hn60 H2 K2 H3 K3 w2 w3) NX NY (plusA _ _ _ hsum H1 K1 H3 K3 H4 K4 w1 w3 w4) (roundA ht p _ _ (e - 60) hsum (by omega) (by omega) H4 K4 w4)
theorem sumD {f : Ieee.Format} (ht : Two f) (a b : Nat) (ha : a < 18446744073709551616) (hb : b < 18446744073709551616) (fa : sz f a < f.infRung) (fb : sz f b < f.infRung) (h : sz f b ≤ sz f a) (hs : ng f a ≠ ng f b) (w : World) :
    Calls Tryd.prog 94 #[fv f, .int .u64 (a : Int), .int .u64 (b : Int)] w fun en w' => en = .returned (.int .u64 (((f.add a b).getD 0 : Nat) : Int)) ∧ Grew w w' := by
  obtain ⟨A0, A1, A⟩ := add_diff ht fa fb h hs 60 (by decide) _ _ rfl rfl
  rw [c60] at A
  rw [A, Option.getD_some]
  clear A
  have Za := fun w : World => size_any ht a ha w
  have Zb := fun w : World => size_any ht b hb w
  have PX := fun w : World => parts_any ht a ha w
  have PY := fun w : World => parts_any ht b hb w
  have NX := fun w : World => below_any ht a ha w
  have NY := fun w : World => below_any ht b hb w
  have ea := pl_rng ht fa
  have eb := pl_rng ht fb
  have ma := mg_54 ht a
  have mb := mg_54 ht b
  have ed := pl_sub h
  have e2 := ex_2k ht fa
  have eD : ex f a - ex f b ≤ 5000 := by omega
  have sl : ((sz f a : Int) < (sz f b : Int)) = False := eq_false (by omega)
  have pq : (ng f a == ng f b) = false := beq_eq_false_iff_ne.2 hs
  clear hs h fa fb e2
  generalize sz f a = sa at *
  generalize sz f b = sb at *
  generalize mg f a = m at *
  generalize mg f b = n at *
  generalize pl f a = e at *
  generalize pl f b = d at *
  generalize ex f a - ex f b = D at *
  generalize ng f a = p at *
  generalize ng f b = q at *
  have hn60 : n * 2 ^ 60 < 340282366920938463463374607431768211456 := h60 (by assumption)
  have hm60 : m * 2 ^ 60 < 340282366920938463463374607431768211456 := h60 (by assumption)
  obtain ⟨H1, K1, w1, _⟩ := wv_ex (m * 2 ^ 60)
  obtain ⟨H2, K2, w2, _⟩ := wv_ex (n * 2 ^ 60)
  obtain ⟨H3, K3, w3, _⟩ := wv_ex (n * 2 ^ 60 / 2 ^ D)
  have R3 := right60 _ D (e - d) ed eD hn60 H2 K2 H3 K3 w2 w3
  generalize decide (n * 2 ^ 60 % 2 ^ D ≠ 0) = more at *
  generalize hV : n * 2 ^ 60 / 2 ^ D = V at *
  obtain ⟨H4, K4, w4, z4⟩ := wv_ex (m * 2 ^ 60 - V - more.toNat)
  have hsub : m * 2 ^ 60 - V - more.toNat < 340282366920938463463374607431768211456 := sub128 _ _ hm60
  have Mi := minusA _ _ _ hm60 A1 H1 K1 H3 K3 H4 K4 w1 w3 w4
  have L1 := left60 m ma H1 K1 w1
  have L2 := left60 n mb H2 K2 w2
  by_cases hz : m * 2 ^ 60 - V - more.toNat = 0
  · rw [if_pos hz]
    exact sum_dz (f := f) a b sa sb m n e d H1 K1 H2 K2 H3 K3 H4 K4 0 p q _ _ w sl pq ⟨(z4.2 hz).1, (z4.2 hz).2, A0 hz⟩ (by omega) (by omega) (by omega) (by omega) Za Zb PX PY L1 L2 R3 NX NY Mi
  · rw [if_neg hz]
    exact sum_dn (f := f) a b sa sb m n e d H1 K1 H2 K2 H3 K3 H4 K4 _ p q _ _ w sl pq (fun hc => hz (z4.1 hc)) (by omega) (by omega) (by omega) (by omega) Za Zb PX PY L1 L2 R3 NX NY Mi
      (roundA ht p _ _ (e - 60) hsub (by omega) (by omega) H4 K4 w4)
theorem sumSs {f : Ieee.Format} (ht : Two f) (a b : Nat) (ha : a < 18446744073709551616) (hb : b < 18446744073709551616) (fa : sz f a < f.infRung) (fb : sz f b < f.infRung) (h : sz f a < sz f b) (hs : ng f a = ng f b) (w : World) :
    Calls Tryd.prog 94 #[fv f, .int .u64 (a : Int), .int .u64 (b : Int)] w fun en w' => en = .returned (.int .u64 (((f.add b a).getD 0 : Nat) : Int)) ∧ Grew w w' := by
  have A := add_same ht fb fa (Nat.le_of_lt h) (by omega) hs.symm 60 (by decide)
  rw [c60] at A
  rw [A, Option.getD_some]
  clear A
  have Za := fun w : World => size_any ht a ha w
  have Zb := fun w : World => size_any ht b hb w
  have PX := fun w : World => parts_any ht b hb w
  have PY := fun w : World => parts_any ht a ha w
  have NX := fun w : World => below_any ht b hb w
  have NY := fun w : World => below_any ht a ha w
  rw [hs] at NY
  have ea := pl_rng ht fa
  have eb := pl_rng ht fb
  have ma := mg_54 ht a
  have mb := mg_54 ht b
  have ed := pl_sub (Nat.le_of_lt h)
  have e2 := ex_2k ht fb
  have eD : ex f b - ex f a ≤ 5000 := by omega
  have sl : ((sz f a : Int) < (sz f b : Int)) = True := eq_true (by omega)
  clear hs h fa fb e2
  generalize sz f a = sa at *
  generalize sz f b = sb at *
  generalize mg f a = n at *
  generalize mg f b = m at *
  generalize pl f a = d at *
  generalize pl f b = e at *
  generalize ex f b - ex f a = D at *
  generalize ng f b = p at *
  have hn60 : n * 2 ^ 60 < 340282366920938463463374607431768211456 := h60 (by assumption)
  have hv := shr_le (n * 2 ^ 60) D
  have hsum : m * 2 ^ 60 + n * 2 ^ 60 / 2 ^ D < 340282366920938463463374607431768211456 := sum128 mb ma hv
  obtain ⟨H1, K1, w1, _⟩ := wv_ex (m * 2 ^ 60)
  obtain ⟨H2, K2, w2, _⟩ := wv_ex (n * 2 ^ 60)
  obtain ⟨H3, K3, w3, _⟩ := wv_ex (n * 2 ^ 60 / 2 ^ D)
  obtain ⟨H4, K4, w4, _⟩ := wv_ex (m * 2 ^ 60 + n * 2 ^ 60 / 2 ^ D)
  exact sum_se (f := f) a b sa sb m n e d H1 K1 H2 K2 H3 K3 H4 K4 _ p p _ _ w sl (by omega) (by omega) (by omega) (by omega) Za Zb PX PY (left60 m mb H1 K1 w1) (left60 n ma H2 K2 w2)
    (right60 _ D (e - d) ed eD hn60 H2 K2 H3 K3 w2 w3) NX NY (plusA _ _ _ hsum H1 K1 H3 K3 H4 K4 w1 w3 w4) (roundA ht p _ _ (e - 60) hsum (by omega) (by omega) H4 K4 w4)
theorem sumDs {f : Ieee.Format} (ht : Two f) (a b : Nat) (ha : a < 18446744073709551616) (hb : b < 18446744073709551616) (fa : sz f a < f.infRung) (fb : sz f b < f.infRung) (h : sz f a < sz f b) (hs : ng f b ≠ ng f a) (w : World) :
    Calls Tryd.prog 94 #[fv f, .int .u64 (a : Int), .int .u64 (b : Int)] w fun en w' => en = .returned (.int .u64 (((f.add b a).getD 0 : Nat) : Int)) ∧ Grew w w' := by
  obtain ⟨A0, A1, A⟩ := add_diff ht fb fa (Nat.le_of_lt h) hs 60 (by decide) _ _ rfl rfl
  rw [c60] at A
  rw [A, Option.getD_some]
  clear A
  have Za := fun w : World => size_any ht a ha w
  have Zb := fun w : World => size_any ht b hb w
  have PX := fun w : World => parts_any ht b hb w
  have PY := fun w : World => parts_any ht a ha w
  have NX := fun w : World => below_any ht b hb w
  have NY := fun w : World => below_any ht a ha w
  have ea := pl_rng ht fa
  have eb := pl_rng ht fb
  have ma := mg_54 ht a
  have mb := mg_54 ht b
  have ed := pl_sub (Nat.le_of_lt h)
  have e2 := ex_2k ht fb
  have eD : ex f b - ex f a ≤ 5000 := by omega
  have sl : ((sz f a : Int) < (sz f b : Int)) = True := eq_true (by omega)
  have pq : (ng f b == ng f a) = false := beq_eq_false_iff_ne.2 hs
  clear hs h fa fb e2
  generalize sz f a = sa at *
  generalize sz f b = sb at *
  generalize mg f a = n at *
  generalize mg f b = m at *
  generalize pl f a = d at *
  generalize pl f b = e at *
  generalize ex f b - ex f a = D at *
  generalize ng f b = p at *
  generalize ng f a = q at *
  have hn60 : n * 2 ^ 60 < 340282366920938463463374607431768211456 := h60 (by assumption)
  have hm60 : m * 2 ^ 60 < 340282366920938463463374607431768211456 := h60 (by assumption)
  obtain ⟨H1, K1, w1, _⟩ := wv_ex (m * 2 ^ 60)
  obtain ⟨H2, K2, w2, _⟩ := wv_ex (n * 2 ^ 60)
  obtain ⟨H3, K3, w3, _⟩ := wv_ex (n * 2 ^ 60 / 2 ^ D)
  have R3 := right60 _ D (e - d) ed eD hn60 H2 K2 H3 K3 w2 w3
  generalize decide (n * 2 ^ 60 % 2 ^ D ≠ 0) = more at *
  generalize hV : n * 2 ^ 60 / 2 ^ D = V at *
  obtain ⟨H4, K4, w4, z4⟩ := wv_ex (m * 2 ^ 60 - V - more.toNat)
  have hsub : m * 2 ^ 60 - V - more.toNat < 340282366920938463463374607431768211456 := sub128 _ _ hm60
  have Mi := minusA _ _ _ hm60 A1 H1 K1 H3 K3 H4 K4 w1 w3 w4
  have L1 := left60 m mb H1 K1 w1
  have L2 := left60 n ma H2 K2 w2
  by_cases hz : m * 2 ^ 60 - V - more.toNat = 0
  · rw [if_pos hz]
    exact sum_sz (f := f) a b sa sb m n e d H1 K1 H2 K2 H3 K3 H4 K4 0 p q _ _ w sl pq ⟨(z4.2 hz).1, (z4.2 hz).2, A0 hz⟩ (by omega) (by omega) (by omega) (by omega) Za Zb PX PY L1 L2 R3 NX NY Mi
  · rw [if_neg hz]
    exact sum_sn (f := f) a b sa sb m n e d H1 K1 H2 K2 H3 K3 H4 K4 _ p q _ _ w sl pq (fun hc => hz (z4.1 hc)) (by omega) (by omega) (by omega) (by omega) Za Zb PX PY L1 L2 R3 NX NY Mi
      (roundA ht p _ _ (e - 60) hsub (by omega) (by omega) H4 K4 w4)
theorem sum_any {f : Ieee.Format} (ht : Two f) (a b : Nat) (ha : a < 18446744073709551616) (hb : b < 18446744073709551616) (fa : sz f a < f.infRung) (fb : sz f b < f.infRung) (h0 : sz f a ≠ 0 ∨ sz f b ≠ 0) (w : World) :
    Calls Tryd.prog 94 #[fv f, .int .u64 (a : Int), .int .u64 (b : Int)] w fun en w' => en = .returned (.int .u64 (((f.add a b).getD 0 : Nat) : Int)) ∧ Grew w w' := by
  by_cases h : sz f b ≤ sz f a
  · by_cases hs : ng f a = ng f b
    · exact sumS ht a b ha hb fa fb h (by omega) hs w
    · exact sumD ht a b ha hb fa fb h hs w
  · rw [add_comm0]
    by_cases hs : ng f a = ng f b
    · exact sumSs ht a b ha hb fa fb (by omega) hs w
    · exact sumDs ht a b ha hb fa fb (by omega) (fun hc => hs hc.symm) w
theorem product_any {f : Ieee.Format} (ht : Two f) (a b : Nat) (ha : a < 18446744073709551616) (hb : b < 18446744073709551616) (fa : sz f a < f.infRung) (fb : sz f b < f.infRung) (w : World) :
    Calls Tryd.prog 95 #[fv f, .int .u64 (a : Int), .int .u64 (b : Int)] w fun en w' => en = .returned (.int .u64 (((f.mul a b).getD 0 : Nat) : Int)) ∧ Grew w w' := by
  rw [mul_fin ht fa fb, Option.getD_some, show (ng f a ^^ ng f b) = (ng f a != ng f b) from by cases ng f a <;> cases ng f b <;> rfl]
  have PX := fun w : World => parts_any ht a ha w
  have PY := fun w : World => parts_any ht b hb w
  have NX := fun w : World => below_any ht a ha w
  have NY := fun w : World => below_any ht b hb w
  have ea := pl_rng ht fa
  have eb := pl_rng ht fb
  have ma := mg_54 ht a
  have mb := mg_54 ht b
  clear fa fb
  generalize mg f a = m at *
  generalize mg f b = n at *
  generalize pl f a = e at *
  generalize pl f b = d at *
  generalize ng f a = p at *
  generalize ng f b = q at *
  have hmn : m * n < 340282366920938463463374607431768211456 := Nat.lt_of_lt_of_le (Nat.mul_lt_mul'' ma mb) (by decide)
  have Ti := fun w : World => times_any m n (by omega) (by omega) w
  obtain ⟨H1, K1, w1, _⟩ := wv_ex (m * n)
  rw [w1] at Ti
  exact product_w (f := f) a b m n e d H1 K1 _ p q w (by omega) (by omega) (by omega) (by omega) PX PY NX NY Ti (roundA ht (p != q) _ _ (e + d) hmn (by omega) (by omega) H1 K1 w1)
theorem shl_64 {m : Nat} (hm : m ≠ 0) (h1 : m.log2 ≤ 62) : m * 2 ^ (63 - m.log2) < 18446744073709551616 := by
  have h := lt_log2 m
  have : m * 2 ^ (63 - m.log2) < 2 ^ (m.log2 + 1) * 2 ^ (63 - m.log2) := Nat.mul_lt_mul_of_pos_right h (Nat.two_pow_pos _)
  rw [← Nat.pow_add, show m.log2 + 1 + (63 - m.log2) = 64 from by omega] at this
  exact this
theorem quotient_any {f : Ieee.Format} (ht : Two f) (a b : Nat) (ha : a < 18446744073709551616) (hb : b < 18446744073709551616) (fa : sz f a < f.infRung) (fb : sz f b < f.infRung) (za : sz f a ≠ 0) (zb : sz f b ≠ 0) (w : World) :
    Calls Tryd.prog 96 #[fv f, .int .u64 (a : Int), .int .u64 (b : Int)] w fun en w' => en = .returned (.int .u64 (((f.div a b).getD 0 : Nat) : Int)) ∧ Grew w w' := by
  rw [div_fin ht fa fb za zb, Option.getD_some, show (ng f a ^^ ng f b) = (ng f a != ng f b) from by cases ng f a <;> cases ng f b <;> rfl]
  have PX := fun w : World => parts_any ht a ha w
  have PY := fun w : World => parts_any ht b hb w
  have NX := fun w : World => below_any ht a ha w
  have NY := fun w : World => below_any ht b hb w
  have ea := pl_rng ht fa
  have eb := pl_rng ht fb
  have ma := mg_54 ht a
  have mb := mg_54 ht b
  have ma0 : mg f a ≠ 0 := fun z => za (mg_zero.1 z)
  have mb0 : mg f b ≠ 0 := fun z => zb (mg_zero.1 z)
  clear fa fb za zb
  generalize mg f a = m at *
  generalize mg f b = n at *
  generalize pl f a = e at *
  generalize pl f b = d at *
  generalize ng f a = p at *
  generalize ng f b = q at *
  have lg : m.log2 ≤ 52 := by have := (Nat.log2_lt ma0).2 (show m < 2 ^ 53 from ma); omega
  have hs := shl_64 ma0 (by omega)
  have Bt := fun w : World => bits_any m (by omega) w
  have hbl : (bl m : Int) = 64 - ((63 - m.log2 : Nat) : Int) := by unfold bl; rw [if_neg ma0]; omega
  rw [hbl] at Bt
  have he : e - d - ((123 - m.log2 : Nat) : Int) = e - ((63 - m.log2 : Nat) : Int) - d - 60 := by omega
  have hp : m * 2 ^ (123 - m.log2) = m * 2 ^ (63 - m.log2) * 2 ^ 60 := by
    rw [Nat.mul_assoc, ← Nat.pow_add, show 63 - m.log2 + 60 = 123 - m.log2 from by omega]
  rw [he, hp]
  have c0 : 1 ≤ 63 - m.log2 := by omega
  have c1 : 63 - m.log2 ≤ 63 := by omega
  generalize 63 - m.log2 = c at *
  clear hp he hbl
  have hq : m * 2 ^ c * 2 ^ 60 / n < 340282366920938463463374607431768211456 := Nat.lt_of_le_of_lt (Nat.div_le_self _ _) (by generalize m * 2 ^ c = A at hs ⊢; omega)
  exact quotient_w (f := f) a b e d _ m n c p q w (by omega) (by omega) (by omega) (by omega) c0 c1 hs (by omega) (by omega) PX PY Bt NX NY
    (fun w H1 K1 hd => by
      have h := Round_any ht (p != q) (m * 2 ^ c * 2 ^ 60 / n) (decide (m * 2 ^ c * 2 ^ 60 % n ≠ 0)) (e - c - d - 60) hq (by omega) (by omega) w
      rw [hd.wv] at h
      exact h)
theorem least_any {f : Ieee.Format} (ht : Two f) (m : Bool) (a b : Nat) (ha : a < 2 * f.signWeight) (hb : b < 2 * f.signWeight) (a6 : a < 18446744073709551616) (b6 : b < 18446744073709551616) (fa : sz f a ≤ f.infRung) (fb : sz f b ≤ f.infRung) (w : World) :
    Calls Tryd.prog 70 #[fv f, .int .u64 (a : Int), .int .u64 (b : Int), .bool m] w fun en w' => en = .returned (.int .u64 (((mm f m a b).getD 0 : Nat) : Int)) ∧ Grew w w' := by
  have KA := fun w : World => key_any ht a a6 w
  have KB := fun w : World => key_any ht b b6 w
  rcases Int.lt_trichotomy (key f a) (key f b) with h | h | h
  · rw [mm_lt m ht fa fb h, Option.getD_some]
    have h1 : (key f a == key f b) = false := beq_eq_false_iff_ne.2 (by omega)
    cases m
    · exact least_fl (f := f) a b _ _ w h1 (decide_eq_true h) h KA KB
    · exact least_tl (f := f) a b _ _ w h1 (decide_eq_true h) h KA KB
  · rw [mm_eq m ht ha hb fa fb h, Option.getD_some]
    have h1 : (key f a == key f b) = true := beq_iff_eq.2 h
    cases m
    · have e := least_fe (f := f) a b _ _ w h1 KA KB
      rw [bits_or_u64_nat a b a6 b6] at e
      exact e
    · have e := least_te (f := f) a b _ _ w h1 KA KB
      rw [bits_and_u64_nat a b a6 b6] at e
      exact e
  · rw [mm_gt m ht fa fb h, Option.getD_some]
    have h1 : (key f a == key f b) = false := beq_eq_false_iff_ne.2 (by omega)
    have h2 : ¬ key f a < key f b := by omega
    cases m
    · exact least_fg (f := f) a b _ _ w h1 (decide_eq_false h2) h2 KA KB
    · exact least_tg (f := f) a b _ _ w h1 (decide_eq_false h2) h2 KA KB
end Go.Proofs.YtjkebimmddlccaaDoor
