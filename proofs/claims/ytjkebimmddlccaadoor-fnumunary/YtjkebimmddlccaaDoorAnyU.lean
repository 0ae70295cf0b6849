/-
  What the document's whole, root and Unary answer for every word; no statement is proved here.
-/
import Derived.Test.YtjkebimmddlccaaDoorBinS
import Derived.Test.YtjkebimmddlccaaDoorDbM
import Derived.Test.YtjkebimmddlccaaDoorWhoW
import Derived.Test.YtjkebimmddlccaaDoorRooW
import Derived.Test.YtjkebimmddlccaaDoorUnW
namespace Go.Proofs.YtjkebimmddlccaaDoor
open Go.RowKit
set_option linter.unusedVariables false
set_option linter.unusedSimpArgs false

theorem tdiv2 (y : Int) (h : y % 2 = 0) : y.tdiv 2 = y / 2 := by
  obtain ⟨z, rfl⟩ : ∃ z, y = 2 * z := ⟨y / 2, by omega⟩
  rw [Int.mul_tdiv_cancel_left z (by decide)]
  omega
theorem tmod2_e (y : Int) (h : y % 2 = 0) : (y.tmod 2 == 0) = true := by
  obtain ⟨z, rfl⟩ : ∃ z, y = 2 * z := ⟨y / 2, by omega⟩
  rw [Int.mul_tmod_right]; rfl
theorem tmod2_o (y : Int) (h : y % 2 = 1) : (y.tmod 2 == 0) = false := by
  refine beq_eq_false_iff_ne.2 (fun e => ?_)
  obtain ⟨k, hk⟩ := Int.dvd_of_tmod_eq_zero e
  omega
/- Which way an operator makes whole. -/
def wayOf (k : Nat) : Ieee.Toward := if k = 2 then .up else if k = 3 then .down else if k = 4 then .zero else .even
theorem mod_lt64 {m d : Nat} (hm : m < 9007199254740992) : m / 2 ^ d < 18446744073709551616 := Nat.lt_of_le_of_lt (Nat.div_le_self _ _) (by omega)
theorem wl1 (q : Nat) (h : q ≤ 9007199254740992) : IntKind.u64.wrap ((q : Int) + 1) = (q : Int) + 1 := by rw [IntKind.wrap_u64]; omega
theorem whole_any {f : Ieee.Format} (ht : Two f) (k : Nat) (hk : k = 2 ∨ k = 3 ∨ k = 4 ∨ k = 5) (x : Nat) (hx : x < 2 * f.signWeight) (h6 : x < 18446744073709551616) (h : sz f x < f.infRung) (z : sz f x ≠ 0) (w : World) :
    Calls Tryd.prog 66 #[fv f, .int .i64 (k : Int), .int .u64 (x : Int)] w fun en w' => en = .returned (.int .u64 ((who f (wayOf k) x : Nat) : Int)) ∧ Grew w w' := by
  have PX := fun w : World => parts_any ht x h6 w
  by_cases hp : 0 ≤ pl f x
  · rw [who_up ht (wayOf k) hx h hp]
    exact whole_0 (f := f) k x _ _ w (decide_eq_true hp) PX
  · rw [who_down (wayOf k) (by omega), cut_way]
    obtain ⟨e0, e1⟩ := pl_rng ht h
    have hm := mg_54 ht x
    have Za := fun w : World => size_any ht x h6 w
    have NX := fun w : World => below_any ht x h6 w
    have x0 : ((sz f x : Int) == 0) = false := beq_eq_false_iff_ne.2 (by omega)
    have he : (decide (0 ≤ pl f x)) = false := decide_eq_false hp
    have hm128 : mg f x < 340282366920938463463374607431768211456 := Nat.lt_trans hm (by decide)
    have RD := fun (N : Nat) (hN : N < 18446744073709551616) (p : Bool) (hpp : ng f x = p) => (show CG 79 #[.agg #[.int .i64 (f.fractionBits : Int), .int .i64 (f.exponentBits : Int)], .bool p, .agg #[.int .u64 0, .int .u64 (N : Int), .bool false], .int .i64 0] (.int .u64 ((rd f (ng f x) N false 0 : Nat) : Int)) from fun w => by
      have hh := Round_any ht (ng f x) N false 0 (Nat.lt_trans hN (by decide)) (by omega) (by omega) w
      rw [wv_small N hN, hpp] at hh
      rw [hpp]
      exact hh)
    have R1 := fun (mo : Bool) (hmo : decide (mg f x % 2 ^ (-(pl f x)).toNat ≠ 0) = mo) => (show CG 93 #[.agg #[.int .u64 0, .int .u64 ((mg f x : Nat) : Int), .bool false], .int .i64 (-(pl f x))] (.agg #[.int .u64 0, .int .u64 ((mg f x / 2 ^ (-(pl f x)).toNat : Nat) : Int), .bool mo]) from fun w => by
      have hh := right_any (mg f x) (-(pl f x)) false hm128 (by omega) (by omega) w
      rw [wv_small (mg f x) (by omega), wv_small _ (mod_lt64 hm), Bool.false_or, hmo] at hh
      exact hh)
    have R2 := fun (mo : Bool) (hmo : decide (mg f x % 2 ^ (-(pl f x) - 1).toNat ≠ 0) = mo) => (show CG 93 #[.agg #[.int .u64 0, .int .u64 ((mg f x : Nat) : Int), .bool false], .int .i64 (-(pl f x) - 1)] (.agg #[.int .u64 0, .int .u64 ((mg f x / 2 ^ (-(pl f x) - 1).toNat : Nat) : Int), .bool mo]) from fun w => by
      have hh := right_any (mg f x) (-(pl f x) - 1) false hm128 (by omega) (by omega) w
      rw [wv_small (mg f x) (by omega), wv_small _ (mod_lt64 hm), Bool.false_or, hmo] at hh
      exact hh)
    have hL : mg f x / 2 ^ (-(pl f x)).toNat ≤ mg f x := Nat.div_le_self _ _
    have wl : IntKind.u64.wrap (((mg f x / 2 ^ (-(pl f x)).toNat : Nat) : Int) + 1) = ((mg f x / 2 ^ (-(pl f x)).toNat : Nat) : Int) + 1 := wl1 _ (by omega)
    have up1 : (((mg f x / 2 ^ (-(pl f x)).toNat + 1 : Nat)) : Int) = ((mg f x / 2 ^ (-(pl f x)).toNat : Nat) : Int) + 1 := by push_cast; rfl
    have RDu := fun (p : Bool) (hpp : ng f x = p) => RD (mg f x / 2 ^ (-(pl f x)).toNat + 1) (by omega) p hpp
    have RDn := fun (p : Bool) (hpp : ng f x = p) => RD (mg f x / 2 ^ (-(pl f x)).toNat) (by omega) p hpp
    simp only [up1] at RDu
    have pe0 : -2000 ≤ pl f x := by omega
    have pe1 : pl f x ≤ -1 := by omega
    have d1 : (-(pl f x) - 1).toNat = (-(pl f x)).toNat - 1 := by omega
    have dpos : (-(pl f x)).toNat ≠ 0 := by omega
    clear RD
    rcases hk with rfl | rfl | rfl | rfl
    · show Calls _ _ _ _ fun en w' => en = .returned (.int .u64 ((rd f (ng f x) (mg f x / 2 ^ (-(pl f x)).toNat + (if ng f x = false ∧ mg f x % 2 ^ (-(pl f x)).toNat ≠ 0 then 1 else 0)) false 0 : Nat) : Int)) ∧ _
      by_cases mz : mg f x % 2 ^ (-(pl f x)).toNat = 0
      · rw [if_neg (by simp [mz]), Nat.add_zero]
        exact whole_2a (f := f) x _ _ _ _ 0 _ w (ng f x) he pe0 pe1 x0 PX Za (R1 false (by simp [mz])) NX (RDn _ rfl)
      · cases hg : ng f x
        · rw [if_pos ⟨rfl, mz⟩]
          rw [hg] at NX
          have q := RDu false hg
          rw [hg] at q
          exact whole_2b (f := f) x _ _ _ _ 0 _ w he pe0 pe1 x0 wl PX Za (R1 true (by simp [mz])) NX q
        · rw [if_neg (by simp), Nat.add_zero]
          rw [hg] at NX
          have q := RDn true hg
          rw [hg] at q
          exact whole_2c (f := f) x _ _ _ _ 0 _ w he pe0 pe1 x0 PX Za (R1 true (by simp [mz])) NX q
    · show Calls _ _ _ _ fun en w' => en = .returned (.int .u64 ((rd f (ng f x) (mg f x / 2 ^ (-(pl f x)).toNat + (if ng f x = true ∧ mg f x % 2 ^ (-(pl f x)).toNat ≠ 0 then 1 else 0)) false 0 : Nat) : Int)) ∧ _
      by_cases mz : mg f x % 2 ^ (-(pl f x)).toNat = 0
      · rw [if_neg (by simp [mz]), Nat.add_zero]
        exact whole_3a (f := f) x _ _ _ _ 0 _ w (ng f x) he pe0 pe1 x0 PX Za (R1 false (by simp [mz])) NX (RDn _ rfl)
      · cases hg : ng f x
        · rw [if_neg (by simp), Nat.add_zero]
          rw [hg] at NX
          have q := RDn false hg
          rw [hg] at q
          exact whole_3c (f := f) x _ _ _ _ 0 _ w he pe0 pe1 x0 PX Za (R1 true (by simp [mz])) NX q
        · rw [if_pos ⟨rfl, mz⟩]
          rw [hg] at NX
          have q := RDu true hg
          rw [hg] at q
          exact whole_3b (f := f) x _ _ _ _ 0 _ w he pe0 pe1 x0 wl PX Za (R1 true (by simp [mz])) NX q
    · show Calls _ _ _ _ fun en w' => en = .returned (.int .u64 ((rd f (ng f x) (mg f x / 2 ^ (-(pl f x)).toNat + 0) false 0 : Nat) : Int)) ∧ _
      rw [Nat.add_zero]
      exact whole_t (f := f) x _ _ _ _ 0 _ w (ng f x) _ he pe0 pe1 x0 PX Za (R1 _ rfl) NX (RDn _ rfl)
    · show Calls _ _ _ _ fun en w' => en = .returned (.int .u64 ((rd f (ng f x) (mg f x / 2 ^ (-(pl f x)).toNat + upR (mg f x) (-(pl f x)).toNat false) false 0 : Nat) : Int)) ∧ _
      unfold upR
      rw [if_neg dpos]
      rw [d1] at R2
      have hbh := bit_b (mg f x / 2 ^ ((-(pl f x)).toNat - 1)) (mod_lt64 hm)
      have hbl := bit_b (mg f x / 2 ^ (-(pl f x)).toNat) (mod_lt64 hm)
      by_cases b1 : mg f x / 2 ^ ((-(pl f x)).toNat - 1) % 2 = 1
      · rw [decide_eq_true b1] at hbh
        by_cases b2 : mg f x % 2 ^ ((-(pl f x)).toNat - 1) = 0
        · by_cases b3 : mg f x / 2 ^ (-(pl f x)).toNat % 2 = 1
          · rw [decide_eq_true b3] at hbl
            rw [if_pos ⟨b1, Or.inr (Or.inr b3)⟩]
            exact whole_5v (f := f) x _ _ _ _ _ _ w (ng f x) _ he pe0 pe1 x0 wl hbh hbl PX Za (R1 _ rfl) (R2 false (by simp [b2])) NX (RDu _ rfl)
          · rw [decide_eq_false b3] at hbl
            rw [if_neg (by simp [b2, b3]), Nat.add_zero]
            exact whole_5m (f := f) x _ _ _ _ _ _ w (ng f x) _ he pe0 pe1 x0 hbh hbl PX Za (R1 _ rfl) (R2 false (by simp [b2])) NX (RDn _ rfl)
        · rw [if_pos ⟨b1, Or.inr (Or.inl b2)⟩]
          exact whole_5u (f := f) x _ _ _ _ _ _ w (ng f x) _ he pe0 pe1 x0 wl hbh PX Za (R1 _ rfl) (R2 true (by simp [b2])) NX (RDu _ rfl)
      · rw [decide_eq_false b1] at hbh
        rw [if_neg (by simp [b1]), Nat.add_zero]
        exact whole_5n (f := f) x _ _ _ _ _ _ w _ (ng f x) _ he pe0 pe1 x0 hbh PX Za (R1 _ rfl) (R2 _ rfl) NX (RDn _ rfl)
/- The root by the document's digits. -/
def rtc (f : Ieee.Format) (x : Nat) : Nat := if (pl f x - ((123 - (mg f x).log2 : Nat) : Int)) % 2 = 0 then 123 - (mg f x).log2 else 123 - (mg f x).log2 + 1
def isq (V : Nat) : Nat := Ieee.Datum.rootFrom V (V.log2 / 2 + 1) 0
theorem isq_is (V : Nat) : IsR (isq V) V := rootFrom_is V _ 0 (by omega) (root_log V)
def rt (f : Ieee.Format) (x : Nat) : Nat := rd f false (isq (mg f x * 2 ^ rtc f x)) (decide (mg f x * 2 ^ rtc f x ≠ isq (mg f x * 2 ^ rtc f x) * isq (mg f x * 2 ^ rtc f x))) ((pl f x - rtc f x) / 2)
theorem rtc_even (f : Ieee.Format) (x : Nat) : (pl f x - rtc f x) % 2 = 0 := by
  unfold rtc; split <;> (try push_cast) <;> omega
theorem V_lt {m c : Nat} (hm : m ≠ 0) (hl : m.log2 ≤ 52) (hc : c ≤ 124 - m.log2) : m * 2 ^ c < 42535295865117307932921825928971026432 := by
  have h := lt_log2 m
  calc m * 2 ^ c < 2 ^ (m.log2 + 1) * 2 ^ c := Nat.mul_lt_mul_of_pos_right h (Nat.two_pow_pos _)
    _ = 2 ^ (m.log2 + 1 + c) := (Nat.pow_add ..).symm
    _ ≤ 2 ^ 125 := Nat.pow_le_pow_right (by decide) (by omega)
    _ = _ := by decide
theorem r_64 {r V : Nat} (h : r * r ≤ V) (hV : V < 42535295865117307932921825928971026432) : r < 18446744073709551616 := by
  rcases Nat.lt_or_ge r 18446744073709551616 with c | c
  · exact c
  · exfalso
    have : 18446744073709551616 * 18446744073709551616 ≤ r * r := Nat.mul_le_mul c c
    omega
theorem root_any {f : Ieee.Format} (ht : Two f) (x : Nat) (h6 : x < 18446744073709551616) (h : sz f x < f.infRung) (z : sz f x ≠ 0) (w : World) :
    Calls Tryd.prog 65 #[fv f, .int .u64 (x : Int)] w fun en w' => en = .returned (.int .u64 ((rt f x : Nat) : Int)) ∧ Grew w w' := by
  have PX := fun w : World => parts_any ht x h6 w
  obtain ⟨e0, e1⟩ := pl_rng ht h
  have hm := mg_54 ht x
  have hm0 : mg f x ≠ 0 := fun hh => z (mg_zero.1 hh)
  have hl : (mg f x).log2 ≤ 52 := by have := (Nat.log2_lt hm0).2 (show mg f x < 2 ^ 53 from hm); omega
  have hev := rtc_even f x
  have Bt := fun w : World => bits_any (mg f x) (by omega) w
  have hbl : (bl (mg f x) : Int) = 124 - ((123 - (mg f x).log2 : Nat) : Int) := by unfold bl; rw [if_neg hm0]; omega
  rw [hbl] at Bt
  have V1 := V_lt (c := 123 - (mg f x).log2) hm0 hl (by omega)
  have L1 := fun w : World => left_any (mg f x) (123 - (mg f x).log2) false (Nat.lt_trans V1 (by decide)) (by omega) w
  rw [wv_small (mg f x) (by omega)] at L1
  have c0 : 1 ≤ 123 - (mg f x).log2 := by omega
  have c1 : 123 - (mg f x).log2 ≤ 124 := by omega
  have hrt : ∀ r, IsR r (mg f x * 2 ^ rtc f x) → rt f x = rd f false r (decide (mg f x * 2 ^ rtc f x ≠ r * r)) ((pl f x - rtc f x) / 2) := fun r hr => by
    unfold rt; rw [(isq_is (mg f x * 2 ^ rtc f x)).uniq hr]
  generalize rt f x = Z at hrt ⊢
  by_cases hpar : (pl f x - ((123 - (mg f x).log2 : Nat) : Int)) % 2 = 0
  · have hc : rtc f x = 123 - (mg f x).log2 := by unfold rtc; rw [if_pos hpar]
    rw [hc] at hrt
    generalize 123 - (mg f x).log2 = c at *
    obtain ⟨Hv, Lv, hv, _⟩ := wv_ex (mg f x * 2 ^ c)
    rw [hv] at L1
    have RD : Hid (∀ r : Nat, r * r ≤ mg f x * 2 ^ c → mg f x * 2 ^ c < (r + 1) * (r + 1) → CG 79 #[.agg #[.int .i64 (f.fractionBits : Int), .int .i64 (f.exponentBits : Int)], .bool false, .agg #[.int .u64 0, .int .u64 (r : Int), .bool (decide (mg f x * 2 ^ c ≠ r * r))], .int .i64 ((pl f x - (c : Int)) / 2)] (.int .u64 ((Z : Nat) : Int))) := fun r q0 q1 w => by
      have hh := Round_any ht false r (decide (mg f x * 2 ^ c ≠ r * r)) ((pl f x - (c : Int)) / 2) (Nat.lt_trans (r_64 q0 V1) (by decide)) (by omega) (by omega) w
      rw [wv_small r (r_64 q0 V1), ← hrt r ⟨q0, q1⟩] at hh
      exact hh
    exact root_e (f := f) x _ _ _ Hv Lv _ _ c w (by omega) (by omega) c0 c1 (tmod2_e _ hpar) (tdiv2 _ hpar) (by omega) (by omega) hv (Nat.lt_trans V1 (by decide)) PX Bt L1 RD
  · have hc : rtc f x = 123 - (mg f x).log2 + 1 := by unfold rtc; rw [if_neg hpar]
    have V2 := V_lt (c := 123 - (mg f x).log2 + 1) hm0 hl (by omega)
    rw [hc] at hrt
    generalize 123 - (mg f x).log2 = c at *
    obtain ⟨H, L, hv1, _⟩ := wv_ex (mg f x * 2 ^ c)
    rw [hv1] at L1
    have e2 : mg f x * 2 ^ c * 2 ^ 1 = mg f x * 2 ^ (c + 1) := by rw [Nat.mul_assoc, ← Nat.pow_add]
    have L2 := fun w : World => left_any (mg f x * 2 ^ c) 1 false (by rw [e2]; exact Nat.lt_trans V2 (by decide)) (by decide) w
    rw [e2] at L2
    obtain ⟨Hv, Lv, hv, _⟩ := wv_ex (mg f x * 2 ^ (c + 1))
    rw [hv, hv1] at L2
    have ec : ((c + 1 : Nat) : Int) = (c : Int) + 1 := by push_cast; rfl
    have ep : pl f x - ((c : Int) + 1) = pl f x - (c : Int) - 1 := by omega
    rw [ec, ep] at hrt
    have hpar2 : (pl f x - (c : Int) - 1) % 2 = 0 := by omega
    have RD : Hid (∀ r : Nat, r * r ≤ mg f x * 2 ^ (c + 1) → mg f x * 2 ^ (c + 1) < (r + 1) * (r + 1) → CG 79 #[.agg #[.int .i64 (f.fractionBits : Int), .int .i64 (f.exponentBits : Int)], .bool false, .agg #[.int .u64 0, .int .u64 (r : Int), .bool (decide (mg f x * 2 ^ (c + 1) ≠ r * r))], .int .i64 ((pl f x - (c : Int) - 1) / 2)] (.int .u64 ((Z : Nat) : Int))) := fun r q0 q1 w => by
      have hh := Round_any ht false r (decide (mg f x * 2 ^ (c + 1) ≠ r * r)) ((pl f x - (c : Int) - 1) / 2) (Nat.lt_trans (r_64 q0 V2) (by decide)) (by omega) (by omega) w
      rw [wv_small r (r_64 q0 V2), ← hrt r ⟨q0, q1⟩] at hh
      exact hh
    exact root_o (f := f) x _ _ _ H L Hv Lv _ _ c w (by omega) (by omega) c0 c1 (tmod2_o _ (by omega)) (tdiv2 _ hpar2) (by omega) (by omega) hv (Nat.lt_trans V2 (by decide)) PX Bt L1 L2 RD
end Go.Proofs.YtjkebimmddlccaaDoor
