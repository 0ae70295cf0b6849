/-
  What the document's and fnum's operators of one float answer; no statement is proved here.
-/
import Derived.Test.YtjkebimmddlccaaDoorAnyU
import Derived.Test.YtjkebimmddlccaaDoorBinM
import Derived.Test.YtjkebimmddlccaaDoorAns
namespace Go.Proofs.YtjkebimmddlccaaDoor
open Go.RowKit
set_option linter.unusedVariables false
set_option linter.unusedSimpArgs false

/- The operators from the third on: none: no number comes of it. -/
def oUn (f : Ieee.Format) (K x : Nat) : Option Nat :=
  if f.infRung < sz f x then none else if sz f x = 0 then some x else if K = 6 ∧ ng f x = true then none else if sz f x = f.infRung then some x else if K = 6 then some (rt f x) else some (who f (wayOf K) x)
theorem oUn_nan {f : Ieee.Format} {K x : Nat} (h : f.infRung < sz f x) : oUn f K x = none := by unfold oUn; rw [if_pos h]
theorem oUn_zero {f : Ieee.Format} (ht : Two f) {K x : Nat} (h : sz f x = 0) : oUn f K x = some x := by
  unfold oUn; rw [if_neg (by have := two_bin ht; have := binade_pos f; omega), if_pos h]
theorem oUn_neg {f : Ieee.Format} {x : Nat} (h : ¬ f.infRung < sz f x) (z : sz f x ≠ 0) (hn : ng f x = true) : oUn f 6 x = none := by
  unfold oUn; rw [if_neg h, if_neg z, if_pos ⟨rfl, hn⟩]
theorem oUn_inf {f : Ieee.Format} {K x : Nat} (z : sz f x ≠ 0) (hi : sz f x = f.infRung) (hn : ¬ (K = 6 ∧ ng f x = true)) : oUn f K x = some x := by
  unfold oUn; rw [if_neg (by omega), if_neg z, if_neg hn, if_pos hi]
theorem oUn_root {f : Ieee.Format} {x : Nat} (h : sz f x < f.infRung) (z : sz f x ≠ 0) (hn : ng f x = false) : oUn f 6 x = some (rt f x) := by
  unfold oUn; rw [if_neg (by omega), if_neg z, if_neg (by simp [hn]), if_neg (by omega), if_pos rfl]
theorem oUn_who {f : Ieee.Format} {K x : Nat} (h : sz f x < f.infRung) (z : sz f x ≠ 0) (hK : K ≠ 6) : oUn f K x = some (who f (wayOf K) x) := by
  unfold oUn; rw [if_neg (by omega), if_neg z, if_neg (fun hh => hK hh.1), if_neg (by omega), if_neg hK]
theorem FUn_any {f : Ieee.Format} (ht : Two f) (K : Nat) (h2 : 2 ≤ K) (h6 : K ≤ 6) (a : Nat) (ha : a < 18446744073709551616) (w : World) :
    Calls Tryd.prog 29 #[fv f, .int .i64 (K : Int), .int .u64 (a : Int)] w fun e w' => e = .returned (.int .u64 (((oUn f K (a % 2 ^ f.width)).getD (cn f) : Nat) : Int)) ∧ Grew w w' := by
  have U1 := fun w : World => cutF_any ht a ha w
  have hsw : 2 * f.signWeight ≤ 18446744073709551616 := by rcases ht with rfl | rfl <;> decide
  have A2 : a % 2 ^ f.width < 2 * f.signWeight := by
    rw [show 2 * f.signWeight = 2 ^ f.width from by rcases ht with rfl | rfl <;> decide]; exact Nat.mod_lt _ (Nat.two_pow_pos _)
  generalize a % 2 ^ f.width = A at *
  have hA : A < 18446744073709551616 := by omega
  have N1 := fun w : World => isNan_any ht A hA w
  have Nn := fun w : World => nan_any ht w
  have Za := fun w : World => size_any ht A hA w
  have NX := fun w : World => below_any ht A hA w
  have If := fun w : World => inf_any ht w
  have k0 : ((K : Int) == 0) = false := beq_eq_false_iff_ne.2 (by omega)
  have k1 : ((K : Int) == 1) = false := beq_eq_false_iff_ne.2 (by omega)
  by_cases n1 : f.infRung < sz f A
  · rw [oUn_nan n1, Option.getD_none]
    simp only [n1, decide_true] at N1
    exact Un_nan (f := f) K a A 0 0 0 _ w k0 k1 U1 N1 Nn
  · simp only [n1, decide_false] at N1
    by_cases z : sz f A = 0
    · rw [oUn_zero ht z, Option.getD_some]
      exact Un_zero (f := f) K a A _ 0 0 0 w k0 k1 (beq_iff_eq.2 (by omega)) U1 N1 Za
    · have x0 : ((sz f A : Int) == 0) = false := beq_eq_false_iff_ne.2 (by omega)
      by_cases k6 : K = 6
      · subst k6
        cases hg : ng f A
        · rw [hg] at NX
          by_cases hi : sz f A = f.infRung
          · rw [oUn_inf z hi (by simp [hg]), Option.getD_some]
            exact Un_inf6 (f := f) 0 a A _ _ 0 0 w x0 (beq_iff_eq.2 (by omega)) U1 N1 Za NX If
          · rw [oUn_root (by omega) z hg, Option.getD_some]
            exact Un_root (f := f) 0 a A _ _ 0 _ w x0 (beq_eq_false_iff_ne.2 (by omega)) U1 N1 Za NX If (fun w => root_any ht A hA (by omega) z w)
        · rw [hg] at NX
          rw [oUn_neg n1 z hg, Option.getD_none]
          exact Un_neg (f := f) 0 a A _ 0 0 _ w x0 U1 N1 Za NX Nn
      · have kk : ((K : Int) == 6) = false := beq_eq_false_iff_ne.2 (by omega)
        by_cases hi : sz f A = f.infRung
        · rw [oUn_inf z hi (fun hh => k6 hh.1), Option.getD_some]
          exact Un_inf (f := f) K a A _ _ 0 0 w k0 k1 kk x0 (beq_iff_eq.2 (by omega)) U1 N1 Za If
        · rw [oUn_who (by omega) z k6, Option.getD_some]
          exact Un_whole (f := f) K a A _ _ 0 _ w k0 k1 kk x0 (beq_eq_false_iff_ne.2 (by omega)) U1 N1 Za If (fun w => whole_any ht K (by omega) A A2 hA (by omega) z w)
/- The model's side. -/
theorem lop_K {K : Nat} (h2 : 2 ≤ K) (h6 : K ≤ 6) (y : Nat) : lop (K + 7) y = if K = 6 then Ieee.double.sqrt y else rop Ieee.double (wayOf K) y := by
  have hk : K = 2 ∨ K = 3 ∨ K = 4 ∨ K = 5 ∨ K = 6 := by omega
  rcases hk with rfl | rfl | rfl | rfl | rfl <;> rfl
theorem rop_nan {f : Ieee.Format} {way : Ieee.Toward} {y : Nat} (h : f.infRung < sz f y) : rop f way y = none := by unfold rop; rw [if_pos h]
theorem sqrt_nan {f : Ieee.Format} (ht : Two f) {y : Nat} (h : f.infRung < sz f y) : f.sqrt y = none := by
  unfold Ieee.Format.sqrt; rw [read_nan ht h]; rfl
theorem lop_nan {K y : Nat} (h2 : 2 ≤ K) (h6 : K ≤ 6) (h : Ieee.double.infRung < sz Ieee.double y) : lop (K + 7) y = none := by
  rw [lop_K h2 h6, sqrt_nan t2 h, rop_nan h]; simp
theorem inf_d {y : Nat} (hy : y < 2 ^ 64) (h : sz Ieee.double y = Ieee.double.infRung) : Ieee.double.word (ng Ieee.double y) Ieee.double.infRung = y := by
  have := word_of Ieee.double (a := y) hy
  rw [h] at this; exact this
theorem zero_f {f : Ieee.Format} {y : Nat} (hy : y < 2 * f.signWeight) (h : sz f y = 0) : f.word (ng f y) 0 = y := by
  have := word_of f hy
  rw [h] at this; exact this
theorem rop_inf {way : Ieee.Toward} {y : Nat} (hy : y < 2 ^ 64) (h : sz Ieee.double y = Ieee.double.infRung) : rop Ieee.double way y = some y := by
  unfold rop; rw [if_neg (by omega), read_inf t2 h]
  show some (Ieee.double.word (ng Ieee.double y) Ieee.double.infRung) = _
  rw [inf_d hy h]
theorem sqrt_inf {y : Nat} (hy : y < 2 ^ 64) (h : sz Ieee.double y = Ieee.double.infRung) : Ieee.double.sqrt y = if ng Ieee.double y = true then none else some y := by
  unfold Ieee.Format.sqrt; rw [read_inf t2 h]
  cases hg : ng Ieee.double y
  · show some (Ieee.double.word false Ieee.double.infRung) = _
    have := inf_d hy h
    rw [hg] at this
    rw [this]; rfl
  · rfl
theorem rop_zero {way : Ieee.Toward} {y : Nat} (hy : y < 2 ^ 64) (h : sz Ieee.double y = 0) : rop Ieee.double way y = some y := by
  have hf : sz Ieee.double y < Ieee.double.infRung := by rw [h]; decide
  rw [rop_who t2 way hf]
  have hw : who Ieee.double way y = y := by
    unfold who
    rw [mg_zero.2 h, Nat.zero_shiftLeft]
    have : way.cut (ng Ieee.double y) 0 (-(pl Ieee.double y)).toNat = 0 := by
      have := cut_exact way (ng Ieee.double y) 0 (-(pl Ieee.double y)).toNat (-(pl Ieee.double y)).toNat (Nat.le_refl _)
      rw [Nat.zero_mul, Nat.zero_mul] at this
      exact this
    rw [this]
    unfold rd
    rw [if_pos rfl, zero_f (f := Ieee.double) hy h]
  rw [hw]
theorem sqrt_zero {y : Nat} (hy : y < 2 ^ 64) (h : sz Ieee.double y = 0) : Ieee.double.sqrt y = some y := by
  have hf : sz Ieee.double y < Ieee.double.infRung := by rw [h]; decide
  unfold Ieee.Format.sqrt
  rw [read_fin t2 hf, mg_zero.2 h]
  show some (Ieee.double.nearest (ng Ieee.double y) 0 (pl Ieee.double y)) = _
  rw [nearest_rd]
  unfold rd
  rw [if_pos rfl, zero_f (f := Ieee.double) hy h]
theorem sqrt_neg {y : Nat} (hf : sz Ieee.double y < Ieee.double.infRung) (z : sz Ieee.double y ≠ 0) (hg : ng Ieee.double y = true) : Ieee.double.sqrt y = none := by
  unfold Ieee.Format.sqrt
  rw [read_fin t2 hf, hg]
  have hm : mg Ieee.double y ≠ 0 := fun hh => z (mg_zero.1 hh)
  simp only [Ieee.Datum.root, if_neg hm, if_true, Option.map]
theorem rtc_le {f : Ieee.Format} {x : Nat} : rtc f x ≤ 124 - (mg f x).log2 ∨ (mg f x).log2 > 123 := by unfold rtc; split <;> omega
theorem rtc_ge {f : Ieee.Format} {x : Nat} : 123 ≤ rtc f x + (mg f x).log2 := by unfold rtc; split <;> omega
theorem lop_64 {K x : Nat} (h2 : 2 ≤ K) (h6 : K ≤ 6) (hx : x < 2 ^ 64) : lop (K + 7) x = oUn Ieee.double K x := by
  by_cases n1 : Ieee.double.infRung < sz Ieee.double x
  · rw [lop_nan h2 h6 n1, oUn_nan n1]
  rw [lop_K h2 h6]
  by_cases z : sz Ieee.double x = 0
  · rw [oUn_zero t2 z, sqrt_zero hx z, rop_zero hx z]; simp
  by_cases hi : sz Ieee.double x = Ieee.double.infRung
  · rw [sqrt_inf hx hi, rop_inf hx hi]
    by_cases k6 : K = 6
    · subst k6
      rw [if_pos rfl]
      cases hg : ng Ieee.double x
      · rw [oUn_inf z hi (by simp [hg])]; rfl
      · rw [oUn_neg n1 z hg]; rfl
    · rw [if_neg k6, oUn_inf z hi (fun hh => k6 hh.1)]
  have hf : sz Ieee.double x < Ieee.double.infRung := by omega
  by_cases k6 : K = 6
  · subst k6
    rw [if_pos rfl]
    cases hg : ng Ieee.double x
    · rw [oUn_root hf z hg]
      exact sqrt_any t2 hf z hg (rtc Ieee.double x) _ (by have := rtc_ge (f := Ieee.double) (x := x); show 109 ≤ _; omega) (rtc_even _ _) (isq_is _)
    · rw [oUn_neg n1 z hg, sqrt_neg hf z hg]
  · rw [if_neg k6, oUn_who hf z k6, rop_who t2 _ hf]
theorem res_none {f : Ieee.Format} {z : Nat} (h : z < 2 ^ f.width) (hn : f.infRung < sz f z) : Res f none z := ⟨h, fun r hr => (by cases hr), fun _ => hn⟩
theorem res_at {f : Ieee.Format} {z r : Nat} (h : z < 2 ^ f.width) (he : z = r) : Res f (some r) z := ⟨h, fun r' hr => he.trans (Option.some.inj hr), fun hh => (by cases hh)⟩
theorem lop_32 {K x y r z : Nat} (h2 : 2 ≤ K) (h6 : K ≤ 6) (hx : x < 2 ^ 32) (cy : Cnv .f32 .f64 x y) (cr : Res Ieee.double (lop (K + 7) y) r) (cz : Cnv .f64 .f32 r z) : Res Ieee.single (oUn Ieee.single K x) z := by
  by_cases n1 : Ieee.single.infRung < sz Ieee.single x
  · rw [oUn_nan n1]
    have hy := cy.2.2 n1
    rw [lop_nan h2 h6 hy] at cr
    exact res_none cz.1 (cz.2.2 (cr.2.2 rfl))
  rw [lop_K h2 h6] at cr
  by_cases z0 : sz Ieee.single x = 0
  · have hf : sz Ieee.single x < Ieee.single.infRung := by rw [z0]; decide
    have ey := cy.2.1 _ (prom_bits hf)
    subst ey
    have hz : sz Ieee.double (prom x) = 0 := by rw [prom_zero z0]; exact (word_sz Ieee.double _ (sw_pos _)).1
    rw [sqrt_zero (prom_lt x) hz, rop_zero (prom_lt x) hz] at cr
    have er : r = prom x := cr.2.1 _ (by simp)
    subst er
    rw [oUn_zero t1 z0]
    exact res_at cz.1 (cz.2.1 _ (dem_bits hx hf))
  by_cases hi : sz Ieee.single x = Ieee.single.infRung
  · have ey := cy.2.1 _ (inf_bits32 hi)
    obtain ⟨w1, w2, w3⟩ := word_sz Ieee.double (ng Ieee.single x) (inf_lt Ieee.double)
    have hxw : Ieee.single.word (ng Ieee.single x) Ieee.single.infRung = x := by
      have := word_of Ieee.single (a := x) hx
      rw [hi] at this
      exact this
    have ib := inf_bits64 (ng Ieee.single x)
    rw [hxw] at ib
    rw [← ey] at w1 w2 w3 ib
    rw [sqrt_inf w3 w1, rop_inf w3 w1, w2] at cr
    by_cases k6 : K = 6
    · subst k6
      rw [if_pos rfl] at cr
      cases hg : ng Ieee.single x
      · rw [hg] at cr
        have er : r = y := cr.2.1 _ (by simp)
        rw [← er] at ib
        rw [oUn_inf z0 hi (by simp [hg])]
        exact res_at cz.1 (cz.2.1 _ ib)
      · rw [hg] at cr
        rw [oUn_neg n1 z0 hg]
        exact res_none cz.1 (cz.2.2 (cr.2.2 (by simp)))
    · rw [if_neg k6] at cr
      have er : r = y := cr.2.1 _ rfl
      rw [← er] at ib
      rw [oUn_inf z0 hi (fun hh => k6 hh.1)]
      exact res_at cz.1 (cz.2.1 _ ib)
  have hf : sz Ieee.single x < Ieee.single.infRung := by omega
  have ey := cy.2.1 _ (prom_bits hf)
  subst ey
  obtain ⟨g1, g2, g3, g4, g5⟩ := prom_fin hf z0
  have hm : mg Ieee.single x ≠ 0 := fun hh => z0 (mg_zero.1 hh)
  have lg := log_24 hm (s_rng hf).2.2
  by_cases k6 : K = 6
  · subst k6
    rw [if_pos rfl] at cr
    cases hg : ng Ieee.single x
    · obtain ⟨Y, e1, e2, e3⟩ := sqrt_prom hf z0 hg (rtc Ieee.single x) _ (by have := rtc_ge (f := Ieee.single) (x := x); omega) (by have := rtc_le (f := Ieee.single) (x := x); omega) (rtc_even _ _) (isq_is _)
      rw [e1] at cr
      have er : r = Y := cr.2.1 _ rfl
      rw [← er] at e3
      rw [oUn_root hf z0 hg]
      exact res_at cz.1 (cz.2.1 _ e3)
    · have zz : sz Ieee.double (prom x) ≠ 0 := fun hh => by
        have := mg_zero.2 hh
        rw [g3] at this
        rcases Nat.mul_eq_zero.1 this with h1 | h1
        · exact hm h1
        · have := Nat.two_pow_pos (52 - (mg Ieee.single x).log2); omega
      rw [sqrt_neg g1 zz (by rw [g2]; exact hg)] at cr
      rw [oUn_neg n1 z0 hg]
      exact res_none cz.1 (cz.2.2 (cr.2.2 rfl))
  · rw [if_neg k6, rop_who t2 _ g1] at cr
    obtain ⟨e1, e2⟩ := who_prom (wayOf K) hx hf z0
    have er : r = who Ieee.double (wayOf K) (prom x) := cr.2.1 _ rfl
    rw [← er] at e1
    rw [oUn_who hf z0 k6]
    exact res_at cz.1 (cz.2.1 _ e1)
theorem rt_sz {f : Ieee.Format} {neg : Bool} {W : Nat} {m : Bool} {e : Int} : sz f (rd f neg W m e) ≤ f.infRung := by
  unfold rd
  have h := inf_lt f
  split
  · rw [(word_sz f neg (sw_pos f)).1]; omega
  · rw [(word_sz f neg (Nat.lt_of_le_of_lt (Nat.min_le_right _ _) h)).1]; exact Nat.min_le_right _ _
theorem oUn_num {f : Ieee.Format} {K x r : Nat} (h : oUn f K x = some r) : ¬ f.infRung < sz f r := by
  unfold oUn at h
  split at h
  · cases h
  split at h
  · rename_i h1 h2; rw [← Option.some.inj h]; exact h1
  split at h
  · cases h
  split at h
  · rename_i h1 _ _ _; rw [← Option.some.inj h]; exact h1
  split at h
  · rw [← Option.some.inj h]; have := rt_sz (f := f) (neg := false) (W := isq (mg f x * 2 ^ rtc f x)) (m := decide (mg f x * 2 ^ rtc f x ≠ isq (mg f x * 2 ^ rtc f x) * isq (mg f x * 2 ^ rtc f x))) (e := (pl f x - rtc f x) / 2); unfold rt; omega
  · rw [← Option.some.inj h]; unfold who; exact Nat.not_lt.2 rt_sz
theorem Una32 (K : Nat) (h2 : 2 ≤ K) (h6 : K ≤ 6) (a : Nat) (ha : a < 18446744073709551616) (w : World) (hT : Rws w) :
    Calls Tryd.prog 8 #[.int .i64 ((139 + K : Nat) : Int), .int .u64 (a : Int)] w fun e w' => e = .returned (.tuple #[.int .u64 (((oUn Ieee.single K (a % 2 ^ 32)).getD (cn Ieee.single) : Nat) : Int), .int .i64 0]) ∧ Grew w w' := by
  have F := find_7a ((139 + K : Nat) : Int) w hT (by omega) (by omega)
  have e1 : ((139 + K : Nat) : Int) - 132 = ((K + 7 : Nat) : Int) := by omega
  rw [e1] at F
  have hA : a % 2 ^ 32 < 2 ^ 32 := Nat.mod_lt _ (by decide)
  exact Unary_c32 _ _ _ _ _ (oUn Ieee.single K (a % 2 ^ 32)) w (beq_eq_false_iff_ne.2 (by omega)) (beq_eq_false_iff_ne.2 (by omega)) (beq_eq_false_iff_ne.2 (by omega)) F (fun w => take32_any a ha w)
    (fun w => (una32_any (K + 7) (by omega) (by omega) _ hA w).mono fun e w' ⟨z, he, ⟨y, r, cy, cr, cz⟩, hg⟩ => ⟨z, he, lop_32 h2 h6 hA cy cr cz, hg⟩)
    (fun z w hz => lay32_any _ z hz (fun r hr => oUn_num hr) w)
theorem Una64 (K : Nat) (h2 : 2 ≤ K) (h6 : K ≤ 6) (a : Nat) (ha : a < 18446744073709551616) (w : World) (hT : Rws w) :
    Calls Tryd.prog 8 #[.int .i64 ((153 + K : Nat) : Int), .int .u64 (a : Int)] w fun e w' => e = .returned (.tuple #[.int .u64 (((oUn Ieee.double K (a % 2 ^ 64)).getD (cn Ieee.double) : Nat) : Int), .int .i64 0]) ∧ Grew w w' := by
  have F := find_7b ((153 + K : Nat) : Int) w hT (by omega) (by omega)
  have e1 : ((153 + K : Nat) : Int) - 146 = ((K + 7 : Nat) : Int) := by omega
  rw [e1] at F
  have hA : a % 2 ^ 64 < 2 ^ 64 := Nat.mod_lt _ (by decide)
  exact Unary_c64 _ _ _ _ _ (oUn Ieee.double K (a % 2 ^ 64)) w (beq_eq_false_iff_ne.2 (by omega)) (beq_eq_false_iff_ne.2 (by omega)) (beq_eq_false_iff_ne.2 (by omega)) F (fun w => take64_any a ha w)
    (fun w => (una64_any (K + 7) (by omega) (by omega) _ hA w).mono fun e w' ⟨z, he, hz, hg⟩ => ⟨z, he, by rw [lop_64 h2 h6 hA] at hz; exact hz, hg⟩)
    (fun z w hz => lay64_any _ z hz (fun r hr => oUn_num hr) w)
theorem FAbs_any {f : Ieee.Format} (ht : Two f) (a : Nat) (ha : a < 18446744073709551616) (w : World) :
    Calls Tryd.prog 29 #[fv f, .int .i64 0, .int .u64 (a : Int)] w fun e w' => e = .returned (.int .u64 ((sz f (a % 2 ^ f.width) : Nat) : Int)) ∧ Grew w w' := by
  have U1 := fun w : World => cutF_any ht a ha w
  have hA : a % 2 ^ f.width < 18446744073709551616 := Nat.lt_of_lt_of_le (Nat.mod_lt _ (Nat.two_pow_pos _)) (by rcases ht with rfl | rfl <;> decide)
  generalize a % 2 ^ f.width = A at *
  exact Un_0 (f := f) 0 a A _ 0 0 0 w U1 (fun w => size_any ht A hA w)
theorem FNeg_any {f : Ieee.Format} (ht : Two f) (a : Nat) (ha : a < 18446744073709551616) (w : World) :
    Calls Tryd.prog 29 #[fv f, .int .i64 1, .int .u64 (a : Int)] w fun e w' => e = .returned (.int .u64 (bits .xor .u64 ((a % 2 ^ f.width : Nat) : Int) (f.signWeight : Int))) ∧ Grew w w' := by
  have U1 := fun w : World => cutF_any ht a ha w
  generalize a % 2 ^ f.width = A at *
  exact Un_1 (f := f) 0 a A 0 0 _ 0 w U1 (fun w => sign_any ht w)
set_option maxRecDepth 100000 in
set_option maxHeartbeats 2000000 in
theorem rUnary_1 (k : Nat) (hk : k < 7) (R a : Int) (w : World)
    (C : Hid (∀ w : World, Calls Tryd.prog 29 #[fv Ieee.single, .int .i64 (k : Int), .int .u64 a] w fun e w' => e = .returned (.int .u64 R) ∧ Grew w w')) :
    Calls Tryd.prog 9 #[.int .i64 ((139 + k : Nat) : Int), .int .u64 a] w fun e w' => e = .returned (.tuple #[.int .u64 R, .int .i64 0]) ∧ Grew w w' := by
  have F' := fun w : World => format_1 ((139 + k : Nat) : Int) 139 153 7 w (by omega) (by omega) (by omega) (by omega) (by omega) (by omega) (by omega) (by omega) (by omega) (by omega)
  have e1 : ((139 + k : Nat) : Int) - 139 = (k : Int) := by omega
  rw [e1] at F'
  generalize ((139 + k : Nat) : Int) = op at *
  generalize (k : Int) = K at *
  have F : Hid (∀ w : World, Calls Tryd.prog 28 #[.int .i64 op, .int .i64 139, .int .i64 153, .int .i64 7] w fun e w' => e = .returned (.tuple #[fv Ieee.single, .int .i64 K, .bool true]) ∧ Grew w w') := F'
  clear F' e1
  rw [fv1] at F C
  go_enter Tryd.func9, Tryd.ntmps9
  go_wp2_with fail
  refine (F.out _).mono ?_
  rintro e w1 ⟨rfl, g1⟩
  go_wp2_with fail
  refine (C.out _).mono ?_
  rintro e w2 ⟨rfl, g2⟩
  go_wp2
  go_ret2
  go_light
  refine ⟨rfl, ?_⟩
  repeat (first | exact Grew.refl _ | refine Grew.drew ?_ | refine Grew.drewN ?_ _ | refine Grew.alloc ?_ _ | refine Grew.set ?_ (by first | (simp; done) | (simp; omega) | omega) _ | refine Grew.trans ?_ g1 | refine Grew.trans ?_ g2 | assumption)
set_option maxRecDepth 100000 in
set_option maxHeartbeats 2000000 in
theorem rUnary_2 (k : Nat) (hk : k < 7) (R a : Int) (w : World)
    (C : Hid (∀ w : World, Calls Tryd.prog 29 #[fv Ieee.double, .int .i64 (k : Int), .int .u64 a] w fun e w' => e = .returned (.int .u64 R) ∧ Grew w w')) :
    Calls Tryd.prog 9 #[.int .i64 ((153 + k : Nat) : Int), .int .u64 a] w fun e w' => e = .returned (.tuple #[.int .u64 R, .int .i64 0]) ∧ Grew w w' := by
  have F' := fun w : World => format_2 ((153 + k : Nat) : Int) 139 153 7 w (by omega) (by omega) (by omega) (by omega) (by omega) (by omega) (by omega) (by omega) (by omega) (by omega) (by omega)
  have e1 : ((153 + k : Nat) : Int) - 153 = (k : Int) := by omega
  rw [e1] at F'
  generalize ((153 + k : Nat) : Int) = op at *
  generalize (k : Int) = K at *
  have F : Hid (∀ w : World, Calls Tryd.prog 28 #[.int .i64 op, .int .i64 139, .int .i64 153, .int .i64 7] w fun e w' => e = .returned (.tuple #[fv Ieee.double, .int .i64 K, .bool true]) ∧ Grew w w') := F'
  clear F' e1
  rw [fv2] at F C
  go_enter Tryd.func9, Tryd.ntmps9
  go_wp2_with fail
  refine (F.out _).mono ?_
  rintro e w1 ⟨rfl, g1⟩
  go_wp2_with fail
  refine (C.out _).mono ?_
  rintro e w2 ⟨rfl, g2⟩
  go_wp2
  go_ret2
  go_light
  refine ⟨rfl, ?_⟩
  repeat (first | exact Grew.refl _ | refine Grew.drew ?_ | refine Grew.drewN ?_ _ | refine Grew.alloc ?_ _ | refine Grew.set ?_ (by first | (simp; done) | (simp; omega) | omega) _ | refine Grew.trans ?_ g1 | refine Grew.trans ?_ g2 | assumption)
set_option maxRecDepth 100000 in
set_option maxHeartbeats 2000000 in
theorem rUnary_no (op a : Int) (w : World) (o0 : -9223372036854775808 ≤ op) (o1 : op ≤ 9223372036854775807) (h1 : op < 139 ∨ 146 ≤ op) (h2 : op < 153 ∨ 160 ≤ op) :
    Calls Tryd.prog 9 #[.int .i64 op, .int .u64 a] w fun e w' => e = .returned (.tuple #[.int .u64 0, .int .i64 1]) ∧ Grew w w' := by
  have F : Hid (∀ w : World, Calls Tryd.prog 28 #[.int .i64 op, .int .i64 139, .int .i64 153, .int .i64 7] w fun e w' => ∃ k : Int, e = .returned (.tuple #[.agg #[.int .i64 52, .int .i64 11], .int .i64 k, .bool false]) ∧ Grew w w') :=
    fun w => format_3 op 139 153 7 w o0 o1 (by omega) (by omega) (by omega) (by omega) (by omega) (by omega) (by omega) (by omega)
  go_enter Tryd.func9, Tryd.ntmps9
  go_wp2_with fail
  refine (F.out _).mono ?_
  rintro e w1 ⟨k, rfl, g1⟩
  go_wp2
  go_ret2
  go_light
  refine ⟨rfl, ?_⟩
  repeat (first | exact Grew.refl _ | refine Grew.drew ?_ | refine Grew.drewN ?_ _ | refine Grew.alloc ?_ _ | refine Grew.set ?_ (by first | (simp; done) | (simp; omega) | omega) _ | refine Grew.trans ?_ g1 | assumption)
end Go.Proofs.YtjkebimmddlccaaDoor
