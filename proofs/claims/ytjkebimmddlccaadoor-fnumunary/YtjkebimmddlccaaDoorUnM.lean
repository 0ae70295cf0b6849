/-
  Plain facts on floats made whole and on roots; no statement is proved here.
-/
import Derived.Test.YtjkebimmddlccaaDoorThI
namespace Go.Proofs.YtjkebimmddlccaaDoor
set_option linter.unusedVariables false
set_option linter.unusedSimpArgs false

/- The step up when d digits are cut off. -/
def upW (way : Ieee.Toward) (neg : Bool) (n d : Nat) : Nat :=
  match way with
  | .even => upR n d false
  | .down => if neg = true ∧ n % 2 ^ d ≠ 0 then 1 else 0
  | .up => if neg = false ∧ n % 2 ^ d ≠ 0 then 1 else 0
  | .zero => 0
theorem cut_gap (n d : Nat) : n / 2 ^ min d (n.log2 + 2) = n / 2 ^ d ∧ (n % 2 ^ min d (n.log2 + 2) = 0 ↔ n % 2 ^ d = 0) := by
  by_cases h : d ≤ n.log2 + 2
  · rw [Nat.min_eq_left h]; exact ⟨rfl, Iff.rfl⟩
  · rw [Nat.min_eq_right (by omega)]
    have l := lt_log2 n
    have p1 : 2 ^ (n.log2 + 1) ≤ 2 ^ (n.log2 + 2) := Nat.pow_le_pow_right (by omega) (by omega)
    have p2 : 2 ^ (n.log2 + 1) ≤ 2 ^ d := Nat.pow_le_pow_right (by omega) (by omega)
    rw [Nat.div_eq_of_lt (by omega), Nat.div_eq_of_lt (by omega), Nat.mod_eq_of_lt (by omega), Nat.mod_eq_of_lt (by omega)]
    exact ⟨rfl, Iff.rfl⟩
theorem cut_way (way : Ieee.Toward) (neg : Bool) (n d : Nat) : way.cut neg n d = n / 2 ^ d + upW way neg n d := by
  obtain ⟨g1, g2⟩ := cut_gap n d
  cases way with
  | even => rw [cut_even]; rfl
  | down =>
    unfold Ieee.Toward.cut upW
    simp only [Nat.one_shiftLeft, g1]
    congr 1
    by_cases z : n % 2 ^ d = 0
    · rw [g2.2 z]; simp [z]
    · have : n % 2 ^ min d (n.log2 + 2) ≠ 0 := fun h => z (g2.1 h)
      cases neg <;> simp [this, z]
  | up =>
    unfold Ieee.Toward.cut upW
    simp only [Nat.one_shiftLeft, g1]
    congr 1
    by_cases z : n % 2 ^ d = 0
    · rw [g2.2 z]; simp [z]
    · have : n % 2 ^ min d (n.log2 + 2) ≠ 0 := fun h => z (g2.1 h)
      cases neg <;> simp [this, z]
  | zero =>
    unfold Ieee.Toward.cut upW
    simp only [Nat.one_shiftLeft, g1]
    rfl
theorem mod_scale (n d j : Nat) : n * 2 ^ j % 2 ^ (d + j) = 0 ↔ n % 2 ^ d = 0 := by
  rw [Nat.pow_add, Nat.mul_mod_mul_right]
  have := Nat.two_pow_pos j
  constructor
  · intro h
    rcases Nat.mul_eq_zero.1 h with h | h
    · exact h
    · omega
  · intro h; rw [h, Nat.zero_mul]
theorem div_scale (n d j : Nat) : n * 2 ^ j / 2 ^ (d + j) = n / 2 ^ d := by
  rw [Nat.pow_add, Nat.mul_div_mul_right _ _ (Nat.two_pow_pos j)]
theorem cut_scale (way : Ieee.Toward) (neg : Bool) (n d j : Nat) (hd : 1 ≤ d) : way.cut neg (n * 2 ^ j) (d + j) = way.cut neg n d := by
  rw [cut_way, cut_way, div_scale]
  congr 1
  cases way with
  | even =>
    show upR _ _ _ = upR _ _ _
    unfold upR
    rw [if_neg (show ¬ (d + j = 0) by omega), if_neg (show ¬ (d = 0) by omega), show d + j - 1 = (d - 1) + j from by omega, div_scale, div_scale]
    have := mod_scale n (d - 1) j
    simp only [ne_eq, this]
  | down => show (if _ then _ else _) = _; simp only [ne_eq, mod_scale]; rfl
  | up => show (if _ then _ else _) = _; simp only [ne_eq, mod_scale]; rfl
  | zero => rfl
theorem cut_up (way : Ieee.Toward) (neg : Bool) (n : Nat) : way.cut neg n 0 = n := by
  rw [cut_way]
  cases way <;> simp [upW, upR, Nat.mod_one]
theorem cut_exact (way : Ieee.Toward) (neg : Bool) (n d k : Nat) (h : d ≤ k) : way.cut neg (n * 2 ^ k) d = n * 2 ^ (k - d) := by
  rw [cut_way]
  have e : n * 2 ^ k = n * 2 ^ (k - d) * 2 ^ d := by rw [Nat.mul_assoc, ← Nat.pow_add]; congr 2; omega
  have e1 : n * 2 ^ k / 2 ^ d = n * 2 ^ (k - d) := by rw [e, Nat.mul_div_cancel _ (Nat.two_pow_pos d)]
  have e2 : n * 2 ^ k % 2 ^ d = 0 := by rw [e, Nat.mul_mod_left]
  rw [e1]
  have : upW way neg (n * 2 ^ k) d = 0 := by
    cases way with
    | even =>
      show upR _ _ _ = 0
      unfold upR
      by_cases hd : d = 0
      · rw [if_pos hd]
      · rw [if_neg hd]
        have : n * 2 ^ k / 2 ^ (d - 1) = n * 2 ^ (k - d) * 2 := by
          rw [e, show d = (d - 1) + 1 from by omega, Nat.pow_succ, ← Nat.mul_assoc, Nat.add_sub_cancel, Nat.mul_right_comm, Nat.mul_div_cancel _ (Nat.two_pow_pos _), show d - 1 + 1 = d from by omega]
        rw [this, Nat.mul_mod_left]; simp
    | down => show (if _ then _ else _) = 0; simp [e2]
    | up => show (if _ then _ else _) = 0; simp [e2]
    | zero => rfl
  rw [this, Nat.add_zero]
/- A finite word made whole. -/
def who (f : Ieee.Format) (way : Ieee.Toward) (x : Nat) : Nat := rd f (ng f x) (way.cut (ng f x) (mg f x <<< (pl f x).toNat) (-(pl f x)).toNat) false 0
theorem rop_who {f : Ieee.Format} (ht : Two f) (way : Ieee.Toward) {x : Nat} (h : sz f x < f.infRung) : rop f way x = some (who f way x) := by
  unfold rop who
  rw [if_neg (by omega), read_fin ht h]
  show some (f.nearest _ _ _) = _
  rw [nearest_rd]
theorem who_up {f : Ieee.Format} (ht : Two f) (way : Ieee.Toward) {x : Nat} (hx : x < 2 * f.signWeight) (h : sz f x < f.infRung) (hp : 0 ≤ pl f x) : who f way x = x := by
  unfold who
  rw [show (-(pl f x)).toNat = 0 from by omega, cut_up, Nat.shiftLeft_eq]
  have := rd_scale f (ng f x) (mg f x) (pl f x).toNat (pl f x)
  rw [show pl f x - ((pl f x).toNat : Int) = 0 from by omega] at this
  rw [this, rd_back ht hx h]
theorem who_down {f : Ieee.Format} (way : Ieee.Toward) {x : Nat} (hp : pl f x < 0) : who f way x = rd f (ng f x) (way.cut (ng f x) (mg f x) (-(pl f x)).toNat) false 0 := by
  unfold who
  rw [show (pl f x).toNat = 0 from by omega, Nat.shiftLeft_zero]
theorem cut_le (way : Ieee.Toward) (neg : Bool) (n d : Nat) : way.cut neg n d ≤ n / 2 ^ d + 1 := by
  rw [cut_way]
  have : upW way neg n d ≤ 1 := by
    cases way with
    | even => show upR _ _ _ ≤ 1; unfold upR; split <;> (try split) <;> omega
    | down => show (if _ then _ else _) ≤ 1; split <;> omega
    | up => show (if _ then _ else _) ≤ 1; split <;> omega
    | zero => show 0 ≤ 1; omega
  omega
theorem dem_nw (s : Bool) {N : Nat} (h : N ≤ 8388608) : floatToFloatBits .f64 (rd Ieee.double s N false 0) .f32 = some (rd Ieee.single s N false 0) ∧ sz Ieee.double (rd Ieee.double s N false 0) < Ieee.double.infRung := by
  have h4 : N ≤ 4294967296 := by omega
  obtain ⟨j, hj⟩ := nw_read s h4
  have hs := nw_sz s h4
  refine ⟨?_, hs⟩
  have hfin : sz Ieee.single (rd Ieee.single s N false 0) < Ieee.single.infRung := by
    by_cases z : N = 0
    · subst z
      unfold rd
      rw [if_pos rfl, (word_sz Ieee.single s (sw_pos _)).1]; decide
    · have l : N.log2 ≤ 23 := by have := (Nat.log2_lt z).2 (show N < 2 ^ 24 by omega); omega
      exact (rd_exact (f := Ieee.single) s N (N.log2 + 126) 0 z (by show _ ≤ 23; omega) (by rw [lp1]; show _ + _ - (23 : Int) = _; omega) (by show _ + 2 ≤ 255; omega)).1
  unfold floatToFloatBits
  rw [if_neg (by decide), dec_k]
  show (match Ieee.double.read (nw s N) with | .nan _ _ => none | .infinity s => some (FloatKind.f32.encode (.infinity s)) | .number s m e => if (FloatKind.f32.decode (FloatKind.f32.encode (.number s m e))).isInfinity then none else some (FloatKind.f32.encode (.number s m e))) = _
  rw [hj]
  show (if (FloatKind.f32.decode (FloatKind.f32.encode (.number s (N * 2 ^ j) (-(j : Int))))).isInfinity then none else some (FloatKind.f32.encode (.number s (N * 2 ^ j) (-(j : Int))))) = _
  have e := rd_scale Ieee.single s N j 0
  rw [Int.zero_sub] at e
  rw [enc_fin, dec_k]
  show (if (Ieee.single.read (rd Ieee.single s (N * 2 ^ j) false (-(j : Int)))).isInfinity then none else some (rd Ieee.single s (N * 2 ^ j) false (-(j : Int)))) = _
  rw [e, inf_not t1 hfin]; rfl
/- A narrow float made whole as a wide one. -/
theorem who_prom (way : Ieee.Toward) {x : Nat} (hx : x < 2 * Ieee.single.signWeight) (h : sz Ieee.single x < Ieee.single.infRung) (z : sz Ieee.single x ≠ 0) :
    floatToFloatBits .f64 (who Ieee.double way (prom x)) .f32 = some (who Ieee.single way x) ∧ sz Ieee.double (who Ieee.double way (prom x)) < Ieee.double.infRung := by
  obtain ⟨p1, p2, p3, p4, p5⟩ := prom_fin h z
  obtain ⟨r1, r2, r3⟩ := s_rng h
  have hm : mg Ieee.single x ≠ 0 := fun hh => z (mg_zero.1 hh)
  have lg := log_24 hm r3
  by_cases hp : 0 ≤ pl Ieee.single x
  · rw [who_up t1 way hx h hp]
    have hw : who Ieee.double way (prom x) = prom x := by
      by_cases hq : 0 ≤ pl Ieee.double (prom x)
      · exact who_up t2 way p5 p1 hq
      · rw [who_down way (by omega), p2, p3, p4]
        rw [p4] at hq
        have he : (-(pl Ieee.single x - ((52 - (mg Ieee.single x).log2 : Nat) : Int))).toNat = 52 - (mg Ieee.single x).log2 - (pl Ieee.single x).toNat := by omega
        rw [he, cut_exact _ _ _ _ _ (by omega), show 52 - (mg Ieee.single x).log2 - (52 - (mg Ieee.single x).log2 - (pl Ieee.single x).toNat) = (pl Ieee.single x).toNat from by omega]
        have := rd_scale Ieee.double (ng Ieee.single x) (mg Ieee.single x) (pl Ieee.single x).toNat (pl Ieee.single x)
        rw [show pl Ieee.single x - ((pl Ieee.single x).toNat : Int) = 0 from by omega] at this
        rw [this]; rfl
    rw [hw]
    exact ⟨dem_bits hx h, p1⟩
  · have hq : pl Ieee.double (prom x) < 0 := by rw [p4]; omega
    have hs : pl Ieee.single x < 0 := by omega
    rw [who_down way hq, who_down way hs, p2, p3, p4]
    have he : (-(pl Ieee.single x - ((52 - (mg Ieee.single x).log2 : Nat) : Int))).toNat = (-(pl Ieee.single x)).toNat + (52 - (mg Ieee.single x).log2) := by omega
    rw [he, cut_scale _ _ _ _ _ (by omega)]
    have hN := cut_le way (ng Ieee.single x) (mg Ieee.single x) (-(pl Ieee.single x)).toNat
    have hN2 : mg Ieee.single x / 2 ^ (-(pl Ieee.single x)).toNat ≤ mg Ieee.single x / 2 ^ 1 := Nat.div_le_div_left (Nat.pow_le_pow_right (by decide) (by omega)) (by decide)
    generalize way.cut (ng Ieee.single x) (mg Ieee.single x) (-(pl Ieee.single x)).toNat = N at hN ⊢
    have hN3 : N ≤ 8388608 := by omega
    exact dem_nw (ng Ieee.single x) hN3
end Go.Proofs.YtjkebimmddlccaaDoor
