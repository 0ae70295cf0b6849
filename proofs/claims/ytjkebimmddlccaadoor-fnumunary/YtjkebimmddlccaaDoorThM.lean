/-
  Plain facts on words that hold a number exactly: of one format in the other, whole numbers, there and back; no statement is proved here.
-/
import Derived.Test.YtjkebimmddlccaaDoorResM
namespace Go.Proofs.YtjkebimmddlccaaDoor
set_option linter.unusedVariables false
set_option linter.unusedSimpArgs false

theorem bin_pow (f : Ieee.Format) : f.binade = 2 ^ f.fractionBits := rfl
theorem inf_def (f : Ieee.Format) : f.infRung = (2 ^ f.exponentBits - 1) * f.binade := rfl
/- A word whose rung is T binades and M, M within a binade. -/
theorem rung_parts {f : Ieee.Format} (neg : Bool) (T M : Nat) (h1 : f.binade ≤ M) (h2 : M < 2 * f.binade) (h3 : T * f.binade + M < f.infRung) :
    sz f (f.word neg (T * f.binade + M)) = T * f.binade + M ∧ ng f (f.word neg (T * f.binade + M)) = neg ∧ mg f (f.word neg (T * f.binade + M)) = M ∧ pl f (f.word neg (T * f.binade + M)) = f.leastPlace + T := by
  have hb := binade_pos f
  obtain ⟨e1, e2, _⟩ := word_sz f neg (r := T * f.binade + M) (Nat.lt_trans h3 (inf_lt f))
  have hd : (T * f.binade + M) / f.binade = T + 1 := by
    rw [show T * f.binade + M = (M - f.binade) + (T + 1) * f.binade from by rw [Nat.succ_mul]; omega, Nat.add_mul_div_right _ _ hb, Nat.div_eq_of_lt (by omega)]; omega
  have hm : (T * f.binade + M) % f.binade = M - f.binade := by
    rw [show T * f.binade + M = (M - f.binade) + (T + 1) * f.binade from by rw [Nat.succ_mul]; omega, Nat.add_mul_mod_self_right, Nat.mod_eq_of_lt (by omega)]
  have hn : ¬ T * f.binade + M < f.binade := by omega
  refine ⟨e1, e2, ?_, ?_⟩
  · unfold mg; rw [e1, if_neg hn, hm]; omega
  · unfold pl ex; rw [e1, hd]; rfl
theorem shl_bin {f : Ieee.Format} {W : Nat} (hW : W ≠ 0) (h1 : W.log2 ≤ f.fractionBits) : f.binade ≤ W * 2 ^ (f.fractionBits - W.log2) ∧ W * 2 ^ (f.fractionBits - W.log2) < 2 * f.binade := by
  have l := log2_le hW
  have u := lt_log2 W
  rw [bin_pow]
  constructor
  · calc 2 ^ f.fractionBits = 2 ^ W.log2 * 2 ^ (f.fractionBits - W.log2) := by rw [← Nat.pow_add]; congr 1; omega
      _ ≤ _ := Nat.mul_le_mul_right _ l
  · calc W * 2 ^ (f.fractionBits - W.log2) < 2 ^ (W.log2 + 1) * 2 ^ (f.fractionBits - W.log2) := Nat.mul_lt_mul_of_pos_right u (Nat.two_pow_pos _)
      _ = 2 * 2 ^ f.fractionBits := by rw [← Nat.pow_add, Nat.mul_comm 2, ← Nat.pow_succ]; congr 1; omega
/- Of a number that the format holds. -/
theorem rd_exact {f : Ieee.Format} (neg : Bool) (W T : Nat) (e : Int) (hW : W ≠ 0) (h1 : W.log2 ≤ f.fractionBits) (hT : e + W.log2 - f.fractionBits = f.leastPlace + T) (h3 : T + 2 ≤ 2 ^ f.exponentBits - 1) :
    sz f (rd f neg W false e) < f.infRung ∧ ng f (rd f neg W false e) = neg ∧ mg f (rd f neg W false e) = W * 2 ^ (f.fractionBits - W.log2) ∧ pl f (rd f neg W false e) = e - (f.fractionBits - W.log2 : Nat) ∧ rd f neg W false e < 2 * f.signWeight := by
  have hb := binade_pos f
  obtain ⟨b1, b2⟩ := shl_bin (f := f) hW h1
  have hlast : lastR f W e = f.leastPlace + T := by unfold lastR; rw [hT]; omega
  have hr : rungR f W false e = T * f.binade + W * 2 ^ (f.fractionBits - W.log2) := by
    unfold rungR
    rw [hlast, show (f.leastPlace + (T : Int) - e).toNat = 0 from by omega, rne_zero, Nat.shiftLeft_eq, show (e - (f.leastPlace + (T : Int))).toNat = f.fractionBits - W.log2 from by omega, show (f.leastPlace + (T : Int) - f.leastPlace).toNat = T from by omega]
  generalize hM : W * 2 ^ (f.fractionBits - W.log2) = M at *
  have hi : T * f.binade + M < f.infRung := by
    rw [inf_def]
    have : (T + 2) * f.binade ≤ (2 ^ f.exponentBits - 1) * f.binade := Nat.mul_le_mul_right _ h3
    rw [Nat.add_mul] at this
    omega
  have hrd : rd f neg W false e = f.word neg (T * f.binade + M) := by
    unfold rd
    rw [if_neg hW, hr, Nat.min_eq_left (Nat.le_of_lt hi)]
  obtain ⟨p1, p2, p3, p4⟩ := rung_parts neg T M b1 b2 hi
  rw [hrd, p1, p2, p3, p4]
  refine ⟨hi, rfl, rfl, by omega, (word_sz f neg (Nat.lt_trans hi (inf_lt f))).2.2⟩
/- What is read is written as itself. -/
theorem rd_back {f : Ieee.Format} (ht : Two f) {a : Nat} (ha : a < 2 * f.signWeight) (fa : sz f a < f.infRung) : rd f (ng f a) (mg f a) false (pl f a) = a := by
  have hb := binade_pos f
  have p := sw_pos f
  have hword : f.word (ng f a) (sz f a) = a := by
    have dm := Nat.div_add_mod a f.signWeight
    have q : a / f.signWeight < 2 := (Nat.div_lt_iff_lt_mul p).2 ha
    unfold Ieee.Format.word ng sz
    have q2 : a / f.signWeight = 0 ∨ a / f.signWeight = 1 := by generalize a / f.signWeight = x at q; omega
    rcases q2 with h | h
    · rw [h] at dm ⊢; simp at dm ⊢; omega
    · rw [h] at dm ⊢; simp at dm ⊢; omega
  by_cases z : sz f a = 0
  · unfold rd
    rw [mg_zero.2 z, if_pos rfl, ← z, hword]
  · have hm : mg f a ≠ 0 := fun h => z (mg_zero.1 h)
    have hr : rungR f (mg f a) false (pl f a) = sz f a := by
      by_cases c : sz f a < f.binade
      · have e1 : mg f a = sz f a := by unfold mg; rw [if_pos c]
        have e2 : pl f a = f.leastPlace := by unfold pl ex; rw [Nat.div_eq_of_lt c]; simp
        rw [e1, e2]
        have l : (sz f a).log2 < f.fractionBits := (Nat.log2_lt z).2 c
        have hl : lastR f (sz f a) f.leastPlace = f.leastPlace := by unfold lastR; omega
        unfold rungR
        rw [hl, show (f.leastPlace - f.leastPlace).toNat = 0 from by omega, rne_zero, Nat.shiftLeft_zero, Nat.zero_mul, Nat.zero_add]
      · have e1 : mg f a = f.binade + sz f a % f.binade := by unfold mg; rw [if_neg c]
        have ml := Nat.mod_lt (sz f a) hb
        have dm := Nat.div_add_mod (sz f a) f.binade
        have hq : 1 ≤ sz f a / f.binade := (Nat.le_div_iff_mul_le hb).2 (by omega)
        have l : (mg f a).log2 = f.fractionBits := by
          apply log2_of
          · rw [e1, ← bin_pow]; omega
          · rw [e1, Nat.pow_succ, ← bin_pow]; omega
        have hl : lastR f (mg f a) (pl f a) = pl f a := by unfold lastR pl; rw [l]; omega
        unfold rungR
        rw [hl, show (pl f a - pl f a).toNat = 0 from by omega, rne_zero, Nat.shiftLeft_zero, e1, show (pl f a - f.leastPlace).toNat = ex f a from by unfold pl; omega]
        unfold ex
        have : (sz f a / f.binade - 1) * f.binade + f.binade = sz f a / f.binade * f.binade := by rw [← Nat.succ_mul]; congr 1; omega
        rw [Nat.mul_comm] at dm
        omega
    unfold rd
    rw [if_neg hm, hr, Nat.min_eq_left (Nat.le_of_lt fa), hword]
theorem enc_fin (k : FloatKind) (s : Bool) (m : Nat) (e : Int) : k.encode (.number s m e) = rd k.format s m false e := by
  show k.format.nearest s m e = _
  rw [nearest_rd]
theorem dec_k (k : FloatKind) (b : Nat) : k.decode b = k.format.read b := rfl
theorem log_24 {m : Nat} (hm : m ≠ 0) (h : m < 16777216) : m.log2 ≤ 23 := by
  have := (Nat.log2_lt hm).2 (show m < 2 ^ 24 from h); omega
/- A narrow float as a wide one. -/
def prom (x : Nat) : Nat := rd Ieee.double (ng Ieee.single x) (mg Ieee.single x) false (pl Ieee.single x)
theorem s_rng {x : Nat} (h : sz Ieee.single x < Ieee.single.infRung) : -149 ≤ pl Ieee.single x ∧ pl Ieee.single x ≤ 104 ∧ mg Ieee.single x < 16777216 := by
  refine ⟨?_, ?_, mg_lt (f := Ieee.single) x⟩ <;> unfold pl ex <;> rw [lp1, bn1] <;> rw [ir1] at h <;> generalize sz Ieee.single x = s at h ⊢ <;> omega
theorem prom_zero {x : Nat} (h : sz Ieee.single x = 0) : prom x = Ieee.double.word (ng Ieee.single x) 0 := by
  unfold prom rd; rw [mg_zero.2 h, if_pos rfl]
theorem prom_fin {x : Nat} (h : sz Ieee.single x < Ieee.single.infRung) (z : sz Ieee.single x ≠ 0) :
    sz Ieee.double (prom x) < Ieee.double.infRung ∧ ng Ieee.double (prom x) = ng Ieee.single x ∧ mg Ieee.double (prom x) = mg Ieee.single x * 2 ^ (52 - (mg Ieee.single x).log2) ∧ pl Ieee.double (prom x) = pl Ieee.single x - (52 - (mg Ieee.single x).log2 : Nat) ∧ prom x < 2 * Ieee.double.signWeight := by
  obtain ⟨r1, r2, r3⟩ := s_rng h
  have hm : mg Ieee.single x ≠ 0 := fun hh => z (mg_zero.1 hh)
  have l := log_24 hm r3
  exact rd_exact (f := Ieee.double) _ _ (pl Ieee.single x + (mg Ieee.single x).log2 - 52 + 1074).toNat _ hm (by show _ ≤ 52; omega) (by rw [lp2]; show _ + _ - (52 : Int) = _; omega) (by show _ + 2 ≤ 2047; omega)
theorem inf_not {f : Ieee.Format} (ht : Two f) {a : Nat} (h : sz f a < f.infRung) : (f.read a).isInfinity = false := by
  rw [read_fin ht h]; rfl
theorem t1 : Two Ieee.single := Or.inl rfl
theorem t2 : Two Ieee.double := Or.inr rfl
theorem prom_lt (x : Nat) : prom x < 2 ^ 64 := by
  unfold prom rd
  have h := inf_lt Ieee.double
  split
  · exact (word_sz Ieee.double _ (sw_pos _)).2.2
  · exact (word_sz Ieee.double _ (Nat.lt_of_le_of_lt (Nat.min_le_right _ _) h)).2.2
theorem prom_sz {x : Nat} (h : sz Ieee.single x < Ieee.single.infRung) : sz Ieee.double (prom x) < Ieee.double.infRung := by
  by_cases z : sz Ieee.single x = 0
  · rw [prom_zero z, (word_sz Ieee.double _ (sw_pos _)).1]; decide
  · exact (prom_fin h z).1
/- The conversions' own words. -/
theorem prom_bits {x : Nat} (h : sz Ieee.single x < Ieee.single.infRung) : floatToFloatBits .f32 x .f64 = some (prom x) := by
  unfold floatToFloatBits
  rw [if_neg (by decide), dec_k]
  show (match Ieee.single.read x with | .nan _ _ => none | .infinity s => some (FloatKind.f64.encode (.infinity s)) | .number s m e => if (FloatKind.f64.decode (FloatKind.f64.encode (.number s m e))).isInfinity then none else some (FloatKind.f64.encode (.number s m e))) = _
  rw [read_fin t1 h]
  show (if (FloatKind.f64.decode (FloatKind.f64.encode (.number (ng Ieee.single x) (mg Ieee.single x) (pl Ieee.single x)))).isInfinity then none else some (FloatKind.f64.encode (.number (ng Ieee.single x) (mg Ieee.single x) (pl Ieee.single x)))) = _
  rw [enc_fin, dec_k]
  show (if (Ieee.double.read (prom x)).isInfinity then none else some (prom x)) = _
  rw [inf_not t2 (prom_sz h)]; rfl
theorem dem_rd {x : Nat} (hx : x < 2 * Ieee.single.signWeight) (h : sz Ieee.single x < Ieee.single.infRung) : rd Ieee.single (ng Ieee.double (prom x)) (mg Ieee.double (prom x)) false (pl Ieee.double (prom x)) = x := by
  by_cases z : sz Ieee.single x = 0
  · obtain ⟨w1, w2, _⟩ := word_sz Ieee.double (ng Ieee.single x) (r := 0) (sw_pos _)
    rw [prom_zero z, w2, mg_zero.2 w1]
    conv => rhs; rw [← rd_back t1 hx h, mg_zero.2 z]
    unfold rd
    rw [if_pos rfl, if_pos rfl]
  · obtain ⟨_, p2, p3, p4, _⟩ := prom_fin h z
    rw [p2, p3, p4, rd_scale, rd_back t1 hx h]
theorem dem_bits {x : Nat} (hx : x < 2 * Ieee.single.signWeight) (h : sz Ieee.single x < Ieee.single.infRung) : floatToFloatBits .f64 (prom x) .f32 = some x := by
  unfold floatToFloatBits
  rw [if_neg (by decide), dec_k]
  show (match Ieee.double.read (prom x) with | .nan _ _ => none | .infinity s => some (FloatKind.f32.encode (.infinity s)) | .number s m e => if (FloatKind.f32.decode (FloatKind.f32.encode (.number s m e))).isInfinity then none else some (FloatKind.f32.encode (.number s m e))) = _
  rw [read_fin t2 (prom_sz h)]
  show (if (FloatKind.f32.decode (FloatKind.f32.encode (.number (ng Ieee.double (prom x)) (mg Ieee.double (prom x)) (pl Ieee.double (prom x))))).isInfinity then none else some (FloatKind.f32.encode (.number (ng Ieee.double (prom x)) (mg Ieee.double (prom x)) (pl Ieee.double (prom x))))) = _
  rw [enc_fin, dec_k]
  show (if (Ieee.single.read (rd Ieee.single (ng Ieee.double (prom x)) (mg Ieee.double (prom x)) false (pl Ieee.double (prom x)))).isInfinity then none else some (rd Ieee.single (ng Ieee.double (prom x)) (mg Ieee.double (prom x)) false (pl Ieee.double (prom x)))) = _
  rw [dem_rd hx h, inf_not t1 h]; rfl
theorem inf_bits32 {x : Nat} (h : sz Ieee.single x = Ieee.single.infRung) : floatToFloatBits .f32 x .f64 = some (Ieee.double.word (ng Ieee.single x) Ieee.double.infRung) := by
  unfold floatToFloatBits
  rw [if_neg (by decide), dec_k]
  show (match Ieee.single.read x with | .nan _ _ => none | .infinity s => some (FloatKind.f64.encode (.infinity s)) | .number s m e => if (FloatKind.f64.decode (FloatKind.f64.encode (.number s m e))).isInfinity then none else some (FloatKind.f64.encode (.number s m e))) = _
  rw [read_inf t1 h]; rfl
theorem inf_bits64 (s : Bool) : floatToFloatBits .f64 (Ieee.double.word s Ieee.double.infRung) .f32 = some (Ieee.single.word s Ieee.single.infRung) := by
  cases s <;> decide
end Go.Proofs.YtjkebimmddlccaaDoor
