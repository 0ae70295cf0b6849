/-
  Plain facts on a root rounded twice: to 53 digits and then to 24; no statement is proved here.
-/
import Derived.Test.YtjkebimmddlccaaDoorRtM
namespace Go.Proofs.YtjkebimmddlccaaDoor
set_option linter.unusedVariables false
set_option linter.unusedSimpArgs false

theorem rne_2 (q : Nat) (st : Bool) : rne q 2 st = q / 4 + (if q / 2 % 2 = 1 ∧ (st = true ∨ q % 2 ≠ 0 ∨ q / 4 % 2 = 1) then 1 else 0) := rfl
theorem rne_29 (q : Nat) : rne q 29 false = q / 536870912 + (if q / 268435456 % 2 = 1 ∧ (false = true ∨ q % 268435456 ≠ 0 ∨ q / 536870912 % 2 = 1) then 1 else 0) := rfl
theorem rne_31 (q : Nat) (st : Bool) : rne q 31 st = q / 2147483648 + (if q / 1073741824 % 2 = 1 ∧ (st = true ∨ q % 1073741824 ≠ 0 ∨ q / 2147483648 % 2 = 1) then 1 else 0) := rfl
/- Twice is once, but where the first rounding falls on a middle. -/
theorem twice (q V : Nat) (st : Bool) (hV : V = rne q 2 st) (hno : ¬ (V % 536870912 = 268435456 ∧ (q % 4 ≠ 0 ∨ st = true))) : rne q 31 st = rne V 29 false := by
  rw [rne_2] at hV
  rw [rne_29, rne_31]
  cases st
  · simp only [Bool.false_eq_true, false_or, or_false] at hV hno ⊢
    split at hV <;> split <;> split <;> omega
  · simp only [true_or, or_true, and_true, Bool.false_eq_true, false_or] at hV hno ⊢
    split at hV <;> split <;> split <;> omega
theorem sq1 (X : Nat) : (X + 1) * (X + 1) = X * X + 2 * X + 1 := by rw [Nat.add_mul, Nat.mul_add]; omega
theorem sq2 (X : Nat) : (X + 2) * (X + 2) = X * X + 4 * X + 4 := by rw [Nat.add_mul, Nat.mul_add]; omega
theorem sq3 (X : Nat) : (X + 3) * (X + 3) = X * X + 6 * X + 9 := by rw [Nat.add_mul, Nat.mul_add]; omega
theorem apart60 {n S : Nat} (h1 : n % 1152921504606846976 = 0) (h2 : S % 1152921504606846976 = 0) (h3 : n ≠ S) (h4 : n < S + 1152921504606846976) (h5 : S < n + 1152921504606846976) : False := by omega
/- No root falls so near to a middle. -/
theorem nomid (q n V : Nat) (st : Bool) (hq : IsR q n) (hst : st = decide (n ≠ q * q)) (hV : V = rne q 2 st) (hb : q < 36028797018963968) (hn : n % 1152921504606846976 = 0) : ¬ (V % 536870912 = 268435456 ∧ (q % 4 ≠ 0 ∨ st = true)) := by
  rintro ⟨h1, h2⟩
  rw [rne_2] at hV
  obtain ⟨Hh, hH⟩ : ∃ H : Nat, V = H * 268435456 := ⟨V / 268435456, by omega⟩
  have hS : (4 * V) * (4 * V) % 1152921504606846976 = 0 := by
    rw [hH, show 4 * (Hh * 268435456) = Hh * 1073741824 from by omega, sq_mul, show 1073741824 * 1073741824 = 1152921504606846976 from rfl, Nat.mul_mod_left]
  obtain ⟨X, hX⟩ : ∃ X, X = 4 * V := ⟨_, rfl⟩
  rw [← hX] at hS
  obtain ⟨q0, q1⟩ := hq
  have hd : q = X ∨ q = X + 1 ∨ q = X + 2 ∨ X = q + 1 ∨ X = q + 2 := by
    split at hV <;> omega
  have hXb : X ≤ 36028797018963970 := by split at hV <;> omega
  clear hV h1 hH
  rcases hd with rfl | rfl | rfl | rfl | rfl
  · have hne : n ≠ q * q := by
      rcases h2 with h2 | h2
      · exfalso; omega
      · rw [hst] at h2; exact of_decide_eq_true h2
    rw [sq1] at q1
    exact apart60 hn hS hne (by omega) (by omega)
  · rw [sq1] at q0
    rw [show X + 1 + 1 = X + 2 from rfl, sq2] at q1
    exact apart60 hn hS (by omega) (by omega) (by omega)
  · rw [sq2] at q0
    rw [show X + 2 + 1 = X + 3 from rfl, sq3] at q1
    exact apart60 hn hS (by omega) (by omega) (by omega)
  · rw [sq1] at q1 hS
    exact apart60 hn hS (by omega) (by omega) (by omega)
  · rw [sq1] at q1
    rw [sq2] at hS
    exact apart60 hn hS (by omega) (by omega) (by omega)
theorem log_54 {q : Nat} (h0 : 18014398509481984 ≤ q) (h1 : q < 36028797018963968) : q.log2 = 54 := by
  apply log2_of
  · rw [show (2 : Nat) ^ 54 = 18014398509481984 from by decide]; exact h0
  · rw [show (2 : Nat) ^ (54 + 1) = 36028797018963968 from by decide]; exact h1
/- The wide root's parts. -/
theorem wide_parts (q : Nat) (st : Bool) (p : Int) (h0 : 18014398509481984 ≤ q) (h1 : q < 36028797018963968) (p0 : -1000 ≤ p) (p1 : p ≤ 900) :
    sz Ieee.double (rd Ieee.double false q st p) < Ieee.double.infRung ∧ ∀ (f : Ieee.Format), rd f (ng Ieee.double (rd Ieee.double false q st p)) (mg Ieee.double (rd Ieee.double false q st p)) false (pl Ieee.double (rd Ieee.double false q st p)) = rd f false (rne q 2 st) false (p + 2) := by
  have l := log_54 h0 h1
  have hlast : lastR Ieee.double q p = p + 2 := by
    unfold lastR; rw [l, lp2]; show max (p + 54 - 52) (-1074) = _; omega
  obtain ⟨T, hT⟩ : ∃ T : Nat, (T : Int) = p + 2 + 1074 := ⟨(p + 2 + 1074).toNat, by omega⟩
  have hr : rungR Ieee.double q st p = T * Ieee.double.binade + rne q 2 st := by
    unfold rungR
    rw [hlast, lp2, show (p + 2 - -1074).toNat = T from by omega, show (p - (p + 2)).toNat = 0 from by omega, show (p + 2 - p).toNat = 2 from by omega, Nat.shiftLeft_zero]
  have hV0 : 4503599627370496 ≤ rne q 2 st := by rw [rne_2]; split <;> omega
  have hV1 : rne q 2 st ≤ 9007199254740992 := by rw [rne_2]; split <;> omega
  generalize rne q 2 st = V at *
  have hi : T * Ieee.double.binade + V < Ieee.double.infRung := by rw [bn2, ir2]; omega
  have hrd : rd Ieee.double false q st p = Ieee.double.word false (T * Ieee.double.binade + V) := by
    unfold rd
    rw [if_neg (by omega), hr, Nat.min_eq_left (Nat.le_of_lt hi)]
  rw [hrd]
  by_cases c : V < 9007199254740992
  · obtain ⟨e1, e2, e3, e4⟩ := rung_parts (f := Ieee.double) false T V (by rw [bn2]; exact hV0) (by rw [bn2]; omega) hi
    refine ⟨by rw [e1]; exact hi, fun f => ?_⟩
    rw [e2, e3, e4, lp2, show (-1074 : Int) + (T : Int) = p + 2 from by omega]
  · have hVe : V = 9007199254740992 := by omega
    have er : T * Ieee.double.binade + V = (T + 1) * Ieee.double.binade + Ieee.double.binade := by rw [bn2, hVe]; omega
    rw [er] at hi ⊢
    obtain ⟨e1, e2, e3, e4⟩ := rung_parts (f := Ieee.double) false (T + 1) Ieee.double.binade (Nat.le_refl _) (by rw [bn2]; decide) hi
    refine ⟨by rw [e1]; exact hi, fun f => ?_⟩
    rw [e2, e3, e4, lp2, show (-1074 : Int) + ((T + 1 : Nat) : Int) = p + 3 from by omega]
    have := rd_scale f false Ieee.double.binade 1 (p + 3)
    rw [show p + 3 - ((1 : Nat) : Int) = p + 2 from by omega] at this
    rw [← this, hVe, bn2]
/- Both ways to the narrow root. -/
theorem narrow_root (q n : Nat) (st : Bool) (p : Int) (hq : IsR q n) (hst : st = decide (n ≠ q * q)) (h0 : 18014398509481984 ≤ q) (h1 : q < 36028797018963968) (hn : n % 1152921504606846976 = 0) (p0 : -180 ≤ p) (p1 : p ≤ 60) :
    rd Ieee.single false (rne q 2 st) false (p + 2) = rd Ieee.single false q st p ∧ sz Ieee.single (rd Ieee.single false q st p) < Ieee.single.infRung := by
  have ht := twice q _ st rfl (nomid q n _ st hq hst rfl h1 hn)
  have l := log_54 h0 h1
  have hV0 : 4503599627370496 ≤ rne q 2 st := by rw [rne_2]; split <;> omega
  have hV1 : rne q 2 st ≤ 9007199254740992 := by rw [rne_2]; split <;> omega
  have hlast : lastR Ieee.single q p = p + 31 := by
    unfold lastR; rw [l, lp1]; show max (p + 54 - 23) (-149) = _; omega
  obtain ⟨T, hT⟩ : ∃ T : Nat, (T : Int) = p + 31 + 149 := ⟨(p + 31 + 149).toNat, by omega⟩
  have hr : rungR Ieee.single q st p = T * 8388608 + rne q 31 st := by
    unfold rungR
    rw [hlast, lp1, bn1, show (p + 31 - -149).toNat = T from by omega, show (p - (p + 31)).toNat = 0 from by omega, show (p + 31 - p).toNat = 31 from by omega, Nat.shiftLeft_zero]
  have hr2 : rungR Ieee.single (rne q 2 st) false (p + 2) = T * 8388608 + rne (rne q 2 st) 29 false := by
    generalize rne q 2 st = V at *
    by_cases c : V < 9007199254740992
    · have lv : V.log2 = 52 := log2_of hV0 c
      have hl2 : lastR Ieee.single V (p + 2) = p + 31 := by
        unfold lastR; rw [lv, lp1]; show max (p + 2 + 52 - 23) (-149) = _; omega
      unfold rungR
      rw [hl2, lp1, bn1, show (p + 31 - -149).toNat = T from by omega, show (p + 2 - (p + 31)).toNat = 0 from by omega, show (p + 31 - (p + 2)).toNat = 29 from by omega, Nat.shiftLeft_zero]
    · have hVe : V = 9007199254740992 := by omega
      rw [hVe]
      have lv : (9007199254740992 : Nat).log2 = 53 := log2_of (by decide) (by decide)
      have hl2 : lastR Ieee.single 9007199254740992 (p + 2) = p + 32 := by
        unfold lastR; rw [lv, lp1]; show max (p + 2 + 53 - 23) (-149) = _; omega
      unfold rungR
      rw [hl2, lp1, bn1, show (p + 32 - -149).toNat = T + 1 from by omega, show (p + 2 - (p + 32)).toNat = 0 from by omega, show (p + 32 - (p + 2)).toNat = 30 from by omega, Nat.shiftLeft_zero, show rne 9007199254740992 30 false = 8388608 from rfl, show rne 9007199254740992 29 false = 16777216 from rfl]
      omega
  have hup : rne q 31 st ≤ 16777216 := by rw [rne_31]; split <;> omega
  constructor
  · unfold rd
    rw [if_neg (by omega), if_neg (by omega), hr, hr2, ht]
  · unfold rd
    rw [if_neg (by omega), hr]
    have hi : T * 8388608 + rne q 31 st < Ieee.single.infRung := by rw [ir1]; omega
    rw [Nat.min_eq_left (Nat.le_of_lt hi), (word_sz Ieee.single false (Nat.lt_trans hi (inf_lt _))).1]
    exact hi
/- The root of a narrow float within a wide one. -/
theorem sqrt_prom {x : Nat} (h : sz Ieee.single x < Ieee.single.infRung) (z : sz Ieee.single x ≠ 0) (hn : ng Ieee.single x = false) (c r : Nat) (hc : 109 ≤ c + (mg Ieee.single x).log2) (hc2 : c ≤ 124) (hp : (pl Ieee.single x - c) % 2 = 0) (hr : IsR r (mg Ieee.single x * 2 ^ c)) :
    ∃ Y, Ieee.double.sqrt (prom x) = some Y ∧ sz Ieee.double Y < Ieee.double.infRung ∧ floatToFloatBits .f64 Y .f32 = some (rd Ieee.single false r (decide (mg Ieee.single x * 2 ^ c ≠ r * r)) ((pl Ieee.single x - c) / 2)) := by
  obtain ⟨g1, g2, g3, g4, g5⟩ := prom_fin h z
  obtain ⟨r1, r2, r3⟩ := s_rng h
  have hm : mg Ieee.single x ≠ 0 := fun hh => z (mg_zero.1 hh)
  have lg := log_24 hm r3
  have zz : sz Ieee.double (prom x) ≠ 0 := fun hh => by
    have := mg_zero.2 hh
    rw [g3] at this
    rcases Nat.mul_eq_zero.1 this with h1 | h1
    · exact hm h1
    · have := Nat.two_pow_pos (52 - (mg Ieee.single x).log2); omega
  obtain ⟨mo, q, hmo, hpar, hq, hbig, hs⟩ := sqrt_q t2 g1 zz (by rw [g2]; exact hn)
  have lgd : (mg Ieee.double (prom x)).log2 = 52 := by
    rw [g3]
    obtain ⟨b1, b2⟩ := shl_bin (f := Ieee.double) hm (by show _ ≤ 52; omega)
    exact log2_of b1 (by rw [Nat.pow_succ, Nat.mul_comm (2 ^ 52) 2]; exact b2)
  rw [lgd] at hmo
  have hmo2 : mo = 56 ∨ mo = 57 := hmo
  have hbig2 : 18014398509481984 ≤ q := hbig
  have hfull : mg Ieee.double (prom x) * 2 ^ mo = mg Ieee.single x * 2 ^ (52 - (mg Ieee.single x).log2 + mo) := by rw [g3, Nat.mul_assoc, ← Nat.pow_add]
  have hup : q < 36028797018963968 := by
    rcases Nat.lt_or_ge q 36028797018963968 with c1 | c1
    · exact c1
    · exfalso
      have e1 := hq.1
      have e2 : 36028797018963968 * 36028797018963968 ≤ q * q := Nat.mul_le_mul c1 c1
      have e3 : mg Ieee.double (prom x) < 2 ^ 53 := mg_lt (f := Ieee.double) (prom x)
      have e4 : mg Ieee.double (prom x) * 2 ^ mo < 2 ^ 53 * 2 ^ 57 := Nat.lt_of_lt_of_le (Nat.mul_lt_mul_of_pos_right e3 (Nat.two_pow_pos mo)) (Nat.mul_le_mul_left _ (Nat.pow_le_pow_right (by decide) (by omega)))
      have e5 : (2 : Nat) ^ 53 * 2 ^ 57 = 36028797018963968 * 36028797018963968 := by decide
      omega
  have hn60 : mg Ieee.double (prom x) * 2 ^ mo % 1152921504606846976 = 0 := by
    rw [hfull]
    exact dvd_mod (D := 60) _ (by omega)
  have hpl : pl Ieee.double (prom x) - mo = pl Ieee.single x - ((52 - (mg Ieee.single x).log2 + mo : Nat) : Int) := by rw [g4]; push_cast; omega
  have hP0 : -180 ≤ (pl Ieee.double (prom x) - mo) / 2 := by rw [g4]; omega
  have hP1 : (pl Ieee.double (prom x) - mo) / 2 ≤ 60 := by rw [g4]; omega
  obtain ⟨w1, w2⟩ := wide_parts q (decide (mg Ieee.double (prom x) * 2 ^ mo ≠ q * q)) ((pl Ieee.double (prom x) - mo) / 2) hbig2 hup (by omega) (by omega)
  obtain ⟨n1, n2⟩ := narrow_root q _ _ ((pl Ieee.double (prom x) - mo) / 2) hq rfl hbig2 hup hn60 hP0 hP1
  refine ⟨_, hs, w1, ?_⟩
  have hfin : rd Ieee.single false r (decide (mg Ieee.single x * 2 ^ c ≠ r * r)) ((pl Ieee.single x - c) / 2) = rd Ieee.single false q (decide (mg Ieee.double (prom x) * 2 ^ mo ≠ q * q)) ((pl Ieee.double (prom x) - mo) / 2) := by
    obtain ⟨k, hk⟩ : ∃ k : Nat, c = 52 - (mg Ieee.single x).log2 + mo + 2 * k := ⟨(c - (52 - (mg Ieee.single x).log2 + mo)) / 2, by rw [hpl] at hpar; omega⟩
    have e4 : mg Ieee.single x * 2 ^ c = mg Ieee.double (prom x) * 2 ^ mo * 4 ^ k := by
      rw [hfull, hk, Nat.pow_add, Nat.pow_mul, ← Nat.mul_assoc]
    rw [e4] at hr ⊢
    have := rd_root (f := Ieee.single) ((pl Ieee.double (prom x) - mo) / 2) hq hr (Nat.le_trans (by decide) hbig2)
    rw [← this]
    congr 1
    rw [hpl]
    rw [hpl] at hpar
    omega
  rw [hfin]
  generalize rd Ieee.double false q (decide (mg Ieee.double (prom x) * 2 ^ mo ≠ q * q)) ((pl Ieee.double (prom x) - mo) / 2) = Y at *
  unfold floatToFloatBits
  rw [if_neg (by decide), dec_k]
  show (match Ieee.double.read Y with | .nan _ _ => none | .infinity s => some (FloatKind.f32.encode (.infinity s)) | .number s m e => if (FloatKind.f32.decode (FloatKind.f32.encode (.number s m e))).isInfinity then none else some (FloatKind.f32.encode (.number s m e))) = _
  rw [read_fin t2 w1]
  show (if (FloatKind.f32.decode (FloatKind.f32.encode (.number (ng Ieee.double Y) (mg Ieee.double Y) (pl Ieee.double Y)))).isInfinity then none else some (FloatKind.f32.encode (.number (ng Ieee.double Y) (mg Ieee.double Y) (pl Ieee.double Y)))) = _
  rw [enc_fin, dec_k]
  show (if (Ieee.single.read (rd Ieee.single (ng Ieee.double Y) (mg Ieee.double Y) false (pl Ieee.double Y))).isInfinity then none else some (rd Ieee.single (ng Ieee.double Y) (mg Ieee.double Y) false (pl Ieee.double Y))) = _
  rw [w2 Ieee.single, n1, inf_not t1 n2]; rfl
end Go.Proofs.YtjkebimmddlccaaDoor
