/-
  Plain facts on sums, products and quotients of floats; no statement is proved here.
-/
import Derived.Test.YtjkebimmddlccaaDoorValM
namespace Go.Proofs.YtjkebimmddlccaaDoor
set_option linter.unusedVariables false
set_option linter.unusedSimpArgs false

theorem rd_scale (f : Ieee.Format) (neg : Bool) (W k : Nat) (e : Int) : rd f neg (W * 2 ^ k) false (e - k) = rd f neg W false e := by
  have g := Nat.two_pow_pos k
  by_cases h : W = 0
  · subst h; simp [rd]
  · have e1 : W * 2 ^ k / 2 ^ k = W := Nat.mul_div_cancel _ g
    have := rd_shift f neg (W * 2 ^ k) k false (e - k) (by rw [e1]; exact h) (Or.inl ⟨rfl, Nat.mul_mod_left _ _⟩)
    rw [e1, Nat.mul_mod_left, Int.sub_add_cancel] at this
    simpa using this
theorem last_gt (f : Ieee.Format) {W : Nat} (e : Int) (h : 2 ^ (f.fractionBits + 1) ≤ W) : e < lastR f W e := by
  have hp := Nat.two_pow_pos (f.fractionBits + 1)
  have b : f.fractionBits + 1 ≤ W.log2 := (Nat.le_log2 (by omega)).2 h
  unfold lastR
  omega
theorem mg_lt {f : Ieee.Format} (a : Nat) : mg f a < 2 ^ (f.fractionBits + 1) := by
  have hb := binade_pos f
  have := Nat.mod_lt (sz f a) hb
  unfold mg
  rw [Nat.pow_succ]
  show _ < f.binade * 2
  split <;> omega
theorem mg_big {f : Ieee.Format} {a : Nat} (h : ex f a ≠ 0) : f.binade ≤ mg f a := by
  unfold ex at h
  unfold mg
  split
  · rename_i c; rw [Nat.div_eq_of_lt c] at h; simp at h
  · omega
theorem mg_zero {f : Ieee.Format} {a : Nat} : mg f a = 0 ↔ sz f a = 0 := by
  have hb := binade_pos f
  unfold mg
  split
  · rfl
  · omega
theorem ex_le {f : Ieee.Format} {a b : Nat} (h : sz f b ≤ sz f a) : ex f b ≤ ex f a := by
  unfold ex; have := Nat.div_le_div_right (c := f.binade) h; omega
theorem read_add {f : Ieee.Format} {a b : Nat} (ht : Two f) (fa : sz f a < f.infRung) (fb : sz f b < f.infRung) (h : sz f b ≤ sz f a) :
    f.add a b = some (let total := Ieee.signed (ng f a) (mg f a) (ex f a - ex f b) + Ieee.signed (ng f b) (mg f b) 0
      f.nearest (if total = 0 then ng f a && ng f b else total < 0) total.natAbs (pl f b)) := by
  unfold Ieee.Format.add
  rw [read_fin ht fa, read_fin ht fb]
  have hx := ex_le h
  have e1 : min (pl f a) (pl f b) = pl f b := by unfold pl; omega
  have e2 : (pl f a - pl f b).toNat = ex f a - ex f b := by unfold pl; omega
  have e3 : (pl f b - pl f b).toNat = 0 := by omega
  simp only [Ieee.Datum.sum, e1, e2, e3, Option.map]
  rfl
theorem val_le {f : Ieee.Format} {a b : Nat} (h : sz f b ≤ sz f a) : mg f b ≤ mg f a * 2 ^ (ex f a - ex f b) := by
  have hx := ex_le h
  have hv : val f (sz f b) ≤ val f (sz f a) := by
    rcases Nat.lt_or_eq_of_le h with h | h
    · exact Nat.le_of_lt (val_mono f h)
    · rw [h]; exact Nat.le_refl _
  rw [← val_mg, ← val_mg] at hv
  have : ex f a = (ex f a - ex f b) + ex f b := by omega
  rw [this, Nat.pow_add, ← Nat.mul_assoc] at hv
  exact Nat.le_of_mul_le_mul_right hv (Nat.two_pow_pos _)
theorem dvd_mod {D K : Nat} (n : Nat) (h : D ≤ K) : n * 2 ^ K % 2 ^ D = 0 := by
  have : 2 ^ K = 2 ^ (K - D) * 2 ^ D := by rw [← Nat.pow_add]; congr 1; omega
  rw [this, ← Nat.mul_assoc, Nat.mul_mod_left]
theorem signed_same (s : Bool) (m D n : Nat) : Ieee.signed s m D + Ieee.signed s n 0 = if s then -((m * 2 ^ D + n : Nat) : Int) else ((m * 2 ^ D + n : Nat) : Int) := by
  unfold Ieee.signed
  rw [Nat.shiftLeft_eq, Nat.shiftLeft_zero]
  generalize m * 2 ^ D = x
  cases s <;> simp <;> omega
theorem signed_other (s : Bool) (m D n : Nat) (h : n ≤ m * 2 ^ D) : Ieee.signed s m D + Ieee.signed (!s) n 0 = if s then -((m * 2 ^ D - n : Nat) : Int) else ((m * 2 ^ D - n : Nat) : Int) := by
  unfold Ieee.signed
  rw [Nat.shiftLeft_eq, Nat.shiftLeft_zero]
  generalize m * 2 ^ D = x at *
  cases s <;> simp <;> omega
theorem pick_near (f : Ieee.Format) (s z : Bool) (N : Nat) (p : Int) (hN : N ≠ 0) (t : Int) (ht : t = if s then -(N : Int) else (N : Int)) :
    f.nearest (if t = 0 then z else t < 0) t.natAbs p = f.nearest s N p := by
  subst ht
  cases s
  · simp only [Bool.false_eq_true, if_false]
    rw [if_neg (by omega)]
    have : decide ((N : Int) < 0) = false := by simp
    simp only [this]; congr 1
  · simp only [if_true]
    rw [if_neg (by omega)]
    have : decide (-(N : Int) < 0) = true := by simp; omega
    simp only [this, Int.natAbs_neg]; congr 1
theorem near_same (f : Ieee.Format) (s : Bool) (m n D K : Nat) (p : Int) (hK : 1 ≤ K) (hm : m ≠ 0) (big : K < D → f.binade ≤ m) :
    f.nearest s (m * 2 ^ D + n) p = rd f s (m * 2 ^ K + n * 2 ^ K / 2 ^ D) (decide (n * 2 ^ K % 2 ^ D ≠ 0)) (p + D - K) := by
  have e1 : (m * 2 ^ D + n) * 2 ^ K / 2 ^ D = m * 2 ^ K + n * 2 ^ K / 2 ^ D := by
    rw [Nat.add_mul, Nat.mul_right_comm, Nat.add_comm, Nat.add_mul_div_right _ _ (Nat.two_pow_pos _), Nat.add_comm]
  have e2 : (m * 2 ^ D + n) * 2 ^ K % 2 ^ D = n * 2 ^ K % 2 ^ D := by
    rw [Nat.add_mul, Nat.mul_right_comm, Nat.add_comm, Nat.add_mul_mod_self_right]
  have nz : m * 2 ^ K + n * 2 ^ K / 2 ^ D ≠ 0 := by
    have : 0 < m * 2 ^ K := Nat.mul_pos (by omega) (Nat.two_pow_pos _)
    generalize n * 2 ^ K / 2 ^ D = y
    omega
  rw [nearest_rd, ← rd_scale f _ _ K, rd_shift f _ _ D _ _ (by rw [e1]; exact nz) ?_, e1, e2]
  · rw [Bool.false_or, show p - (K : Int) + (D : Int) = p + D - K from by omega]
  · rw [e1, e2]
    by_cases hd : D ≤ K
    · exact Or.inl ⟨rfl, dvd_mod n hd⟩
    · refine Or.inr (last_gt f _ (Nat.le_trans ?_ (Nat.le_add_right _ _)))
      calc 2 ^ (f.fractionBits + 1) ≤ 2 ^ (f.fractionBits + K) := Nat.pow_le_pow_right (by omega) (by omega)
        _ = f.binade * 2 ^ K := Nat.pow_add ..
        _ ≤ m * 2 ^ K := Nat.mul_le_mul_right _ (big (by omega))
/- A sum of two finite floats of one sign, as the document reckons it. -/
theorem add_same {f : Ieee.Format} {a b : Nat} (ht : Two f) (fa : sz f a < f.infRung) (fb : sz f b < f.infRung) (h : sz f b ≤ sz f a) (ha : sz f a ≠ 0) (hs : ng f a = ng f b) (K : Nat) (hK : 1 ≤ K) :
    f.add a b = some (rd f (ng f a) (mg f a * 2 ^ K + mg f b * 2 ^ K / 2 ^ (ex f a - ex f b)) (decide (mg f b * 2 ^ K % 2 ^ (ex f a - ex f b) ≠ 0)) (pl f a - K)) := by
  rw [read_add ht fa fb h, ← hs]
  have hm : mg f a ≠ 0 := fun z => ha (mg_zero.1 z)
  have hpl : pl f a = pl f b + (ex f a - ex f b : Nat) := by have := ex_le h; unfold pl; omega
  have key := near_same f (ng f a) (mg f a) (mg f b) (ex f a - ex f b) K (pl f b) hK hm (fun hd => mg_big (by omega))
  rw [← hpl] at key
  rw [← key]
  congr 1
  have hN : mg f a * 2 ^ (ex f a - ex f b) + mg f b ≠ 0 := by have : 0 < mg f a * 2 ^ (ex f a - ex f b) := Nat.mul_pos (by omega) (Nat.two_pow_pos _); omega
  exact pick_near f (ng f a) _ _ _ hN _ (signed_same ..)
/- What is taken off: the difference's digits, and whether something is left below them. -/
theorem sub_div (A n g : Nat) (hg : 0 < g) (h : n ≤ A * g) : (A * g - n) / g = A - n / g - (if n % g ≠ 0 then 1 else 0) ∧ ((A * g - n) % g ≠ 0 ↔ n % g ≠ 0) := by
  have dm := Nat.div_add_mod n g
  have ml := Nat.mod_lt n hg
  have hle : n / g ≤ A := Nat.div_le_of_le_mul (by rw [Nat.mul_comm]; exact h)
  by_cases z : n % g = 0
  · have : A * g - n = (A - n / g) * g := by rw [Nat.sub_mul, Nat.mul_comm (n / g)]; omega
    rw [this, Nat.mul_div_cancel _ hg, Nat.mul_mod_left]
    simp [z]
  · have h1 : n / g + 1 ≤ A := by
      rcases Nat.lt_or_ge (n / g) A with h1 | h1
      · exact h1
      · have : A * g ≤ n / g * g := Nat.mul_le_mul_right _ h1
        rw [Nat.mul_comm (n / g)] at this
        omega
    obtain ⟨c, hc⟩ : ∃ c, A = n / g + 1 + c := ⟨A - (n / g + 1), by omega⟩
    have e : A * g - n = c * g + (g - n % g) := by
      rw [hc, Nat.add_mul, Nat.add_mul, Nat.one_mul, Nat.mul_comm (n / g)]
      omega
    have l : g - n % g < g := by generalize n % g = y at *; omega
    rw [e, Nat.add_comm, Nat.add_mul_div_right _ _ hg, Nat.add_mul_mod_self_right, Nat.div_eq_of_lt l, Nat.mod_eq_of_lt l]
    rw [if_pos z]
    constructor
    · omega
    · constructor
      · intro _; exact z
      · intro _; omega
/- The difference's digits behind K more of them: not too few where something is cut off. -/
theorem near_diff (f : Ieee.Format) (s : Bool) (m n D K : Nat) (p : Int) (hK : 3 ≤ K) (hle : n ≤ m * 2 ^ D) (hn : n < 2 ^ (f.fractionBits + 1)) (big : K < D → f.binade ≤ m) (V : Nat) (more : Bool)
    (hV : V = n * 2 ^ K / 2 ^ D) (hm : more = decide (n * 2 ^ K % 2 ^ D ≠ 0)) :
    (m * 2 ^ K - V - more.toNat = 0 → more = false) ∧ V + more.toNat ≤ m * 2 ^ K ∧ (m * 2 ^ K - V - more.toNat = 0 ↔ m * 2 ^ D - n = 0) ∧
    (m * 2 ^ D - n ≠ 0 → f.nearest s (m * 2 ^ D - n) p = rd f s (m * 2 ^ K - V - more.toNat) more (p + D - K)) := by
  have gK := Nat.two_pow_pos K
  have gD := Nat.two_pow_pos D
  have sd := sub_div (m * 2 ^ K) (n * 2 ^ K) (2 ^ D) gD (by rw [Nat.mul_right_comm]; exact Nat.mul_le_mul_right _ hle)
  have hmt : more.toNat = if n * 2 ^ K % 2 ^ D ≠ 0 then 1 else 0 := by subst hm; by_cases z : n * 2 ^ K % 2 ^ D = 0 <;> simp [z]
  rw [← hV, ← hmt] at sd
  have e0 : m * 2 ^ K * 2 ^ D - n * 2 ^ K = (m * 2 ^ D - n) * 2 ^ K := by rw [Nat.sub_mul, Nat.mul_right_comm]
  rw [e0] at sd
  obtain ⟨sd1, sd2⟩ := sd
  have Vle : V + more.toNat ≤ m * 2 ^ K := by
    by_cases z : n * 2 ^ K % 2 ^ D = 0
    · rw [hmt, if_neg (by simp [z]), Nat.add_zero, hV]
      exact Nat.div_le_of_le_mul (by rw [← Nat.mul_assoc, Nat.mul_comm (2 ^ D)]; exact Nat.mul_le_mul_right _ hle)
    · rw [hmt, if_pos z, hV]
      have : n * 2 ^ K / 2 ^ D < m * 2 ^ K := by
        apply Nat.div_lt_of_lt_mul
        rw [← Nat.mul_assoc, Nat.mul_comm (2 ^ D)]
        rcases Nat.lt_or_eq_of_le hle with hl | hl
        · exact Nat.mul_lt_mul_of_pos_right hl gK
        · exfalso; apply z; rw [hl, Nat.mul_right_comm, Nat.mul_mod_left]
      omega
  have rbig : ¬ D ≤ K → 2 ^ (f.fractionBits + 1) ≤ m * 2 ^ K - V - more.toNat := fun hd => by
    have hb := big (by omega)
    have m1 : more.toNat ≤ 1 := by cases more <;> simp
    have v1 : V ≤ 2 ^ (f.fractionBits + 1) := by
      rw [hV]
      apply Nat.div_le_of_le_mul
      have : 2 ^ K ≤ 2 ^ D := Nat.pow_le_pow_right (by omega) (by omega)
      calc n * 2 ^ K ≤ 2 ^ (f.fractionBits + 1) * 2 ^ D := Nat.mul_le_mul (Nat.le_of_lt hn) this
        _ = 2 ^ D * 2 ^ (f.fractionBits + 1) := Nat.mul_comm _ _
    have h8 : 2 ^ 3 ≤ 2 ^ K := Nat.pow_le_pow_right (by omega) hK
    have h60 : f.binade * 8 ≤ m * 2 ^ K := Nat.mul_le_mul hb h8
    have hp : 2 ^ (f.fractionBits + 1) = f.binade * 2 := Nat.pow_succ ..
    have : 0 < f.binade := binade_pos f
    rw [hp] at v1 ⊢
    generalize m * 2 ^ K = x at *
    omega
  have zz : m * 2 ^ K - V - more.toNat = 0 → more = false := fun h0 => by
    by_cases hd : D ≤ K
    · subst hm; simp [dvd_mod n hd]
    · have h1 := rbig hd
      have h2 := Nat.two_pow_pos (f.fractionBits + 1)
      rw [h0] at h1
      omega
  have zi : m * 2 ^ K - V - more.toNat = 0 ↔ m * 2 ^ D - n = 0 := by
    constructor
    · intro h0
      have hmf := zz h0
      rw [← sd1] at h0
      have hz : (m * 2 ^ D - n) * 2 ^ K % 2 ^ D = 0 := by
        rcases Nat.eq_zero_or_pos ((m * 2 ^ D - n) * 2 ^ K % 2 ^ D) with h1 | h1
        · exact h1
        · exfalso; have := sd2.1 (by omega); rw [hm] at hmf; simp [this] at hmf
      have := Nat.div_add_mod ((m * 2 ^ D - n) * 2 ^ K) (2 ^ D)
      rw [h0, hz] at this
      have : (m * 2 ^ D - n) * 2 ^ K = 0 := by simpa using this.symm
      rcases Nat.mul_eq_zero.1 this with h1 | h1
      · exact h1
      · omega
    · intro h0; rw [← sd1, h0]; simp
  refine ⟨zz, Vle, zi, fun hz => ?_⟩
  rw [nearest_rd, ← rd_scale f _ _ K, rd_shift f _ _ D _ _ (by rw [sd1]; exact fun h0 => hz (zi.1 h0)) ?_, sd1]
  · rw [hm, Bool.false_or, show p - (K : Int) + (D : Int) = p + D - K from by omega]
    congr 1
    exact decide_eq_decide.2 sd2
  · rw [sd1]
    by_cases hd : D ≤ K
    · exact Or.inl ⟨rfl, dvd_mod _ hd⟩
    · exact Or.inr (last_gt f _ (rbig hd))
theorem add_diff {f : Ieee.Format} {a b : Nat} (ht : Two f) (fa : sz f a < f.infRung) (fb : sz f b < f.infRung) (h : sz f b ≤ sz f a) (hs : ng f a ≠ ng f b) (K : Nat) (hK : 3 ≤ K) (V : Nat) (more : Bool)
    (hV : V = mg f b * 2 ^ K / 2 ^ (ex f a - ex f b)) (hm : more = decide (mg f b * 2 ^ K % 2 ^ (ex f a - ex f b) ≠ 0)) :
    (mg f a * 2 ^ K - V - more.toNat = 0 → more = false) ∧ V + more.toNat ≤ mg f a * 2 ^ K ∧
    f.add a b = some (if mg f a * 2 ^ K - V - more.toNat = 0 then 0 else rd f (ng f a) (mg f a * 2 ^ K - V - more.toNat) more (pl f a - K)) := by
  rw [read_add ht fa fb h]
  have hpl : pl f a = pl f b + (ex f a - ex f b : Nat) := by have := ex_le h; unfold pl; omega
  obtain ⟨zz, vle, zi, nd⟩ := near_diff f (ng f a) (mg f a) (mg f b) (ex f a - ex f b) K (pl f b) hK (val_le h) (mg_lt b) (fun hd => mg_big (by omega)) V more hV hm
  rw [← hpl] at nd
  refine ⟨zz, vle, ?_⟩
  have hb : ng f b = !ng f a := by cases hx : ng f a <;> cases hy : ng f b <;> simp_all
  have total := signed_other (ng f a) (mg f a) (ex f a - ex f b) (mg f b) (val_le h)
  rw [← hb] at total
  congr 1
  by_cases hz : mg f a * 2 ^ (ex f a - ex f b) - mg f b = 0
  · rw [if_pos (zi.2 hz)]
    rw [hz] at total
    have t0 : Ieee.signed (ng f a) (mg f a) (ex f a - ex f b) + Ieee.signed (ng f b) (mg f b) 0 = 0 := by rw [total]; simp
    have hf : (ng f a && ng f b) = false := by rw [hb]; cases ng f a <;> rfl
    simp only [t0, if_true, hf]
    simp [Ieee.Format.nearest, Ieee.Format.word]
  · rw [if_neg (fun h0 => hz (zi.1 h0)), ← nd hz]
    exact pick_near f (ng f a) _ _ _ hz _ total
theorem mul_fin {f : Ieee.Format} {a b : Nat} (ht : Two f) (fa : sz f a < f.infRung) (fb : sz f b < f.infRung) :
    f.mul a b = some (rd f (ng f a ^^ ng f b) (mg f a * mg f b) false (pl f a + pl f b)) := by
  unfold Ieee.Format.mul
  rw [read_fin ht fa, read_fin ht fb]
  simp only [Ieee.Datum.product, Option.map, Ieee.Format.write, nearest_rd]
/- Digits of a quotient. -/
theorem div_sticky (A n k : Nat) (hn : 0 < n) : A * 2 ^ k / n / 2 ^ k = A / n ∧ ((A * 2 ^ k % n ≠ 0 ∨ A * 2 ^ k / n % 2 ^ k ≠ 0) ↔ A % n ≠ 0) := by
  have g := Nat.two_pow_pos k
  have e1 : A * 2 ^ k / n / 2 ^ k = A / n := by rw [Nat.div_div_eq_div_mul, Nat.mul_comm n, ← Nat.div_div_eq_div_mul, Nat.mul_div_cancel _ g]
  refine ⟨e1, ?_⟩
  have dm := Nat.div_add_mod (A * 2 ^ k) n
  have dq := Nat.div_add_mod (A * 2 ^ k / n) (2 ^ k)
  rw [e1] at dq
  have da := Nat.div_add_mod A n
  constructor
  · intro h z
    rw [z, Nat.add_zero] at da
    have : A * 2 ^ k = n * (A / n * 2 ^ k) := by conv => lhs; rw [← da, Nat.mul_assoc]
    rw [this, Nat.mul_mod_right, Nat.mul_div_cancel_left _ hn, Nat.mul_mod_left] at h
    simp at h
  · intro h
    by_cases z1 : A * 2 ^ k % n = 0
    · by_cases z2 : A * 2 ^ k / n % 2 ^ k = 0
      · exfalso; apply h
        rw [z2, Nat.add_zero] at dq
        rw [z1, Nat.add_zero, ← dq] at dm
        have : n * (A / n) * 2 ^ k = A * 2 ^ k := by rw [← dm, Nat.mul_assoc, Nat.mul_comm (2 ^ k)]
        have := Nat.eq_of_mul_eq_mul_right g this
        omega
      · exact Or.inr z2
    · exact Or.inl z1
theorem div_fin {f : Ieee.Format} {a b : Nat} (ht : Two f) (fa : sz f a < f.infRung) (fb : sz f b < f.infRung) (ha : sz f a ≠ 0) (hb : sz f b ≠ 0) :
    f.div a b = some (rd f (ng f a ^^ ng f b) (mg f a * 2 ^ (123 - (mg f a).log2) / mg f b) (decide (mg f a * 2 ^ (123 - (mg f a).log2) % mg f b ≠ 0)) (pl f a - pl f b - (123 - (mg f a).log2 : Nat))) := by
  unfold Ieee.Format.div
  rw [read_fin ht fa, read_fin ht fb]
  have hma : mg f a ≠ 0 := fun z => ha (mg_zero.1 z)
  have hmb : mg f b ≠ 0 := fun z => hb (mg_zero.1 z)
  have la : (mg f a).log2 ≤ f.fractionBits := by have := (Nat.log2_lt hma).2 (mg_lt (f := f) a); omega
  have lb : (mg f b).log2 ≤ f.fractionBits := by have := (Nat.log2_lt hmb).2 (mg_lt (f := f) b); omega
  have hF : f.fractionBits ≤ 52 := by rcases ht with rfl | rfl <;> decide
  simp only [Ieee.Datum.quotient, if_neg hmb, Option.map, Ieee.Format.write, nearest_rd]
  congr 1
  generalize pl f a = i
  generalize pl f b = j
  generalize hL : (mg f a).log2 = x at *
  generalize hM : (mg f b).log2 = y at *
  generalize mg f a = m at *
  generalize mg f b = n at *
  obtain ⟨k, hk⟩ : ∃ k, 123 - x = (f.fractionBits + 2 + y - x) + k := ⟨123 - x - (f.fractionBits + 2 + y - x), by omega⟩
  have hmore : f.fractionBits + 2 + y - x = f.fractionBits + 2 + y - x := rfl
  generalize hM1 : f.fractionBits + 2 + y - x = M at *
  rw [hk, Nat.shiftLeft_eq, Nat.pow_add, ← Nat.mul_assoc]
  obtain ⟨d1, d2⟩ := div_sticky (m * 2 ^ M) n k (by omega)
  have q1 : 2 ^ (f.fractionBits + 1) ≤ m * 2 ^ M / n := by
    apply (Nat.le_div_iff_mul_le (by omega)).2
    have l1 := log2_le hma
    have l2 := lt_log2 n
    rw [hL] at l1
    rw [hM] at l2
    calc 2 ^ (f.fractionBits + 1) * n ≤ 2 ^ (f.fractionBits + 1) * 2 ^ (y + 1) := Nat.mul_le_mul_left _ (Nat.le_of_lt l2)
      _ = 2 ^ x * 2 ^ M := by rw [← Nat.pow_add, ← Nat.pow_add]; congr 1; omega
      _ ≤ m * 2 ^ M := Nat.mul_le_mul_right _ l1
  have gq := Nat.two_pow_pos (f.fractionBits + 1)
  rw [rd_shift f _ (m * 2 ^ M * 2 ^ k / n) k _ _ (by rw [d1]; omega) (Or.inr (by rw [d1]; exact last_gt f _ q1)), d1]
  have hb1 : (m * 2 ^ M % n != 0).toNat = if m * 2 ^ M % n ≠ 0 then 1 else 0 := by by_cases z : m * 2 ^ M % n = 0 <;> simp [z]
  have h1 : (2 * (m * 2 ^ M / n) + (m * 2 ^ M % n != 0).toNat) / 2 ^ 1 = m * 2 ^ M / n := by rw [hb1]; split <;> omega
  rw [rd_shift f _ (2 * (m * 2 ^ M / n) + (m * 2 ^ M % n != 0).toNat) 1 _ _ (by rw [h1]; omega) (Or.inr (by rw [h1]; exact last_gt f _ q1)), h1]
  congr 1
  · have h2 : ((2 * (m * 2 ^ M / n) + (m * 2 ^ M % n != 0).toNat) % 2 ^ 1 ≠ 0) ↔ m * 2 ^ M % n ≠ 0 := by rw [hb1]; split <;> omega
    simp only [h2, Bool.false_or, ← Bool.decide_or, d2]
  · push_cast; omega
end Go.Proofs.YtjkebimmddlccaaDoor
