/-
  Plain facts on the words of floats: parts, values, order; no statement is proved here.
-/
import Derived.Test.YtjkebimmddlccaaDoorRndM
namespace Go.Proofs.YtjkebimmddlccaaDoor
set_option linter.unusedVariables false
set_option linter.unusedSimpArgs false

/- The two formats. -/
def Two (f : Ieee.Format) : Prop := f = Ieee.single ∨ f = Ieee.double
/- The lower bits, the sign, of a finite word its whole number and its place. -/
def sz (f : Ieee.Format) (a : Nat) : Nat := a % f.signWeight
def ng (f : Ieee.Format) (a : Nat) : Bool := a / f.signWeight % 2 == 1
def mg (f : Ieee.Format) (a : Nat) : Nat := if sz f a < f.binade then sz f a else f.binade + sz f a % f.binade
def ex (f : Ieee.Format) (a : Nat) : Nat := sz f a / f.binade - 1
def pl (f : Ieee.Format) (a : Nat) : Int := f.leastPlace + ex f a
def fin (f : Ieee.Format) (a : Nat) : Prop := sz f a < f.infRung
theorem binade_pos (f : Ieee.Format) : 0 < f.binade := Nat.two_pow_pos _
theorem sw_pos (f : Ieee.Format) : 0 < f.signWeight := Nat.two_pow_pos _
theorem inf_bin (f : Ieee.Format) : f.infRung + f.binade = f.signWeight := by
  have h : 0 < 2 ^ f.exponentBits := Nat.two_pow_pos _
  unfold Ieee.Format.infRung Ieee.Format.signWeight
  rw [Nat.pow_add, ← Nat.succ_mul]
  exact congrArg (· * f.binade) (by omega)
theorem two_bin {f : Ieee.Format} (h : Two f) : f.binade ≤ f.infRung := by
  rcases h with rfl | rfl <;> decide
theorem sz_lt (f : Ieee.Format) (a : Nat) : sz f a < f.signWeight := Nat.mod_lt _ (sw_pos f)
theorem read_fin {f : Ieee.Format} {a : Nat} (ht : Two f) (h : sz f a < f.infRung) : f.read a = .number (ng f a) (mg f a) (pl f a) := by
  unfold Ieee.Format.read
  show (if sz f a < f.binade then Ieee.Datum.number (ng f a) (sz f a) f.leastPlace else if sz f a < f.infRung then _ else _) = _
  unfold mg pl ex
  by_cases c : sz f a < f.binade
  · rw [if_pos c, if_pos c, Nat.div_eq_of_lt c]; simp
  · rw [if_neg c, if_neg c, if_pos h]; rfl
theorem read_inf {f : Ieee.Format} {a : Nat} (ht : Two f) (h : sz f a = f.infRung) : f.read a = .infinity (ng f a) := by
  have b := two_bin ht
  unfold Ieee.Format.read
  show (if sz f a < f.binade then _ else if sz f a < f.infRung then _ else if sz f a = f.infRung then Ieee.Datum.infinity (ng f a) else _) = _
  rw [if_neg (by omega), if_neg (by omega), if_pos h]
theorem read_nan {f : Ieee.Format} {a : Nat} (ht : Two f) (h : f.infRung < sz f a) : f.read a = .nan (ng f a) (sz f a - f.infRung) := by
  have b := two_bin ht
  unfold Ieee.Format.read
  show (if sz f a < f.binade then _ else if sz f a < f.infRung then _ else if sz f a = f.infRung then _ else Ieee.Datum.nan (ng f a) (sz f a - f.infRung)) = _
  rw [if_neg (by omega), if_neg (by omega), if_neg (by omega)]
/- The value of a rung, in units of the least place. -/
def val (f : Ieee.Format) (r : Nat) : Nat := if r < f.binade then r else (f.binade + r % f.binade) * 2 ^ (r / f.binade - 1)
theorem val_mg (f : Ieee.Format) (a : Nat) : mg f a * 2 ^ ex f a = val f (sz f a) := by
  unfold mg ex val
  by_cases c : sz f a < f.binade
  · rw [if_pos c, if_pos c, Nat.div_eq_of_lt c]; simp
  · rw [if_neg c, if_neg c]
theorem val_step (f : Ieee.Format) (r : Nat) : val f r < val f (r + 1) := by
  have hb := binade_pos f
  unfold val
  by_cases c : r + 1 < f.binade
  · rw [if_pos (by omega), if_pos c]; omega
  · rw [if_neg c]
    by_cases c0 : r < f.binade
    · rw [if_pos c0]
      have : r + 1 = f.binade := by omega
      rw [this, Nat.mod_self, Nat.div_self hb]; simp; omega
    · rw [if_neg c0]
      have hq : 1 ≤ r / f.binade := (Nat.le_div_iff_mul_le hb).2 (by omega)
      have dm := Nat.div_add_mod r f.binade
      have ml := Nat.mod_lt r hb
      by_cases cc : r % f.binade + 1 < f.binade
      · have m1 : (r + 1) % f.binade = r % f.binade + 1 := by
          conv => lhs; rw [← dm, Nat.add_assoc, Nat.mul_add_mod]
          exact Nat.mod_eq_of_lt cc
        have d1 : (r + 1) / f.binade = r / f.binade := by
          conv => lhs; rw [← dm, Nat.add_assoc, Nat.mul_add_div hb]
          rw [Nat.div_eq_of_lt cc]; omega
        rw [m1, d1]
        exact Nat.mul_lt_mul_of_pos_right (by omega) (Nat.two_pow_pos _)
      · have hm : r % f.binade + 1 = f.binade := by omega
        have m1 : (r + 1) % f.binade = 0 := by
          conv => lhs; rw [← dm, Nat.add_assoc, hm, Nat.mul_add_mod]
          exact Nat.mod_self _
        have d1 : (r + 1) / f.binade = r / f.binade + 1 := by
          conv => lhs; rw [← dm, Nat.add_assoc, hm, Nat.mul_add_div hb]
          rw [Nat.div_self hb]
        rw [m1, d1, show r / f.binade + 1 - 1 = (r / f.binade - 1) + 1 from by omega, Nat.pow_succ]
        have := Nat.two_pow_pos (r / f.binade - 1)
        rw [← Nat.mul_assoc, Nat.add_zero, Nat.mul_right_comm]
        exact Nat.mul_lt_mul_of_pos_right (by omega) this
theorem val_mono (f : Ieee.Format) {r s : Nat} (h : r < s) : val f r < val f s := by
  induction s with
  | zero => omega
  | succ s ih =>
    by_cases c : r = s
    · subst c; exact val_step f r
    · exact Nat.lt_trans (ih (by omega)) (val_step f s)
theorem val_zero (f : Ieee.Format) : val f 0 = 0 := by unfold val; rw [if_pos (binade_pos f)]
theorem val_cmp (f : Ieee.Format) (r s : Nat) : compare (val f r) (val f s) = compare r s := by
  rcases Nat.lt_trichotomy r s with h | h | h
  · rw [Nat.compare_eq_lt.2 h, Nat.compare_eq_lt.2 (val_mono f h)]
  · subst h; simp
  · rw [Nat.compare_eq_gt.2 h, Nat.compare_eq_gt.2 (val_mono f h)]
/- A number that rises as floats do. -/
def key (f : Ieee.Format) (a : Nat) : Int := if ng f a then -(sz f a : Int) else (sz f a : Int)
theorem cmp_of {a b c d : Int} (h1 : a < b ↔ c < d) (h2 : a = b ↔ c = d) : compare a b = compare c d := by
  simp only [compare, compareOfLessAndEq, h1, h2]
theorem cmp_scale (x y : Int) (k : Nat) : compare (x * (2 ^ k : Nat)) (y * (2 ^ k : Nat)) = compare x y := by
  have hp : (0 : Int) < (2 ^ k : Nat) := by exact_mod_cast Nat.two_pow_pos k
  apply cmp_of
  · exact ⟨fun h => Int.lt_of_mul_lt_mul_right h (Int.le_of_lt hp), fun h => Int.mul_lt_mul_of_pos_right h hp⟩
  · exact ⟨fun h => Int.eq_of_mul_eq_mul_right (by omega) h, fun h => by rw [h]⟩
theorem signed_scale (s : Bool) (m u k : Nat) : Ieee.signed s m u * ((2 ^ k : Nat) : Int) = Ieee.signed s m (u + k) := by
  unfold Ieee.signed
  have : ((m <<< (u + k) : Nat) : Int) = (m <<< u : Nat) * (2 ^ k : Nat) := by
    rw [Nat.shiftLeft_eq, Nat.shiftLeft_eq, Nat.pow_add, ← Nat.mul_assoc]; push_cast; rfl
  cases s <;> simp [this, Int.neg_mul]
def sval (f : Ieee.Format) (a : Nat) : Int := if ng f a then -(val f (sz f a) : Int) else (val f (sz f a) : Int)
theorem signed_sval (f : Ieee.Format) (a : Nat) : Ieee.signed (ng f a) (mg f a) (ex f a) = sval f a := by
  unfold Ieee.signed sval
  rw [Nat.shiftLeft_eq, val_mg]
theorem cmp_key (f : Ieee.Format) (a b : Nat) : compare (sval f a) (sval f b) = compare (key f a) (key f b) := by
  unfold sval key
  have M : ∀ {r s : Nat}, r < s → val f r < val f s := fun h => val_mono f h
  have P : ∀ {r : Nat}, 0 < r → 0 < val f r := fun {r} h => by have := val_mono f h; rw [val_zero] at this; exact this
  have c : compare (val f (sz f a)) (val f (sz f b)) = compare (sz f a) (sz f b) := val_cmp f _ _
  generalize sz f a = x at *
  generalize sz f b = y at *
  have Z := val_zero f
  have key3 : (val f x < val f y ↔ x < y) ∧ (val f y < val f x ↔ y < x) ∧ (val f x = val f y ↔ x = y) := by
    rcases Nat.lt_trichotomy x y with h | h | h
    · have := M h; omega
    · subst h; omega
    · have := M h; omega
  have px : val f x = 0 ↔ x = 0 := ⟨fun h => by rcases Nat.eq_zero_or_pos x with h1 | h1; exact h1; have := P h1; omega, fun h => by subst h; exact Z⟩
  have py : val f y = 0 ↔ y = 0 := ⟨fun h => by rcases Nat.eq_zero_or_pos y with h1 | h1; exact h1; have := P h1; omega, fun h => by subst h; exact Z⟩
  cases ng f a <;> cases ng f b <;> simp only [if_true, if_false, Bool.false_eq_true] <;> apply cmp_of <;> omega
theorem cmp_scale_nat (x y k : Nat) : compare (x * 2 ^ k) (y * 2 ^ k) = compare x y := by
  have hp := Nat.two_pow_pos k
  rcases Nat.lt_trichotomy x y with h | h | h
  · rw [Nat.compare_eq_lt.2 h, Nat.compare_eq_lt.2 (Nat.mul_lt_mul_of_pos_right h hp)]
  · subst h; simp
  · rw [Nat.compare_eq_gt.2 h, Nat.compare_eq_gt.2 (Nat.mul_lt_mul_of_pos_right h hp)]
/- How two words stand to each other: as their keys do. -/
theorem order_key {f : Ieee.Format} {a b : Nat} (ht : Two f) (ha : sz f a ≤ f.infRung) (hb : sz f b ≤ f.infRung) : f.order a b = some (compare (key f a) (key f b)) := by
  unfold Ieee.Format.order
  have hi : 0 < f.infRung := by have := two_bin ht; have := binade_pos f; omega
  by_cases ia : sz f a = f.infRung <;> by_cases ib : sz f b = f.infRung
  · rw [read_inf ht ia, read_inf ht ib]
    simp only [Ieee.Datum.order, key, ia, ib]
    congr 1
    cases ng f a <;> cases ng f b <;> simp only [if_true, if_false, Bool.false_eq_true, Bool.toNat_true, Bool.toNat_false] <;> simp only [compare, compareOfLessAndEq] <;> (repeat (first | rw [if_pos (by omega)] | rw [if_neg (by omega)])) <;> (try simp)
  · rw [read_inf ht ia, read_fin ht (by omega)]
    simp only [Ieee.Datum.order, key, ia]
    congr 1
    cases ng f a <;> cases ng f b <;> simp only [if_true, if_false, Bool.false_eq_true] <;> simp only [compare, compareOfLessAndEq] <;> first | (rw [if_pos (by omega)]) | (rw [if_neg (by omega), if_neg (by omega)])
  · rw [read_inf ht ib, read_fin ht (by omega)]
    simp only [Ieee.Datum.order, key, ib]
    congr 1
    cases ng f a <;> cases ng f b <;> simp only [if_true, if_false, Bool.false_eq_true] <;> simp only [compare, compareOfLessAndEq] <;> first | (rw [if_pos (by omega)]) | (rw [if_neg (by omega), if_neg (by omega)])
  · rw [read_fin ht (by omega), read_fin ht (by omega)]
    simp only [Ieee.Datum.order]
    congr 1
    rw [← cmp_key, ← signed_sval, ← signed_sval]
    have e1 : min (pl f a) (pl f b) = f.leastPlace + (min (ex f a) (ex f b) : Nat) := by unfold pl; omega
    rw [e1]
    have e2 : (pl f a - (f.leastPlace + (min (ex f a) (ex f b) : Nat))).toNat = ex f a - min (ex f a) (ex f b) := by unfold pl; omega
    have e3 : (pl f b - (f.leastPlace + (min (ex f a) (ex f b) : Nat))).toNat = ex f b - min (ex f a) (ex f b) := by unfold pl; omega
    rw [e2, e3, ← cmp_scale _ _ (min (ex f a) (ex f b)), signed_scale, signed_scale]
    congr 2 <;> omega
theorem order_nan {f : Ieee.Format} {a b : Nat} (ht : Two f) (h : f.infRung < sz f a ∨ f.infRung < sz f b) : f.order a b = none := by
  unfold Ieee.Format.order
  rcases h with h | h
  · rw [read_nan ht h]; rfl
  · rw [read_nan ht h]; cases f.read a <;> rfl
end Go.Proofs.YtjkebimmddlccaaDoor
