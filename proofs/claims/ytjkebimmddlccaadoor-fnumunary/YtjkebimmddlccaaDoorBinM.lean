/-
  Plain facts on sums, products, quotients of words at infinities and zeros, and on the least of two; no statement is proved here.
-/
import Derived.Test.YtjkebimmddlccaaDoorResM
namespace Go.Proofs.YtjkebimmddlccaaDoor
set_option linter.unusedVariables false
set_option linter.unusedSimpArgs false

theorem sum_comm0 (x y : Ieee.Datum) : x.sum y = y.sum x := by
  cases x <;> cases y <;> simp only [Ieee.Datum.sum]
  · rw [Int.min_comm, Int.add_comm, Bool.and_comm]
  · rename_i s t
    by_cases h : s = t
    · subst h; rfl
    · rw [if_neg h, if_neg (fun e => h e.symm)]
theorem add_comm0 (f : Ieee.Format) (x y : Nat) : f.add x y = f.add y x := by unfold Ieee.Format.add; rw [sum_comm0]
/- A word is its sign and its lower bits. -/
theorem word_of (f : Ieee.Format) {a : Nat} (ha : a < 2 * f.signWeight) : f.word (ng f a) (sz f a) = a := by
  have p := sw_pos f
  have dm := Nat.div_add_mod a f.signWeight
  have q : a / f.signWeight < 2 := (Nat.div_lt_iff_lt_mul p).2 ha
  unfold Ieee.Format.word ng sz
  have q2 : a / f.signWeight = 0 ∨ a / f.signWeight = 1 := by generalize a / f.signWeight = x at q; omega
  rcases q2 with h | h
  · rw [h] at dm ⊢; simp at dm ⊢; omega
  · rw [h] at dm ⊢; simp at dm ⊢; omega
theorem same_word (f : Ieee.Format) {a b : Nat} (ha : a < 2 * f.signWeight) (hb : b < 2 * f.signWeight) (hn : ng f a = ng f b) (hs : sz f a = sz f b) : a = b := by
  rw [← word_of f ha, ← word_of f hb, hn, hs]
theorem add_ii {f : Ieee.Format} {a b : Nat} (ht : Two f) (ha : a < 2 * f.signWeight) (hb : b < 2 * f.signWeight) (ia : sz f a = f.infRung) (ib : sz f b = f.infRung) :
    f.add a b = if a = b then some a else none := by
  unfold Ieee.Format.add
  rw [read_inf ht ia, read_inf ht ib]
  simp only [Ieee.Datum.sum]
  by_cases h : a = b
  · subst h
    rw [if_pos rfl, if_pos rfl]
    show some (f.word (ng f a) f.infRung) = _
    rw [← ia, word_of f ha]
  · rw [if_neg h, if_neg (fun hn => h (same_word f ha hb hn (by omega)))]; rfl
theorem add_if {f : Ieee.Format} {a b : Nat} (ht : Two f) (ha : a < 2 * f.signWeight) (ia : sz f a = f.infRung) (ib : sz f b < f.infRung) :
    f.add a b = some a := by
  unfold Ieee.Format.add
  rw [read_inf ht ia, read_fin ht ib]
  show some (f.word (ng f a) f.infRung) = _
  rw [← ia, word_of f ha]
theorem add_fi {f : Ieee.Format} {a b : Nat} (ht : Two f) (hb : b < 2 * f.signWeight) (ia : sz f a < f.infRung) (ib : sz f b = f.infRung) :
    f.add a b = some b := by
  unfold Ieee.Format.add
  rw [read_fin ht ia, read_inf ht ib]
  show some (f.word (ng f b) f.infRung) = _
  rw [← ib, word_of f hb]
theorem add_zz {f : Ieee.Format} {a b : Nat} (ht : Two f) (ia : sz f a = 0) (ib : sz f b = 0) :
    f.add a b = some (f.word (ng f a && ng f b) 0) := by
  have b0 := binade_pos f
  have hi := two_bin ht
  rw [read_add ht (by omega) (by omega) (by omega), mg_zero.2 ia, mg_zero.2 ib]
  have z : ∀ s k, Ieee.signed s 0 k = 0 := fun s k => by unfold Ieee.signed; cases s <;> simp
  simp only [z, Int.add_zero, if_true, Int.natAbs_zero]
  rfl
theorem mul_ii {f : Ieee.Format} {a b : Nat} (ht : Two f) (ia : sz f a = f.infRung) (ib : sz f b = f.infRung) :
    f.mul a b = some (f.word (ng f a ^^ ng f b) f.infRung) := by
  unfold Ieee.Format.mul
  rw [read_inf ht ia, read_inf ht ib]; rfl
theorem mul_if {f : Ieee.Format} {a b : Nat} (ht : Two f) (ia : sz f a = f.infRung) (ib : sz f b < f.infRung) :
    f.mul a b = if sz f b = 0 then none else some (f.word (ng f a ^^ ng f b) f.infRung) := by
  unfold Ieee.Format.mul
  rw [read_inf ht ia, read_fin ht ib]
  simp only [Ieee.Datum.product]
  by_cases h : sz f b = 0
  · rw [if_pos h, if_pos (mg_zero.2 h)]; rfl
  · rw [if_neg h, if_neg (fun z => h (mg_zero.1 z))]; rfl
theorem mul_fi {f : Ieee.Format} {a b : Nat} (ht : Two f) (ia : sz f a < f.infRung) (ib : sz f b = f.infRung) :
    f.mul a b = if sz f a = 0 then none else some (f.word (ng f a ^^ ng f b) f.infRung) := by
  unfold Ieee.Format.mul
  rw [read_fin ht ia, read_inf ht ib]
  simp only [Ieee.Datum.product]
  by_cases h : sz f a = 0
  · rw [if_pos h, if_pos (mg_zero.2 h)]; rfl
  · rw [if_neg h, if_neg (fun z => h (mg_zero.1 z))]
    show some (f.word (ng f b ^^ ng f a) f.infRung) = _
    rw [Bool.xor_comm]
theorem div_ii {f : Ieee.Format} {a b : Nat} (ht : Two f) (ia : sz f a = f.infRung) (ib : sz f b = f.infRung) : f.div a b = none := by
  unfold Ieee.Format.div
  rw [read_inf ht ia, read_inf ht ib]; rfl
theorem div_if {f : Ieee.Format} {a b : Nat} (ht : Two f) (ia : sz f a = f.infRung) (ib : sz f b < f.infRung) :
    f.div a b = some (f.word (ng f a ^^ ng f b) f.infRung) := by
  unfold Ieee.Format.div
  rw [read_inf ht ia, read_fin ht ib]; rfl
theorem div_fi {f : Ieee.Format} {a b : Nat} (ht : Two f) (ia : sz f a < f.infRung) (ib : sz f b = f.infRung) :
    f.div a b = some (f.word (ng f a ^^ ng f b) 0) := by
  unfold Ieee.Format.div
  rw [read_fin ht ia, read_inf ht ib]
  show some (f.nearest (ng f a ^^ ng f b) 0 0) = _
  rw [nearest_rd]; rfl
theorem div_fz {f : Ieee.Format} {a b : Nat} (ht : Two f) (ia : sz f a < f.infRung) (ib : sz f b = 0) :
    f.div a b = if sz f a = 0 then none else some (f.word (ng f a ^^ ng f b) f.infRung) := by
  have b0 := binade_pos f
  have hi := two_bin ht
  unfold Ieee.Format.div
  rw [read_fin ht ia, read_fin ht (by omega)]
  simp only [Ieee.Datum.quotient, if_pos (mg_zero.2 ib)]
  by_cases h : sz f a = 0
  · rw [if_pos h, if_pos (mg_zero.2 h)]; rfl
  · rw [if_neg h, if_neg (fun z => h (mg_zero.1 z))]; rfl
theorem div_zf {f : Ieee.Format} {a b : Nat} (ht : Two f) (ia : sz f a = 0) (fb : sz f b < f.infRung) (ib : sz f b ≠ 0) :
    f.div a b = some (f.word (ng f a ^^ ng f b) 0) := by
  have b0 := binade_pos f
  have hi := two_bin ht
  unfold Ieee.Format.div
  rw [read_fin ht (by omega), read_fin ht fb, mg_zero.2 ia]
  simp only [Ieee.Datum.quotient, if_neg (fun z => ib (mg_zero.1 z))]
  have h0 : ∀ k, (0 : Nat) <<< k = 0 := fun k => Nat.zero_shiftLeft k
  simp only [h0, Nat.zero_div, Nat.zero_mod, bne_self_eq_false, Bool.toNat_false, Nat.mul_zero, Nat.add_zero, Option.map, Ieee.Format.write, nearest_rd]
  rfl
theorem nan_add {f : Ieee.Format} {a b : Nat} (ht : Two f) (h : f.infRung < sz f a ∨ f.infRung < sz f b) : f.add a b = none := by
  unfold Ieee.Format.add
  rcases h with h | h
  · rw [read_nan ht h]; rfl
  · rw [read_nan ht h]; cases f.read a <;> rfl
theorem nan_sub {f : Ieee.Format} {a b : Nat} (ht : Two f) (h : f.infRung < sz f a ∨ f.infRung < sz f b) : f.sub a b = none := by
  unfold Ieee.Format.sub
  rcases h with h | h
  · rw [read_nan ht h]; rfl
  · rw [read_nan ht h]; cases f.read a <;> rfl
theorem nan_mul {f : Ieee.Format} {a b : Nat} (ht : Two f) (h : f.infRung < sz f a ∨ f.infRung < sz f b) : f.mul a b = none := by
  unfold Ieee.Format.mul
  rcases h with h | h
  · rw [read_nan ht h]; rfl
  · rw [read_nan ht h]; cases f.read a <;> rfl
theorem nan_div {f : Ieee.Format} {a b : Nat} (ht : Two f) (h : f.infRung < sz f a ∨ f.infRung < sz f b) : f.div a b = none := by
  unfold Ieee.Format.div
  rcases h with h | h
  · rw [read_nan ht h]; rfl
  · rw [read_nan ht h]; cases f.read a <;> rfl
theorem nan_mm {f : Ieee.Format} {m : Bool} {a b : Nat} (ht : Two f) (h : f.infRung < sz f a ∨ f.infRung < sz f b) : mm f m a b = none := by
  unfold mm; rw [order_nan ht h]
theorem nan_bop {f : Ieee.Format} {k a b : Nat} (ht : Two f) (h : f.infRung < sz f a ∨ f.infRung < sz f b) : bop f k a b = none := by
  unfold bop
  rw [nan_add ht h, nan_sub ht h, nan_mul ht h, nan_div ht h, nan_mm ht h]
  simp
/- A difference is the sum with the sign turned. -/
theorem sub_tg {f : Ieee.Format} {a b : Nat} (ht : Two f) (hb : b < 2 * f.signWeight) : f.sub a b = f.add a (tg f b) := by
  obtain ⟨t1, t2, t3⟩ := tg_lt hb
  have hr : (f.read b).opposite = f.read (tg f b) ∨ f.infRung < sz f b := by
    rcases Nat.lt_trichotomy (sz f b) f.infRung with h | h | h
    · left
      rw [read_fin ht h, read_fin ht (by rw [t2]; exact h)]
      have e1 : mg f (tg f b) = mg f b := by unfold mg; rw [t2]
      have e2 : pl f (tg f b) = pl f b := by unfold pl ex; rw [t2]
      rw [e1, e2, t3]; rfl
    · left
      rw [read_inf ht h, read_inf ht (by rw [t2]; exact h), t3]; rfl
    · exact Or.inr h
  rcases hr with h | h
  · unfold Ieee.Format.sub Ieee.Format.add; rw [h]
  · rw [nan_sub ht (Or.inr h), nan_add ht (Or.inr (by rw [t2]; exact h))]
theorem read_neg {f : Ieee.Format} {a : Nat} (ht : Two f) (h : sz f a ≤ f.infRung) : (f.read a).neg = ng f a := by
  rcases Nat.lt_or_eq_of_le h with h | h
  · rw [read_fin ht h]; rfl
  · rw [read_inf ht h]; rfl
theorem mm_lt {f : Ieee.Format} {a b : Nat} (m : Bool) (ht : Two f) (ha : sz f a ≤ f.infRung) (hb : sz f b ≤ f.infRung) (h : key f a < key f b) : mm f m a b = some (if m then b else a) := by
  unfold mm
  rw [order_key ht ha hb, show compare (key f a) (key f b) = .lt from Int.compare_eq_lt.2 h]
theorem mm_gt {f : Ieee.Format} {a b : Nat} (m : Bool) (ht : Two f) (ha : sz f a ≤ f.infRung) (hb : sz f b ≤ f.infRung) (h : key f b < key f a) : mm f m a b = some (if m then a else b) := by
  unfold mm
  rw [order_key ht ha hb, show compare (key f a) (key f b) = .gt from Int.compare_eq_gt.2 h]
/- Of words that are equal in order: the same word, or the two noughts. -/
theorem mm_eq {f : Ieee.Format} {a b : Nat} (m : Bool) (ht : Two f) (la : a < 2 * f.signWeight) (lb : b < 2 * f.signWeight) (ha : sz f a ≤ f.infRung) (hb : sz f b ≤ f.infRung) (h : key f a = key f b) :
    mm f m a b = some (if m then a &&& b else a ||| b) := by
  unfold mm
  rw [order_key ht ha hb, show compare (key f a) (key f b) = .eq from Int.compare_eq_eq.2 h]
  simp only [read_neg ht ha]
  by_cases hn : ng f a = ng f b
  · have hs : sz f a = sz f b := by
      unfold key at h; rw [hn] at h; cases hv : ng f b <;> rw [hv] at h <;> simp at h <;> omega
    have e := same_word f la lb hn hs
    subst e
    simp
  · have hs : sz f a = 0 ∧ sz f b = 0 := by
      unfold key at h; cases h1 : ng f a <;> cases h2 : ng f b <;> simp [h1, h2] at h hn <;> omega
    have ea := word_of f la
    have eb := word_of f lb
    rw [hs.1] at ea
    rw [hs.2] at eb
    clear hs h ha hb la lb
    generalize hp : ng f a = p at *
    generalize hq : ng f b = q at *
    clear hp hq
    subst ea
    subst eb
    unfold Ieee.Format.word
    cases p <;> cases q <;> cases m <;> simp at hn ⊢
end Go.Proofs.YtjkebimmddlccaaDoor
