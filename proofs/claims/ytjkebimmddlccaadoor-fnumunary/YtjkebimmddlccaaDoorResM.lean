/-
  Plain facts on what operations on floats leave: no NaNs; no statement is proved here.
-/
import Derived.Test.YtjkebimmddlccaaDoorFnW
namespace Go.Proofs.YtjkebimmddlccaaDoor
open Go.RowKit
set_option linter.unusedVariables false
set_option linter.unusedSimpArgs false

theorem word_sz (f : Ieee.Format) (neg : Bool) {r : Nat} (h : r < f.signWeight) : sz f (f.word neg r) = r ∧ ng f (f.word neg r) = neg ∧ f.word neg r < 2 * f.signWeight := by
  have hp := sw_pos f
  unfold sz ng Ieee.Format.word
  cases neg
  · simp only [Bool.false_eq_true, if_false]
    rw [Nat.mod_eq_of_lt h, Nat.div_eq_of_lt h]
    exact ⟨rfl, rfl, by omega⟩
  · simp only [if_true]
    rw [Nat.add_comm, Nat.add_mod_right, Nat.mod_eq_of_lt h, Nat.add_div_right _ hp, Nat.div_eq_of_lt h]
    exact ⟨rfl, rfl, by omega⟩
theorem inf_lt (f : Ieee.Format) : f.infRung < f.signWeight := by have := inf_bin f; have := binade_pos f; omega
theorem near_sz (f : Ieee.Format) (neg : Bool) (m : Nat) (p : Int) : sz f (f.nearest neg m p) ≤ f.infRung ∧ ng f (f.nearest neg m p) = neg := by
  have hi := inf_lt f
  rw [nearest_rd]
  unfold rd
  split
  · rw [(word_sz f neg (sw_pos f)).1, (word_sz f neg (sw_pos f)).2.1]; exact ⟨Nat.zero_le _, rfl⟩
  · have hm : min (rungR f m false p) f.infRung < f.signWeight := Nat.lt_of_le_of_lt (Nat.min_le_right _ _) hi
    rw [(word_sz f neg hm).1, (word_sz f neg hm).2.1]
    exact ⟨Nat.min_le_right _ _, rfl⟩
theorem write_sz (f : Ieee.Format) (d : Ieee.Datum) (h : d.isNaN = false) : sz f (f.write d) ≤ f.infRung := by
  cases d with
  | number s m p => exact (near_sz f s m p).1
  | infinity s => rw [show f.write (.infinity s) = f.word s f.infRung from rfl, (word_sz f s (inf_lt f)).1]; exact Nat.le_refl _
  | nan s t => cases h
theorem map_sz (f : Ieee.Format) (o : Option Ieee.Datum) (h : ∀ d, o = some d → d.isNaN = false) (r : Nat) (hr : o.map f.write = some r) : sz f r ≤ f.infRung := by
  cases o with
  | none => cases hr
  | some d => cases hr; exact write_sz f d (h d rfl)
theorem sum_num (x y d : Ieee.Datum) (h : x.sum y = some d) : d.isNaN = false := by
  cases x <;> cases y <;> simp only [Ieee.Datum.sum] at h <;> first | (cases h; done) | (cases h; rfl) | (split at h <;> first | (cases h; done) | (cases h; rfl))
theorem product_num (x y d : Ieee.Datum) (h : x.product y = some d) : d.isNaN = false := by
  cases x <;> cases y <;> simp only [Ieee.Datum.product] at h <;> first | (cases h; done) | (cases h; rfl) | (split at h <;> first | (cases h; done) | (cases h; rfl))
theorem quotient_num (n : Nat) (x y d : Ieee.Datum) (h : Ieee.Datum.quotient n x y = some d) : d.isNaN = false := by
  cases x <;> cases y <;> simp only [Ieee.Datum.quotient] at h <;> first | (cases h; done) | (cases h; rfl) | (split at h <;> first | (cases h; done) | (cases h; rfl) | (split at h <;> first | (cases h; done) | (cases h; rfl)))
theorem root_num (n : Nat) (x d : Ieee.Datum) (h : Ieee.Datum.root n x = some d) : d.isNaN = false := by
  cases x <;> simp only [Ieee.Datum.root] at h <;> first | (cases h; done) | (cases h; rfl) | (split at h <;> first | (cases h; done) | (cases h; rfl) | (split at h <;> first | (cases h; done) | (cases h; rfl)))
theorem order_num {f : Ieee.Format} (ht : Two f) {x y : Nat} {c : Ordering} (h : f.order x y = some c) : sz f x ≤ f.infRung ∧ sz f y ≤ f.infRung := by
  constructor
  · rcases Nat.lt_or_ge f.infRung (sz f x) with h1 | h1
    · rw [order_nan ht (Or.inl h1)] at h; cases h
    · exact h1
  · rcases Nat.lt_or_ge f.infRung (sz f y) with h1 | h1
    · rw [order_nan ht (Or.inr h1)] at h; cases h
    · exact h1
theorem mm_num {f : Ieee.Format} (ht : Two f) {m : Bool} {x y r : Nat} (h : mm f m x y = some r) : sz f r ≤ f.infRung := by
  unfold mm at h
  cases ho : f.order x y with
  | none => rw [ho] at h; cases h
  | some c =>
    obtain ⟨h1, h2⟩ := order_num ht ho
    rw [ho] at h
    cases c <;> simp only [Option.some.injEq] at h <;> rw [← h] <;> split <;> assumption
theorem bop_num {f : Ieee.Format} (ht : Two f) {k x y r : Nat} (h : bop f k x y = some r) : ¬ f.infRung < sz f r := by
  unfold bop at h
  apply Nat.not_lt_of_le
  split at h
  · exact map_sz f _ (fun d hd => sum_num _ _ d hd) r h
  · split at h
    · exact map_sz f _ (fun d hd => sum_num _ _ d hd) r h
    · split at h
      · exact map_sz f _ (fun d hd => product_num _ _ d hd) r h
      · split at h
        · exact map_sz f _ (fun d hd => quotient_num _ _ _ d hd) r h
        · exact mm_num ht h
theorem sqrt_num (f : Ieee.Format) {x r : Nat} (h : f.sqrt x = some r) : ¬ f.infRung < sz f r :=
  Nat.not_lt_of_le (map_sz f _ (fun d hd => root_num _ _ d hd) r h)
theorem cn_nan {f : Ieee.Format} (ht : Two f) : f.infRung < sz f (cn f) := by
  rcases ht with rfl | rfl
  · unfold sz; rw [cn1, ir1, sw1]; decide
  · unfold sz; rw [cn2, ir2, sw2]; decide
/- What an operation's answer is: a NaN only as the canonical one. -/
def One (f : Ieee.Format) (r : Nat) : Prop := r < 2 ^ f.width ∧ (f.infRung < sz f r → r = cn f)
theorem one_get {f : Ieee.Format} (ht : Two f) (o : Option Nat) (h : ∀ r, o = some r → ¬ f.infRung < sz f r ∧ r < 2 ^ f.width) : One f (o.getD (cn f)) := by
  cases o with
  | none => exact ⟨by rcases ht with rfl | rfl <;> decide, fun _ => rfl⟩
  | some r => exact ⟨(h r rfl).2, fun hn => absurd hn (h r rfl).1⟩
theorem bop_lt {f : Ieee.Format} {k x y r : Nat} (hx : x < 2 ^ f.width) (hy : y < 2 ^ f.width) (h : bop f k x y = some r) : r < 2 ^ f.width := by
  unfold bop at h
  split at h
  · exact f.add_lt h
  · split at h
    · exact f.sub_lt h
    · split at h
      · exact f.mul_lt h
      · split at h
        · exact f.div_lt h
        · unfold mm at h
          cases ho : f.order x y with
          | none => rw [ho] at h; cases h
          | some c =>
            rw [ho] at h
            cases c <;> simp only [Option.some.injEq] at h <;> rw [← h] <;> split <;> assumption
end Go.Proofs.YtjkebimmddlccaaDoor
