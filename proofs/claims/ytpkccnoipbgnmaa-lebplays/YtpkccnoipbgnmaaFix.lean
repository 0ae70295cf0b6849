/-
  Plain mathematics: the worth of a float's bytes, the lowest first; nothing of the program.
-/
namespace Go.Proofs.Ytpkccnoipbgnmaa

/- The worth of so many bytes from a on. -/
def gv (l : List Int) : Nat → Nat → Int
  | _, 0 => 0
  | a, c + 1 => l.getD a 0 + 256 * gv l (a + 1) c
theorem pow8 (k : Nat) : (2 : Int) ^ (8 * (k + 1)) = 256 * 2 ^ (8 * k) := by
  rw [show 8 * (k + 1) = 8 + 8 * k from by omega, Int.pow_add]; rfl
theorem gv_snoc (l : List Int) (a k : Nat) : gv l a (k + 1) = gv l a k + l.getD (a + k) 0 * 2 ^ (8 * k) := by
  induction k generalizing a with
  | zero => simp [gv]
  | succ k ih =>
    rw [gv, ih (a + 1), gv, pow8, show a + 1 + k = a + (k + 1) from by omega, Int.mul_add]
    have : 256 * (l.getD (a + (k + 1)) 0 * 2 ^ (8 * k)) = l.getD (a + (k + 1)) 0 * (256 * 2 ^ (8 * k)) := by rw [← Int.mul_assoc, Int.mul_comm 256, Int.mul_assoc]
    rw [this]; omega
theorem gv_bd (l : List Int) (hr : ∀ j, 0 ≤ l.getD j 0 ∧ l.getD j 0 ≤ 255) (a k : Nat) : 0 ≤ gv l a k ∧ gv l a k < 2 ^ (8 * k) := by
  induction k generalizing a with
  | zero => simp [gv]
  | succ k ih =>
    obtain ⟨h1, h2⟩ := ih (a + 1)
    obtain ⟨h3, h4⟩ := hr a
    rw [gv, pow8]; omega
/- Reading so many bytes from at on, ahead of end. -/
def fx (s : Nat) (l : List Int) (at_ end_ : Int) : Int × Int × Int :=
  if 0 ≤ at_ ∧ at_ ≤ end_ ∧ end_ ≤ l.length then if end_ - at_ < s then (0, end_, 3) else (gv l at_.toNat s, at_ + s, 0) else (0, 0, 1)
theorem fx_out {s : Nat} {l : List Int} {at_ end_ : Int} (h : ¬ (0 ≤ at_ ∧ at_ ≤ end_ ∧ end_ ≤ l.length)) : fx s l at_ end_ = (0, 0, 1) := by
  unfold fx; rw [if_neg h]
theorem fx_short {s : Nat} {l : List Int} {a e : Nat} (h1 : a ≤ e) (h2 : e ≤ l.length) (h : e < a + s) : fx s l a e = (0, (e : Int), 3) := by
  unfold fx; rw [if_pos (by omega), if_pos (by omega)]
theorem fx_in {s : Nat} {l : List Int} {a e : Nat} (h2 : e ≤ l.length) (h : a + s ≤ e) : fx s l a e = (gv l a s, (a : Int) + s, 0) := by
  unfold fx; rw [if_pos (by omega), if_neg (by omega), Int.toNat_natCast]
end Go.Proofs.Ytpkccnoipbgnmaa
