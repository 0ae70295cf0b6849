/-
  Plain mathematics: a number in LEB128 read from bytes, byte by byte; nothing of the program.
-/

namespace Go.Proofs.YtemaeigfhmnapaaGreatDoor

/- The bytes ahead of e, from a on. -/
def seg (l : List Int) (a e : Nat) : List Int := (l.take e).drop a
theorem seg_step {l : List Int} {a e k : Nat} (h : a + k < e) (he : e ≤ l.length) : (seg l a e).drop k = l.getD (a + k) 0 :: (seg l a e).drop (k + 1) := by
  unfold seg
  rw [List.drop_drop, List.drop_drop]
  have h1 : a + k < (l.take e).length := by simp; omega
  rw [List.drop_eq_getElem_cons h1, Nat.add_assoc]
  congr 1
  have h2 : a + k < l.length := by omega
  simp [List.getElem_take, List.getD, h2]
theorem seg_end {l : List Int} {a e k : Nat} (h : e ≤ a + k) : (seg l a e).drop k = [] := by
  unfold seg
  rw [List.drop_drop]
  apply List.drop_eq_nil_of_le
  simp; omega

/- May c be the last byte that may come, where so many bits are left? -/
def okB (left : Nat) (sg : Bool) (c : Int) : Bool :=
  decide (c < 128) && (if sg then decide (c / 2 ^ (left - 1) = 0) || decide (c / 2 ^ (left - 1) = 127 / 2 ^ (left - 1)) else decide (c / 2 ^ left = 0))
theorem okB_lt {left : Nat} {sg : Bool} {c : Int} (h : okB left sg c = true) : c < 128 := by
  unfold okB at h; simp at h; exact h.1

/- X with the seven bits of c laid above 7k bits, in 64 bits. -/
def addAt (X c : Int) (k : Nat) : Int := X + (c % 128) * 2 ^ (7 * k) % 18446744073709551616
/- The sign repeated above the width, in 64 bits. -/
def ws (n : Int) (width : Nat) (sg : Bool) : Int := if sg = true ∧ n / 2 ^ (width - 1) % 2 = 1 ∧ width < 64 then n + (18446744073709551616 - 2 ^ width) else n

/- m: the number of the last byte that may come. -/
def scan (m : Nat) (ok : Int → Bool) (sg : Bool) : List Int → Nat → Int → Int × Int × Int
  | [], i, _ => (0, i, 3)
  | c :: r, i, X => if i = m ∧ ok c = false then (0, i, 4) else if c < 128 then (ws (addAt X c i) (7 * i + 7) sg, i + 1, 0) else scan m ok sg r (i + 1) (addAt X c i)

def St (m : Nat) (ok : Int → Bool) (sg : Bool) (l : List Int) (a e : Nat) (k : Nat) (X : Int) : Prop :=
  scan m ok sg (seg l a e) 0 0 = scan m ok sg ((seg l a e).drop k) k X
section
variable {m : Nat} {ok : Int → Bool} {sg : Bool} {l : List Int} {a e k : Nat} {X c : Int}
theorem St.start : St m ok sg l a e 0 0 := rfl
theorem St.short (h : St m ok sg l a e k X) (hk : e ≤ a + k) : scan m ok sg (seg l a e) 0 0 = (0, (k : Int), 3) := by
  rw [h, seg_end hk]; rfl
theorem St.form (h : St m ok sg l a e k X) (hk : a + k < e) (he : e ≤ l.length) (hc : c = l.getD (a + k) 0) (hm : k = m) (ho : ok c = false) : scan m ok sg (seg l a e) 0 0 = (0, (k : Int), 4) := by
  rw [h, seg_step hk he, ← hc]; simp [scan, hm, ho]
theorem St.done (h : St m ok sg l a e k X) (hk : a + k < e) (he : e ≤ l.length) (hc : c = l.getD (a + k) 0) (hm : k = m → ok c = true) (ho : c < 128) :
    scan m ok sg (seg l a e) 0 0 = (ws (addAt X c k) (7 * k + 7) sg, (k : Int) + 1, 0) := by
  rw [h, seg_step hk he, ← hc, scan, if_neg (by rintro ⟨h1, h2⟩; rw [hm h1] at h2; cases h2), if_pos ho]
theorem St.next (h : St m ok sg l a e k X) (hk : a + k < e) (he : e ≤ l.length) (hc : c = l.getD (a + k) 0) (hm : k = m → ok c = true) (ho : ¬ c < 128) :
    St m ok sg l a e (k + 1) (addAt X c k) := by
  unfold St
  rw [h, seg_step hk he, ← hc, scan, if_neg (by rintro ⟨h1, h2⟩; rw [hm h1] at h2; cases h2), if_neg ho]
end

/- Reading a number of so many bits, signed or not, from at on, ahead of end: its 64 bits, the place behind it (or of the fault), the fault. -/
def rd (b : Nat) (sg : Bool) (l : List Int) (at_ end_ : Int) : Int × Int × Int :=
  if 0 ≤ at_ ∧ at_ ≤ end_ ∧ end_ ≤ l.length then
    ((scan ((b + 6) / 7 - 1) (okB (b - 7 * ((b + 6) / 7 - 1)) sg) sg (seg l at_.toNat end_.toNat) 0 0).1,
      at_ + (scan ((b + 6) / 7 - 1) (okB (b - 7 * ((b + 6) / 7 - 1)) sg) sg (seg l at_.toNat end_.toNat) 0 0).2.1,
      (scan ((b + 6) / 7 - 1) (okB (b - 7 * ((b + 6) / 7 - 1)) sg) sg (seg l at_.toNat end_.toNat) 0 0).2.2)
  else (0, 0, 1)
theorem rd_in {b : Nat} {sg : Bool} {l : List Int} {a e : Nat} {n p q : Int} (h1 : a ≤ e) (h2 : e ≤ l.length)
    (h : scan ((b + 6) / 7 - 1) (okB (b - 7 * ((b + 6) / 7 - 1)) sg) sg (seg l a e) 0 0 = (n, p, q)) : rd b sg l a e = (n, a + p, q) := by
  unfold rd
  rw [if_pos (by omega), Int.toNat_natCast, Int.toNat_natCast, h]
theorem rd_out {b : Nat} {sg : Bool} {l : List Int} {at_ end_ : Int} (h : ¬ (0 ≤ at_ ∧ at_ ≤ end_ ∧ end_ ≤ l.length)) : rd b sg l at_ end_ = (0, 0, 1) := by
  unfold rd; rw [if_neg h]

/- Ranges. -/
theorem pow7 (k : Nat) : (2 : Int) ^ (7 * (k + 1)) = 2 ^ (7 * k) * 128 := by
  rw [show 7 * (k + 1) = 7 * k + 7 from by omega, Int.pow_add]; rfl
theorem pow_pos7 (k : Nat) : (0 : Int) < 2 ^ (7 * k) := by
  induction k with
  | zero => decide
  | succ k ih => rw [pow7]; omega
theorem addAt_lo {X c : Int} (k : Nat) (h : 0 ≤ X) : 0 ≤ addAt X c k := by unfold addAt; omega
theorem addAt_hi {X c : Int} {k : Nat} (hX : X < 2 ^ (7 * k)) (hk : k ≤ 8) : addAt X c k < 2 ^ (7 * (k + 1)) := by
  have h : ∀ j : Nat, j ≤ 8 → k = j → addAt X c k < 2 ^ (7 * (k + 1)) := by
    intro j hj e; subst e; rw [pow7]; unfold addAt
    have hp := pow_pos7 k
    have hm : (c % 128) * 2 ^ (7 * k) ≤ 127 * 2 ^ (7 * k) := Int.mul_le_mul_of_nonneg_right (by omega) (by omega)
    have hn : 0 ≤ (c % 128) * 2 ^ (7 * k) := Int.mul_nonneg (by omega) (by omega)
    generalize (c % 128) * 2 ^ (7 * k) = t at *
    omega
  exact h k hk rfl
theorem addAt_64 {X c : Int} {k : Nat} (h0 : 0 ≤ X) (hX : X < 2 ^ (7 * k)) (hk : k ≤ 9) : addAt X c k < 18446744073709551616 := by
  have hk' : k = 0 ∨ k = 1 ∨ k = 2 ∨ k = 3 ∨ k = 4 ∨ k = 5 ∨ k = 6 ∨ k = 7 ∨ k = 8 ∨ k = 9 := by omega
  unfold addAt
  rcases hk' with rfl | rfl | rfl | rfl | rfl | rfl | rfl | rfl | rfl | rfl <;> simp at hX ⊢ <;> omega
end Go.Proofs.YtemaeigfhmnapaaGreatDoor
