/-
  The contracts of all readers, of the program and of the document, at whatever places; no statement is proved here.
-/
import Derived.Test.YtfnfbioenngjoaaDoorKit
import Derived.Outline
namespace Go.Proofs.YtfnfbioenngjoaaDoor

/- The bytes ahead of e, from a on. -/
def seg (l : List Int) (a e : Nat) : List Int := (l.take e).drop a
theorem seg_step {l : List Int} {a e k : Nat} (h : a + k < e) (he : e ≤ l.length) : (seg l a e).drop k = l.getD (a + k) 0 :: (seg l a e).drop (k + 1) := by
  unfold seg
  rw [List.drop_drop, List.drop_drop]
  have h1 : a + k < (l.take e).length := by simp; omega
  rw [List.drop_eq_getElem_cons h1, Nat.add_assoc]
  congr 1
  have h2 : a + k < l.length := by omega
  simp [List.getElem_take, List.getD, h2]
theorem seg_end {l : List Int} {a e k : Nat} (h : e ≤ a + k) : (seg l a e).drop k = [] := by
  unfold seg
  rw [List.drop_drop]
  apply List.drop_eq_nil_of_le
  simp; omega

/- May c be the last byte that may come, where so many bits are left? -/
def okB (left : Nat) (sg : Bool) (c : Int) : Bool :=
  decide (c < 128) && (if sg then decide (c / 2 ^ (left - 1) = 0) || decide (c / 2 ^ (left - 1) = 127 / 2 ^ (left - 1)) else decide (c / 2 ^ left = 0))
theorem okB_lt {left : Nat} {sg : Bool} {c : Int} (h : okB left sg c = true) : c < 128 := by
  unfold okB at h; simp at h; exact h.1

/- X with the seven bits of c laid above 7k bits, in 64 bits. -/
def addAt (X c : Int) (k : Nat) : Int := X + (c % 128) * 2 ^ (7 * k) % 18446744073709551616
/- The sign repeated above the width, in 64 bits. -/
def ws (n : Int) (width : Nat) (sg : Bool) : Int := if sg = true ∧ n / 2 ^ (width - 1) % 2 = 1 ∧ width < 64 then n + (18446744073709551616 - 2 ^ width) else n

/- m: the number of the last byte that may come. -/
def scan (m : Nat) (ok : Int → Bool) (sg : Bool) : List Int → Nat → Int → Int × Int × Int
  | [], i, _ => (0, i, 3)
  | c :: r, i, X => if i = m ∧ ok c = false then (0, i, 4) else if c < 128 then (ws (addAt X c i) (7 * i + 7) sg, i + 1, 0) else scan m ok sg r (i + 1) (addAt X c i)

def St (m : Nat) (ok : Int → Bool) (sg : Bool) (l : List Int) (a e : Nat) (k : Nat) (X : Int) : Prop :=
  scan m ok sg (seg l a e) 0 0 = scan m ok sg ((seg l a e).drop k) k X
section
variable {m : Nat} {ok : Int → Bool} {sg : Bool} {l : List Int} {a e k : Nat} {X c : Int}
theorem St.start : St m ok sg l a e 0 0 := rfl
theorem St.short (h : St m ok sg l a e k X) (hk : e ≤ a + k) : scan m ok sg (seg l a e) 0 0 = (0, (k : Int), 3) := by
  rw [h, seg_end hk]; rfl
theorem St.form (h : St m ok sg l a e k X) (hk : a + k < e) (he : e ≤ l.length) (hc : c = l.getD (a + k) 0) (hm : k = m) (ho : ok c = false) : scan m ok sg (seg l a e) 0 0 = (0, (k : Int), 4) := by
  rw [h, seg_step hk he, ← hc]; simp [scan, hm, ho]
theorem St.done (h : St m ok sg l a e k X) (hk : a + k < e) (he : e ≤ l.length) (hc : c = l.getD (a + k) 0) (hm : k = m → ok c = true) (ho : c < 128) :
    scan m ok sg (seg l a e) 0 0 = (ws (addAt X c k) (7 * k + 7) sg, (k : Int) + 1, 0) := by
  rw [h, seg_step hk he, ← hc, scan, if_neg (by rintro ⟨h1, h2⟩; rw [hm h1] at h2; cases h2), if_pos ho]
theorem St.next (h : St m ok sg l a e k X) (hk : a + k < e) (he : e ≤ l.length) (hc : c = l.getD (a + k) 0) (hm : k = m → ok c = true) (ho : ¬ c < 128) :
    St m ok sg l a e (k + 1) (addAt X c k) := by
  unfold St
  rw [h, seg_step hk he, ← hc, scan, if_neg (by rintro ⟨h1, h2⟩; rw [hm h1] at h2; cases h2), if_neg ho]
end

/- Reading a number of so many bits, signed or not, from at on, ahead of end: its 64 bits, the place behind it (or of the fault), the fault. -/
def rd (b : Nat) (sg : Bool) (l : List Int) (at_ end_ : Int) : Int × Int × Int :=
  if 0 ≤ at_ ∧ at_ ≤ end_ ∧ end_ ≤ l.length then
    ((scan ((b + 6) / 7 - 1) (okB (b - 7 * ((b + 6) / 7 - 1)) sg) sg (seg l at_.toNat end_.toNat) 0 0).1,
      at_ + (scan ((b + 6) / 7 - 1) (okB (b - 7 * ((b + 6) / 7 - 1)) sg) sg (seg l at_.toNat end_.toNat) 0 0).2.1,
      (scan ((b + 6) / 7 - 1) (okB (b - 7 * ((b + 6) / 7 - 1)) sg) sg (seg l at_.toNat end_.toNat) 0 0).2.2)
  else (0, 0, 1)
theorem rd_in {b : Nat} {sg : Bool} {l : List Int} {a e : Nat} {n p q : Int} (h1 : a ≤ e) (h2 : e ≤ l.length)
    (h : scan ((b + 6) / 7 - 1) (okB (b - 7 * ((b + 6) / 7 - 1)) sg) sg (seg l a e) 0 0 = (n, p, q)) : rd b sg l a e = (n, a + p, q) := by
  unfold rd
  rw [if_pos (by omega), Int.toNat_natCast, Int.toNat_natCast, h]
theorem rd_out {b : Nat} {sg : Bool} {l : List Int} {at_ end_ : Int} (h : ¬ (0 ≤ at_ ∧ at_ ≤ end_ ∧ end_ ≤ l.length)) : rd b sg l at_ end_ = (0, 0, 1) := by
  unfold rd; rw [if_neg h]

/- Ranges. -/
theorem pow7 (k : Nat) : (2 : Int) ^ (7 * (k + 1)) = 2 ^ (7 * k) * 128 := by
  rw [show 7 * (k + 1) = 7 * k + 7 from by omega, Int.pow_add]; rfl
theorem pow_pos7 (k : Nat) : (0 : Int) < 2 ^ (7 * k) := by
  induction k with
  | zero => decide
  | succ k ih => rw [pow7]; omega
theorem addAt_lo {X c : Int} (k : Nat) (h : 0 ≤ X) : 0 ≤ addAt X c k := by unfold addAt; omega
theorem addAt_hi {X c : Int} {k : Nat} (hX : X < 2 ^ (7 * k)) (hk : k ≤ 8) : addAt X c k < 2 ^ (7 * (k + 1)) := by
  have h : ∀ j : Nat, j ≤ 8 → k = j → addAt X c k < 2 ^ (7 * (k + 1)) := by
    intro j hj e; subst e; rw [pow7]; unfold addAt
    have hp := pow_pos7 k
    have hm : (c % 128) * 2 ^ (7 * k) ≤ 127 * 2 ^ (7 * k) := Int.mul_le_mul_of_nonneg_right (by omega) (by omega)
    have hn : 0 ≤ (c % 128) * 2 ^ (7 * k) := Int.mul_nonneg (by omega) (by omega)
    generalize (c % 128) * 2 ^ (7 * k) = t at *
    omega
  exact h k hk rfl
theorem addAt_64 {X c : Int} {k : Nat} (h0 : 0 ≤ X) (hX : X < 2 ^ (7 * k)) (hk : k ≤ 9) : addAt X c k < 18446744073709551616 := by
  have hk' : k = 0 ∨ k = 1 ∨ k = 2 ∨ k = 3 ∨ k = 4 ∨ k = 5 ∨ k = 6 ∨ k = 7 ∨ k = 8 ∨ k = 9 := by omega
  unfold addAt
  rcases hk' with rfl | rfl | rfl | rfl | rfl | rfl | rfl | rfl | rfl | rfl <;> simp at hX ⊢ <;> omega
end Go.Proofs.YtfnfbioenngjoaaDoor

namespace Go.Proofs.YtfnfbioenngjoaaDoor
open Go.RowKit
set_option linter.unusedVariables false

theorem wraps_u64 (n : Int) (h0 : 0 ≤ n) (h1 : n < 2 ^ 64) : IntKind.u64.wrap n = n := by rw [IntKind.wrap_u64]; omega
theorem and1 (x : Int) (h0 : 0 ≤ x) (h1 : x ≤ 18446744073709551615) : bits .and .u64 x 1 = x % 2 := bits_mask .u64 64 (by decide) wraps_u64 1 (by decide) x h0 (by omega)
theorem div_le (n : Int) (k : Nat) (h0 : 0 ≤ n) : 0 ≤ n / 2 ^ k ∧ n / 2 ^ k ≤ n := by
  have hp : (0 : Int) < 2 ^ k := Int.pow_pos (by decide)
  exact ⟨Int.ediv_nonneg h0 (by omega), Int.ediv_le_self _ h0⟩
theorem bits_or_comm (k : IntKind) (x y : Int) : bits .or k x y = bits .or k y x := by
  show k.wrap (((BitVec.ofInt k.bits x ||| BitVec.ofInt k.bits y).toNat : Nat) : Int) = k.wrap (((BitVec.ofInt k.bits y ||| BitVec.ofInt k.bits x).toNat : Nat) : Int)
  rw [BitVec.or_comm]
theorem ret_int {k : IntKind} {a b : Int} (h : a = b) : Ending.returned (.int k a) = .returned (.int k b) := by rw [h]
theorem signOr (n : Int) (width : Nat) (h0 : 0 ≤ n) (hw7 : width ≤ 63) (hn : n < 2 ^ width) :
    bits .or .u64 n (IntKind.u64.wrap (18446744073709551615 * 2 ^ width)) = n + (18446744073709551616 - 2 ^ width) := by
  have hp : (0 : Int) < 2 ^ width := Int.pow_pos (by decide)
  have hq : (2 : Int) ^ width * 2 ^ (64 - width) = 18446744073709551616 := by
    rw [← Int.pow_add, show width + (64 - width) = 64 from by omega]; rfl
  have hle : (2 : Int) ^ width ≤ 9223372036854775808 := by
    have h2 : (2 : Int) ≤ 2 ^ (64 - width) := by
      rw [show 64 - width = (63 - width) + 1 from by omega, Int.pow_succ]
      have : (0 : Int) < 2 ^ (63 - width) := Int.pow_pos (by decide)
      omega
    have h3 := Int.mul_le_mul_of_nonneg_left h2 (Int.le_of_lt hp)
    rw [hq] at h3
    omega
  have hm : (18446744073709551616 - (2 : Int) ^ width) % 2 ^ width = 0 := by
    rw [← hq, Int.sub_emod, Int.mul_emod_right, Int.emod_self]; simp
  rw [IntKind.wrap_u64, show (18446744073709551615 * (2 : Int) ^ width) % 18446744073709551616 = 18446744073709551616 - 2 ^ width from by omega, bits_or_comm,
    bits_join .u64 64 (by decide) wraps_u64 width _ n (by omega) hm (by omega) h0 hn (by omega)]
  omega
end Go.Proofs.YtfnfbioenngjoaaDoor

namespace Go.Proofs.YtfnfbioenngjoaaDoor
open Go.RowKit
set_option linter.unusedVariables false

theorem orStep (X c : Int) (k : Nat) (h0 : 0 ≤ X) (hX : X < 2 ^ (7 * k)) (hk : k ≤ 9) : bits .or .u64 X (IntKind.u64.wrap (c % 128 * 2 ^ (7 * k))) = addAt X c k := by
  have hp := pow_pos7 k
  have hq : (2 : Int) ^ (7 * k) * 2 ^ (64 - 7 * k) = 18446744073709551616 := by
    rw [← Int.pow_add, show 7 * k + (64 - 7 * k) = 64 from by omega]; rfl
  have h1 : (1 : Int) ≤ 2 ^ (64 - 7 * k) := by
    have : (0 : Int) < 2 ^ (64 - 7 * k) := Int.pow_pos (by decide)
    omega
  have h3 := Int.mul_le_mul_of_nonneg_left h1 (Int.le_of_lt hp)
  rw [hq, Int.mul_one] at h3
  have hm : (c % 128 * 2 ^ (7 * k)) % 18446744073709551616 % 2 ^ (7 * k) = 0 := by
    rw [Int.emod_emod_of_dvd _ ⟨_, hq.symm⟩, Int.mul_emod_left]
  rw [IntKind.wrap_u64, bits_or_comm, bits_join .u64 64 (by decide) wraps_u64 (7 * k) _ X (by omega) hm (by omega) h0 hX (by omega), addAt]
  omega

theorem ret_3 {k1 k2 k3 : IntKind} {a b c a' b' c' : Int} (h1 : a = a') (h2 : b = b') (h3 : c = c') :
    Ending.returned (.tuple #[.int k1 a, .int k2 b, .int k3 c]) = .returned (.tuple #[.int k1 a', .int k2 b', .int k3 c']) := by rw [h1, h2, h3]

end Go.Proofs.YtfnfbioenngjoaaDoor

namespace Go.Proofs.YtfnfbioenngjoaaDoor
open Go.RowKit
set_option linter.unusedVariables false

end Go.Proofs.YtfnfbioenngjoaaDoor

namespace Go.Proofs.YtfnfbioenngjoaaDoor
open Go.RowKit
set_option linter.unusedVariables false

theorem k8 {k : Nat} (h : k ≤ 8) : k = 0 ∨ k = 1 ∨ k = 2 ∨ k = 3 ∨ k = 4 ∨ k = 5 ∨ k = 6 ∨ k = 7 ∨ k = 8 := by omega
theorem wsRef_yes {X c : Int} {k : Nat} (hk : k ≤ 8) (h0 : 0 ≤ X) (hX : X < 2 ^ (7 * k)) (hc : 64 ≤ c) (hc' : c < 128) :
    ws (addAt X c k) (7 * k + 7) true = IntKind.u64.wrap (addAt X c k - IntKind.u64.wrap (2 ^ (7 * k + 7))) := by
  rw [IntKind.wrap_u64, IntKind.wrap_u64, ws, addAt]
  rcases k8 hk with rfl | rfl | rfl | rfl | rfl | rfl | rfl | rfl | rfl <;> simp at hX ⊢ <;> (rw [if_pos (by omega)]; omega)
theorem wsRef_no {X c : Int} {k : Nat} (h0 : 0 ≤ X) (hX : X < 2 ^ (7 * k)) (hc0 : 0 ≤ c) (hc : c < 64) :
    ws (addAt X c k) (7 * k + 7) true = addAt X c k := by
  by_cases hk : k ≤ 8
  · rw [ws, addAt]
    rcases k8 hk with rfl | rfl | rfl | rfl | rfl | rfl | rfl | rfl | rfl <;> simp at hX ⊢ <;> omega
  · rw [ws, if_neg (by omega)]
theorem ws9 {n : Int} {k : Nat} (hk : 9 ≤ k) : ws n (7 * k + 7) true = n := by rw [ws, if_neg (by omega)]
theorem wsU {n : Int} {k : Nat} : ws n k false = n := by simp [ws]
theorem addStep (X c : Int) (k : Nat) (h0 : 0 ≤ X) (hX : X < 2 ^ (7 * k)) (hk : k ≤ 9) : IntKind.u64.wrap (X + IntKind.u64.wrap (c % 128 * 2 ^ (7 * k))) = addAt X c k := by
  have := addAt_64 (c := c) h0 hX hk
  have h1 := addAt_lo (c := c) k h0
  unfold addAt at *
  rw [IntKind.wrap_u64, IntKind.wrap_u64]; omega

end Go.Proofs.YtfnfbioenngjoaaDoor

namespace Go.Proofs.YtfnfbioenngjoaaDoor
open Go.RowKit
set_option linter.unusedVariables false

/- Bytes are bytes. -/
def Byt (l : List Int) : Prop := ∀ j, 0 ≤ l.getD j 0 ∧ l.getD j 0 ≤ 255
theorem split_in {x y : Int} {n : Nat} (h : 0 ≤ x ∧ x ≤ y ∧ y ≤ n) : ∃ a e : Nat, x = a ∧ y = e ∧ a ≤ e ∧ e ≤ n := by
  obtain ⟨h0, h1, h2⟩ := h
  exact ⟨x.toNat, y.toNat, by omega, by omega, by omega, by omega⟩
theorem loop_pair {α β γ : Type} {r : α × β × γ} {a : α} {b : β} {c : γ} (h : r = (a, b, c)) : r.1 = a ∧ r.2.1 = b ∧ r.2.2 = c := by subst h; exact ⟨rfl, rfl, rfl⟩

end Go.Proofs.YtfnfbioenngjoaaDoor
