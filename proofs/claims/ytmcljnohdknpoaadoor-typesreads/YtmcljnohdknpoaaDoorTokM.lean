/-
  Plain facts on texts: blanks, words and brackets by their places; no statement is proved here.
-/
import Derived.WalkKit
namespace Go.Proofs.YtmcljnohdknpoaaDoor
set_option linter.unusedVariables false

/- The byte at a place, 0 behind the end. -/
def bt (s : ByteArray) (i : Nat) : Nat := if h : i < s.size then (s[i]'h).toNat else 0
theorem bt_get {s : ByteArray} {i : Nat} (h : i < s.size) : (s[i]'h).toNat = bt s i := by unfold bt; rw [dif_pos h]
theorem bt_lt (s : ByteArray) (i : Nat) : bt s i < 256 := by
  unfold bt
  split
  · exact UInt8.toNat_lt _
  · decide
def bl (c : Nat) : Bool := c == 32 || c == 9 || c == 10
def br (c : Nat) : Bool := c == 40 || c == 41
/- The first place from i on that is no blank. -/
def skpN (s : ByteArray) : Nat → Nat → Nat
  | 0, i => i
  | n + 1, i => if i < s.size ∧ bl (bt s i) = true then skpN s n (i + 1) else i
def skp (s : ByteArray) (i : Nat) : Nat := skpN s (s.size - i) i
/- The first place from i on that is no letter of a word. -/
def ltrN (s : ByteArray) : Nat → Nat → Nat
  | 0, i => i
  | n + 1, i => if i < s.size ∧ bl (bt s i) = false ∧ br (bt s i) = false then ltrN s n (i + 1) else i
def ltr (s : ByteArray) (i : Nat) : Nat := ltrN s (s.size - i) i
theorem skp_on {s : ByteArray} {i : Nat} (h : i < s.size) (hb : bl (bt s i) = true) : skp s i = skp s (i + 1) := by
  unfold skp
  rw [show s.size - i = (s.size - (i + 1)) + 1 by omega, skpN, if_pos ⟨h, hb⟩]
theorem skp_off {s : ByteArray} {i : Nat} (h : ¬ (i < s.size ∧ bl (bt s i) = true)) : skp s i = i := by
  unfold skp
  cases s.size - i with
  | zero => rfl
  | succ n => rw [skpN, if_neg h]
theorem ltr_on {s : ByteArray} {i : Nat} (h : i < s.size) (hb : bl (bt s i) = false) (hr : br (bt s i) = false) : ltr s i = ltr s (i + 1) := by
  unfold ltr
  rw [show s.size - i = (s.size - (i + 1)) + 1 by omega, ltrN, if_pos ⟨h, hb, hr⟩]
theorem ltr_off {s : ByteArray} {i : Nat} (h : ¬ (i < s.size ∧ bl (bt s i) = false ∧ br (bt s i) = false)) : ltr s i = i := by
  unfold ltr
  cases s.size - i with
  | zero => rfl
  | succ n => rw [ltrN, if_neg h]
theorem skp_le (s : ByteArray) (i : Nat) : i ≤ skp s i := by
  induction hn : s.size - i using Nat.strongRecOn generalizing i with
  | _ n ih =>
    by_cases h : i < s.size ∧ bl (bt s i) = true
    · rw [skp_on h.1 h.2]
      have := ih (s.size - (i + 1)) (by omega) (i + 1) rfl
      omega
    · rw [skp_off h]; exact Nat.le_refl _
theorem skp_size (s : ByteArray) (i : Nat) (hi : i ≤ s.size) : skp s i ≤ s.size := by
  induction hn : s.size - i using Nat.strongRecOn generalizing i with
  | _ n ih =>
    by_cases h : i < s.size ∧ bl (bt s i) = true
    · rw [skp_on h.1 h.2]
      exact ih (s.size - (i + 1)) (by omega) (i + 1) (by omega) rfl
    · rw [skp_off h]; exact hi
theorem skp_stop (s : ByteArray) (i : Nat) : ¬ (skp s i < s.size ∧ bl (bt s (skp s i)) = true) := by
  induction hn : s.size - i using Nat.strongRecOn generalizing i with
  | _ n ih =>
    by_cases h : i < s.size ∧ bl (bt s i) = true
    · rw [skp_on h.1 h.2]
      exact ih (s.size - (i + 1)) (by omega) (i + 1) rfl
    · rw [skp_off h]; exact h
theorem skp_skp (s : ByteArray) (i : Nat) : skp s (skp s i) = skp s i := skp_off (skp_stop s i)
theorem ltr_le (s : ByteArray) (i : Nat) : i ≤ ltr s i := by
  induction hn : s.size - i using Nat.strongRecOn generalizing i with
  | _ n ih =>
    by_cases h : i < s.size ∧ bl (bt s i) = false ∧ br (bt s i) = false
    · rw [ltr_on h.1 h.2.1 h.2.2]
      have := ih (s.size - (i + 1)) (by omega) (i + 1) rfl
      omega
    · rw [ltr_off h]; exact Nat.le_refl _
theorem ltr_size (s : ByteArray) (i : Nat) (hi : i ≤ s.size) : ltr s i ≤ s.size := by
  induction hn : s.size - i using Nat.strongRecOn generalizing i with
  | _ n ih =>
    by_cases h : i < s.size ∧ bl (bt s i) = false ∧ br (bt s i) = false
    · rw [ltr_on h.1 h.2.1 h.2.2]
      exact ih (s.size - (i + 1)) (by omega) (i + 1) (by omega) rfl
    · rw [ltr_off h]; exact hi
/- Where the word or bracket at p ends (p is no blank's place). -/
def tend (s : ByteArray) (p : Nat) : Nat := if p < s.size ∧ br (bt s p) = true then p + 1 else ltr s p
def tk (s : ByteArray) (p : Nat) : ByteArray := s.extract p (tend s p)
def nx (s : ByteArray) (p : Nat) : Nat := skp s (tend s p)
theorem tend_le (s : ByteArray) (p : Nat) : p ≤ tend s p := by
  unfold tend; split
  · omega
  · exact ltr_le s p
theorem tend_size (s : ByteArray) (p : Nat) (h : p ≤ s.size) : tend s p ≤ s.size := by
  unfold tend; split
  · omega
  · exact ltr_size s p h
theorem nx_le (s : ByteArray) (p : Nat) : p ≤ nx s p := Nat.le_trans (tend_le s p) (skp_le s _)
theorem nx_size (s : ByteArray) (p : Nat) (h : p ≤ s.size) : nx s p ≤ s.size := skp_size s _ (tend_size s p h)
theorem tk_size (s : ByteArray) (p : Nat) (h : p ≤ s.size) : (tk s p).size = tend s p - p := by
  unfold tk
  rw [ByteArray.size_extract]
  have := tend_size s p h
  omega
/- A place where a word or bracket may begin, or the end. -/
def At (s : ByteArray) (p : Nat) : Prop := p ≤ s.size ∧ ¬ (p < s.size ∧ bl (bt s p) = true)
theorem At.skp {s : ByteArray} {i : Nat} (h : i ≤ s.size) : At s (skp s i) := ⟨skp_size s i h, skp_stop s i⟩
theorem At.nx {s : ByteArray} {p : Nat} (h : At s p) : At s (nx s p) := At.skp (tend_size s p h.1)
theorem At.tend_lt {s : ByteArray} {p : Nat} (h : At s p) (hp : p < s.size) : p < tend s p := by
  unfold tend
  split
  · omega
  · rename_i hb
    have h1 : bl (bt s p) = false := by
      cases hx : bl (bt s p) with
      | false => rfl
      | true => exact absurd ⟨hp, hx⟩ h.2
    have h2 : br (bt s p) = false := by
      cases hx : br (bt s p) with
      | false => rfl
      | true => exact absurd ⟨hp, hx⟩ hb
    rw [ltr_on hp h1 h2]
    exact ltr_le s (p + 1)
theorem At.nx_lt {s : ByteArray} {p : Nat} (h : At s p) (hp : p < s.size) : p < Go.Proofs.YtmcljnohdknpoaaDoor.nx s p := Nat.lt_of_lt_of_le (h.tend_lt hp) (skp_le s _)
/- The token is empty just at the end. -/
theorem At.empty {s : ByteArray} {p : Nat} (h : At s p) : (tk s p).size = 0 ↔ p = s.size := by
  rw [tk_size s p h.1]
  constructor
  · intro h0
    by_cases hp : p < s.size
    · have := h.tend_lt hp; omega
    · have := h.1; omega
  · rintro rfl
    have := tend_size s s.size (Nat.le_refl _)
    omega
/- Bytes of a part of a text. -/
theorem bt_extract (s : ByteArray) (a b i : Nat) (h : a + i < b) (hb : b ≤ s.size) : bt (s.extract a b) i = bt s (a + i) := by
  unfold bt
  rw [dif_pos (by rw [ByteArray.size_extract]; omega), dif_pos (by omega)]
  rw [ByteArray.getElem_extract]
/- Letters counted in what is left. -/
theorem ltr_extract (s : ByteArray) (p i : Nat) (hp : p ≤ s.size) (hi : p + i ≤ s.size) : p + ltr (s.extract p s.size) i = ltr s (p + i) := by
  have hz : (s.extract p s.size).size = s.size - p := by rw [ByteArray.size_extract]; omega
  induction hn : s.size - (p + i) using Nat.strongRecOn generalizing i with
  | _ n ih =>
    by_cases h : p + i < s.size
    · have hb := bt_extract s p s.size i h (Nat.le_refl _)
      by_cases hc : bl (bt s (p + i)) = false ∧ br (bt s (p + i)) = false
      · rw [ltr_on h hc.1 hc.2, ltr_on (by omega) (by rw [hb]; exact hc.1) (by rw [hb]; exact hc.2)]
        rw [ih (s.size - (p + (i + 1))) (by omega) (i + 1) (by omega) rfl]
        rfl
      · rw [ltr_off (fun h => hc h.2), ltr_off (fun h => hc (by rw [← hb]; exact h.2))]
    · rw [ltr_off (fun hh => h hh.1), ltr_off (fun hh => by have := hh.1; omega)]
theorem extract_extract (s : ByteArray) (p n : Nat) (h : p + n ≤ s.size) : (s.extract p s.size).extract 0 n = s.extract p (p + n) := by
  rw [ByteArray.extract_extract]
  congr 1
  omega
end Go.Proofs.YtmcljnohdknpoaaDoor
