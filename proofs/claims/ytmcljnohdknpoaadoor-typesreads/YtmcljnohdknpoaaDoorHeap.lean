/-
  The walks of the reader's heap, ref and val; no statement is proved here.
-/
import Derived.Test.YtmcljnohdknpoaaDoorNumb
namespace Go.Proofs.YtmcljnohdknpoaaDoor
open Go.RowKit
set_option linter.unusedVariables false
set_option linter.unusedSimpArgs false

def heapIdx (x : ByteArray) : Option Nat := (List.range 12).find? fun k => decide (heapW k = x)
theorem heapIdx_some {x : ByteArray} {m : Nat} (h : heapIdx x = some m) : m < 12 ∧ heapW m = x ∧ ∀ k, k < m → heapW k ≠ x := by
  unfold heapIdx at h
  obtain ⟨h1, i, hi, hm, h2⟩ := List.find?_eq_some_iff_getElem.1 h
  simp at hi hm
  subst hm
  simp only [decide_eq_true_eq] at h1
  refine ⟨hi, h1, fun k hk => ?_⟩
  have := h2 k hk
  simpa only [List.getElem_range, Bool.not_eq_true', decide_eq_false_iff_not] using this
theorem heapIdx_none {x : ByteArray} (h : heapIdx x = none) : ∀ k, k < 12 → heapW k ≠ x := by
  intro k hk
  unfold heapIdx at h
  have := List.find?_eq_none.1 h k (by simpa using hk)
  simpa only [decide_eq_true_eq] using this
/- The heap type that a word tells. -/
def heapOf (x : ByteArray) : Option Int := match heapIdx x with
  | some k => some (-1 - (k : Int))
  | none => numAt x
set_option maxRecDepth 100000 in
theorem heap_word {w : World} {b : Nat} {s : ByteArray} {p m : Nat} (h : RD w b s p) (hs : s.size ≤ 65536) (hT : Tabs w) (hm : heapIdx (tk s p) = some m) :
    Calls Tryd.prog 61 #[.pointer (some ⟨b, 0, none⟩)] w fun en w' => en = .returned (.int .i64 (-1 - (m : Int))) ∧ Turn [b] w w' ∧ RD w' b s (nx s p) := by
  obtain ⟨hm8, hmx, hlow⟩ := heapIdx_some hm
  have HT : Hid (∀ (j : Nat) (v : Value), HW[j]? = some v → w.cell? ⟨1, j, none⟩ = some v) := hT.2
  have HR : Hid (RD w b s p) := h
  clear hm h hT
  go_enter Tryd.func61, Tryd.ntmps61
  go_wp2_with (refine wpList_load_glob rfl 91 1 rfl HW 12 9 Tryd.underlying91 (by kernel_rfl) HT.out ?_)
  go_loop [6] (fun i_ => ∃ k : Nat, i_ = .int .i64 k ∧ k ≤ m) (fun i_ => m - (intOf i_).toNat)
  case atStart => exact ⟨0, rfl, Nat.zero_le _⟩
  case round =>
    obtain ⟨k, rfl, hk⟩ := hrel
    have hidx := fun w => hw_idx k (by omega) w
    have hd : decide ((k : Int) < 12) = true := by simp; omega
    by_cases hkm : k = m
    · subst hkm
      have C := skip_yes HR.out hs (heapW k) hmx.symm
      clear hlow hmx
      generalize heapW k = y at *
      go_wp2_with fail
      refine C.mono ?_
      rintro en w2 ⟨rfl, t2, r2⟩
      have T2 : Hid (Turn [b] w w2) := t2
      have R2 : Hid (RD w2 b s (nx s p)) := r2
      clear t2 r2 C
      go_wp2_with fail
      go_ret
      exact ⟨by simp, T2.out, R2.out⟩
    · have C := skip_no HR.out (heapW k) (fun h => hlow k (by omega) h.symm)
      clear hlow hmx
      generalize heapW k = y at *
      go_wp2_with fail
      refine C.mono ?_
      rintro en w2 ⟨rfl, h2⟩
      obtain rfl := h2.symm
      go_wp2_with fail
      go_round
      case rel => exact ⟨k + 1, by go_num, by omega⟩
      case measure => simp [intOf]; omega
/- What a reader's call answers: a value and the place behind it, or the place of a fault. -/
def Ans {α : Type} (v : α → Value) (b : Nat) (s : ByteArray) (w : World) (r : Except Nat (α × Nat)) (en : Ending) (w' : World) : Prop :=
  match r with
  | .ok (a, q) => en = .returned (v a) ∧ Turn [b] w w' ∧ RD w' b s q
  | .error f => en = .panicked (flt f) ∧ Turn [b] w w'
def numberS (s : ByteArray) (p : Nat) : Except Nat (Int × Nat) := match numAt (tk s p) with
  | some n => .ok (n, nx s p)
  | none => .error p
def heapS (s : ByteArray) (p : Nat) : Except Nat (Int × Nat) := match heapOf (tk s p) with
  | some n => .ok (n, nx s p)
  | none => .error p
def iv (n : Int) : Value := .int .i64 n
theorem number_any {w : World} {b : Nat} {s : ByteArray} {p : Nat} (h : RD w b s p) (hs : s.size ≤ 65536) (he : Env w) :
    Calls Tryd.prog 67 #[.pointer (some ⟨b, 0, none⟩)] w (Ans iv b s w (numberS s p)) := by
  unfold numberS
  cases hn : numAt (tk s p) with
  | some n => exact number_ok h hs he hn
  | none => exact (number_bad h hs he hn).mono fun en w' ⟨h1, h2⟩ => ⟨h1, h2.turn _⟩
set_option maxRecDepth 100000 in
theorem heap_num {w : World} {b : Nat} {s : ByteArray} {p : Nat} (h : RD w b s p) (hs : s.size ≤ 65536) (he : Env w) (hm : heapIdx (tk s p) = none) :
    Calls Tryd.prog 61 #[.pointer (some ⟨b, 0, none⟩)] w (Ans iv b s w (numberS s p)) := by
  have hlow := heapIdx_none hm
  have HT : Hid (∀ (j : Nat) (v : Value), HW[j]? = some v → w.cell? ⟨1, j, none⟩ = some v) := he.tabs.2
  have HR : Hid (RD w b s p) := h
  have N := number_any h hs he
  obtain ⟨r, hr⟩ : ∃ r, r = numberS s p := ⟨_, rfl⟩
  rw [← hr] at N ⊢
  clear hm h he hr
  go_enter Tryd.func61, Tryd.ntmps61
  go_wp2_with (refine wpList_load_glob rfl 91 1 rfl HW 12 9 Tryd.underlying91 (by kernel_rfl) HT.out ?_)
  go_loop [6] (fun i_ => ∃ k : Nat, i_ = .int .i64 k ∧ k ≤ 12) (fun i_ => 12 - (intOf i_).toNat)
  case atStart => exact ⟨0, rfl, Nat.zero_le _⟩
  case round =>
    obtain ⟨k, rfl, hk⟩ := hrel
    by_cases hkm : k = 12
    · subst hkm
      clear hlow
      go_wp2_with fail
      refine N.mono ?_
      intro en w2 A
      match r, A with
      | .ok (n, q), ⟨he, t2, r2⟩ =>
        subst he
        have T2 : Hid (Turn [b] w w2) := t2
        have R2 : Hid (RD w2 b s q) := r2
        clear t2 r2 N
        unfold iv
        go_wp2_with fail
        go_ret
        exact ⟨by rfl, T2.out, R2.out⟩
      | .error f, ⟨he, t2⟩ =>
        subst he
        go_wp2_with fail
        exact ⟨rfl, rfl, t2⟩
    · have hidx := fun w => hw_idx k (by omega) w
      have hd : decide ((k : Int) < 12) = true := by simp; omega
      have C := skip_no HR.out (heapW k) (fun h => hlow k (by omega) h.symm)
      clear hlow
      generalize heapW k = y at *
      go_wp2_with fail
      refine C.mono ?_
      rintro en w2 ⟨rfl, h2⟩
      obtain rfl := h2.symm
      go_wp2_with fail
      go_round
      case rel => exact ⟨k + 1, by go_num, by omega⟩
      case measure => simp [intOf]; omega
theorem heap_any {w : World} {b : Nat} {s : ByteArray} {p : Nat} (h : RD w b s p) (hs : s.size ≤ 65536) (he : Env w) :
    Calls Tryd.prog 61 #[.pointer (some ⟨b, 0, none⟩)] w (Ans iv b s w (heapS s p)) := by
  unfold heapS heapOf
  cases hm : heapIdx (tk s p) with
  | some m => exact heap_word h hs he.tabs hm
  | none => exact heap_num h hs he hm
end Go.Proofs.YtmcljnohdknpoaaDoor
