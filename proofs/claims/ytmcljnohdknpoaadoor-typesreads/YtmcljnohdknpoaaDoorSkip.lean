/-
  The walks of the reader's skip and take; no statement is proved here.
-/
import Derived.Test.YtmcljnohdknpoaaDoorStepW
namespace Go.Proofs.YtmcljnohdknpoaaDoor
open Go.RowKit
set_option linter.unusedVariables false

theorem same_str (n : ByteArray) : (n.toList == n.toList) = true := beq_self_eq_true _
theorem other_str {n x : ByteArray} (h : n ≠ x) : (n.toList == x.toList) = false := by
  apply beq_eq_false_iff_ne.2
  intro he
  rw [ByteArray.toList_eq, ByteArray.toList_eq] at he
  exact h (ByteArray.ext (Array.toList_inj.1 he))
theorem RD.step {w : World} {b : Nat} {s : ByteArray} {p : Nat} (h : RD w b s p) (hs : s.size ≤ 65536) :
    Calls Tryd.prog 36 #[.pointer (some ⟨b, 0, none⟩)] w fun en w' => en = .returned (.tuple #[]) ∧ Turn [b] w w' ∧ RD w' b s (nx s p) := by
  have hz := tk_size s p h.2.1
  have hle := tend_le s p
  have := step_any b s (tk s p) p w h.1 (by have := tend_size s p h.2.1; omega) hs
  rw [show p + (tk s p).size = tend s p by omega] at this
  exact this
theorem RD.turn {w w' : World} {b : Nat} {s : ByteArray} {p : Nat} {S : List Nat} (h : RD w b s p) (t : Turn S w w') (hn : b ∉ S) : RD w' b s p := ⟨t.other h.1 hn, h.2⟩
theorem RD.grew {w w' : World} {b : Nat} {s : ByteArray} {p : Nat} (h : RD w b s p) (t : Grew w w') : RD w' b s p := h.turn (t.turn []) (by simp)
theorem skip_yes {w : World} {b : Nat} {s : ByteArray} {p : Nat} (h : RD w b s p) (hs : s.size ≤ 65536) (x : ByteArray) (hx : tk s p = x) :
    Calls Tryd.prog 38 #[.pointer (some ⟨b, 0, none⟩), .string x] w fun en w' => en = .returned (.bool true) ∧ Turn [b] w w' ∧ RD w' b s (nx s p) := by
  have c1 := cell_of h.1 1
  have C := h.step hs
  simp at c1
  rw [hx] at c1
  have he := same_str x
  clear h hx
  go_enter Tryd.func38, Tryd.ntmps38
  go_wp2_with fail
  refine C.mono ?_
  rintro en w1 ⟨rfl, t1, r1⟩
  go_wp2_with fail
  go_ret
  exact ⟨rfl, t1, r1⟩
theorem skip_no {w : World} {b : Nat} {s : ByteArray} {p : Nat} (h : RD w b s p) (x : ByteArray) (hx : tk s p ≠ x) :
    Calls Tryd.prog 38 #[.pointer (some ⟨b, 0, none⟩), .string x] w fun en w' => en = .returned (.bool false) ∧ w' = w := by
  have c1 := cell_of h.1 1
  simp at c1
  have he := other_str hx
  clear h hx
  generalize tk s p = n at *
  go_enter Tryd.func38, Tryd.ntmps38
  go_wp2_with fail
  go_ret
  exact ⟨rfl, rfl⟩
theorem take_yes {w : World} {b : Nat} {s : ByteArray} {p : Nat} (h : RD w b s p) (hs : s.size ≤ 65536) (x : ByteArray) (hx : tk s p = x) :
    Calls Tryd.prog 37 #[.pointer (some ⟨b, 0, none⟩), .string x] w fun en w' => en = .returned (.tuple #[]) ∧ Turn [b] w w' ∧ RD w' b s (nx s p) := by
  have C := skip_yes h hs x hx
  clear h hx
  go_enter Tryd.func37, Tryd.ntmps37
  go_wp2_with fail
  refine C.mono ?_
  rintro en w1 ⟨rfl, t1, r1⟩
  go_wp2_with fail
  go_end0
  exact ⟨rfl, t1, r1⟩
theorem take_no {w : World} {b : Nat} {s : ByteArray} {p : Nat} (h : RD w b s p) (x : ByteArray) (hx : tk s p ≠ x) :
    Calls Tryd.prog 37 #[.pointer (some ⟨b, 0, none⟩), .string x] w fun en w' => en = .panicked (flt p) ∧ w' = w := by
  have C := skip_no h x hx
  have D := giveUp_any b s (tk s p) p w h.1
  clear h hx
  go_enter Tryd.func37, Tryd.ntmps37
  go_wp2_with fail
  refine C.mono ?_
  rintro en w1 ⟨rfl, h1⟩
  obtain rfl := h1.symm
  go_wp2_with fail
  refine D.mono ?_
  rintro en w2 ⟨rfl, h2⟩
  obtain rfl := h2.symm
  go_wp2_with fail
  exact ⟨rfl, rfl, rfl⟩
end Go.Proofs.YtmcljnohdknpoaaDoor
