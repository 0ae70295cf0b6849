/-
  An extern's kind written; what the document's blank answers; no statement is proved here.
-/
import Derived.Test.YtchehejjdinifaaGreatDoorE8x
import Derived.Test.YtchehejjdinifaaGreatDoorE8l
namespace Go.Proofs.YtchehejjdinifaaGreatDoor
open Go.RowKit
set_option linter.unusedVariables false
set_option linter.unusedSimpArgs false
set_option linter.constructorNameAsVariable false

def kindW (k : Int) : Except Nat (List Int) := if 0 ≤ k ∧ k ≤ 4 then .ok [k] else .error 4
set_option maxRecDepth 100000 in
set_option maxHeartbeats 1000000 in
theorem kind2 {b B : Nat} {w : World} {l : List Int} (h : WS b B w l) (k : Int) (hl : l.length ≤ 17592186040000) :
    Calls Tryz.prog 49 #[.pointer (some ⟨b, 0, none⟩), .int .i64 k] w (W2 b B w l (kindW k)) := by
  have H : Hid (WS b B w l) := h
  have C1 := need_yes h
  have C2 := need_no h
  clear h
  unfold kindW
  by_cases hk : 0 ≤ k ∧ k ≤ 4
  · rw [if_pos hk]
    have d0 : decide (0 ≤ k) = true := by simp; omega
    have d1 : decide (k ≤ 4) = true := by simp; omega
    have hw : IntKind.u8.wrap k = k := by rw [IntKind.wrap_u8]; omega
    clear C2
    go_enter Tryz.func49, Tryz.ntmps49
    go_wp2_with fail
    refine C1.mono ?_
    rintro en w9 ⟨rfl, h9⟩
    obtain rfl := h9.symm
    clear C1
    go_wp2_with fail
    refine (W2.okc (put2 (r := [k]) (H.out.grew ((Grew.refl _).alloc _)) (reads_new _ _ _) (by simp; omega)) rfl).mono ?_
    rintro en w1 ⟨rfl, t1, s1⟩
    have T1 : Hid (WT b B w w1) := (WT.of_grew ((Grew.refl _).alloc _)).trans t1
    have S1 : Hid (WS b B w1 (l ++ [k])) := s1
    clear t1 s1
    go_wp2_with fail
    go_end0
    exact ⟨rfl, T1.out, S1.out⟩
  · rw [if_neg hk]
    clear C1
    by_cases h0 : 0 ≤ k
    · have d0 : decide (0 ≤ k) = true := by simp; omega
      have d1 : decide (k ≤ 4) = false := by simp; omega
      go_enter Tryz.func49, Tryz.ntmps49
      go_wp2_with fail
      refine C2.mono ?_
      rintro en w9 ⟨⟨p, rfl⟩, h9⟩
      obtain rfl := h9.symm
      go_wp2_with fail
      exact ⟨rfl, ⟨p, rfl⟩, WT.refl _ _ _⟩
    · have d0 : decide (0 ≤ k) = false := by simp; omega
      go_enter Tryz.func49, Tryz.ntmps49
      go_wp2_with fail
      refine C2.mono ?_
      rintro en w9 ⟨⟨p, rfl⟩, h9⟩
      obtain rfl := h9.symm
      go_wp2_with fail
      exact ⟨rfl, ⟨p, rfl⟩, WT.refl _ _ _⟩
end Go.Proofs.YtchehejjdinifaaGreatDoor
