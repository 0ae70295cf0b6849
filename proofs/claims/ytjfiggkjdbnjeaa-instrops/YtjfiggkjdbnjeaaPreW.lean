/-
  The walks of HasPrefix and CutPrefix; no statement is proved here.
-/
import Derived.Test.YtjfiggkjdbnjeaaNameW
namespace Go.Proofs.Ytjfiggkjdbnjeaa
open Go.RowKit
set_option linter.unusedVariables false
set_option linter.unusedSimpArgs false

theorem BA_toList (l : List UInt8) : (BA l).toList = l := by rw [ByteArray.toList_eq]; simp [BA]
theorem BA_eq (a b : List UInt8) : ((BA a).toList == (BA b).toList) = decide (a = b) := by rw [BA_toList, BA_toList]; by_cases h : a = b <;> simp [h]
theorem take_app (p x : List UInt8) : (p ++ x).take p.length = p := by simp
set_option maxRecDepth 100000 in
theorem hasPrefix_any (s p : List UInt8) (hl : s.length ≤ 9223372036854775807) (hp : p.length ≤ 1000) (w : World) :
    Calls Try.prog 26 #[.string (BA s), .string (BA p)] w fun e w' => e = .returned (.bool (decide (p.length ≤ s.length ∧ s.take p.length = p))) ∧ w' = w := by
  have z1 := BA_size s
  have z2 := BA_size p
  by_cases h : p.length ≤ s.length
  · have hsl : ∀ W, (Instr.slice 9 (.string (BA s)) none (some (.int .i64 (p.length : Int))) none).run Try.prog W = .ok (.string (BA (s.take p.length))) W := by
      intro W
      rw [run_slice_string_to_if W 9 _ _ _ Try.underlying9, if_pos ⟨by omega, by rw [z1]; omega⟩, Int.toNat_natCast, BA_extract]
      rfl
    have e1 : Hid (decide (p.length ≤ s.length ∧ s.take p.length = p) = ((BA (s.take p.length)).toList == (BA p).toList)) := by
      show _ = _
      rw [BA_eq]
      simp [h]
    go_enter Try.func26, Try.ntmps26
    go_wp2
    go_ret
    rw [e1.out]
    exact ⟨rfl, rfl⟩
  · have e1 : Hid (decide (p.length ≤ s.length ∧ s.take p.length = p) = false) := by show _ = _; simp; omega
    go_enter Try.func26, Try.ntmps26
    go_wp2
    go_ret
    rw [e1.out]
    exact ⟨rfl, rfl⟩
set_option maxRecDepth 100000 in
theorem cutPre_lite (s p : List UInt8) (hl : s.length ≤ 9223372036854775807) (hp : p.length ≤ 1000) (w : World) :
    Calls Try.prog 25 #[.string (BA s), .string (BA p)] w fun e w' => w' = w ∧ ((∃ x, s = p ++ x ∧ e = .returned (.tuple #[.string (BA x), .bool true])) ∨ ((∀ x, s ≠ p ++ x) ∧ ∃ y, e = .returned (.tuple #[.string (BA y), .bool false]))) := by
  have C := hasPrefix_any s p hl hp w
  have z1 := BA_size s
  have z2 := BA_size p
  by_cases h : p.length ≤ s.length ∧ s.take p.length = p
  · rw [decide_eq_true h] at C
    obtain ⟨x, rfl⟩ : ∃ x, s = p ++ x := ⟨s.drop p.length, by have := (List.take_append_drop p.length s).symm; rwa [h.2] at this⟩
    have hsl : ∀ W, (Instr.slice 9 (.string (BA (p ++ x))) (some (.int .i64 (p.length : Int))) none none).run Try.prog W = .ok (.string (BA x)) W := by
      intro W
      rw [run_slice_string_from_if W 9 _ _ _ Try.underlying9, if_pos ⟨by omega, by rw [z1]; simp; omega⟩, Int.toNat_natCast, BA_extract, z1, List.take_length, List.drop_left' rfl]
    generalize BA (p ++ x) = S at *
    clear h
    go_enter Try.func25, Try.ntmps25
    go_wp2_with fail
    refine C.mono ?_
    rintro en w' ⟨rfl, rfl⟩
    go_wp2_with fail
    go_ret2
    exact ⟨rfl, Or.inl ⟨x, rfl, rfl⟩⟩
  · rw [decide_eq_false h] at C
    have hno : Hid (∀ x, s ≠ p ++ x) := fun x hx => h ⟨by rw [hx]; simp, by rw [hx]; simp⟩
    clear h
    go_enter Try.func25, Try.ntmps25
    go_wp2_with fail
    refine C.mono ?_
    rintro en w' ⟨rfl, rfl⟩
    go_wp2_with fail
    go_ret2
    exact ⟨rfl, Or.inr ⟨hno.out, s, rfl⟩⟩
set_option maxRecDepth 100000 in
theorem cutPre_any (s p : List UInt8) (hl : s.length ≤ 9223372036854775807) (hp : p.length ≤ 1000) (w : World) :
    Calls Try.prog 20 #[.string (BA s), .string (BA p)] w fun e w' => w' = w ∧ ((∃ x, s = p ++ x ∧ e = .returned (.tuple #[.string (BA x), .bool true])) ∨ ((∀ x, s ≠ p ++ x) ∧ ∃ y, e = .returned (.tuple #[.string (BA y), .bool false]))) := by
  have C := cutPre_lite s p hl hp w
  go_enter Try.func20, Try.ntmps20
  go_wp2_with fail
  refine C.mono ?_
  rintro en w' ⟨rfl, ⟨x, hx, rfl⟩ | ⟨hx, y, rfl⟩⟩
  · have HX : Hid (s = p ++ x) := hx
    clear hx C
    go_wp2_with fail
    go_ret2
    exact ⟨rfl, Or.inl ⟨x, HX.out, rfl⟩⟩
  · have HX : Hid (∀ x, s ≠ p ++ x) := hx
    clear hx C
    go_wp2_with fail
    go_ret2
    exact ⟨rfl, Or.inr ⟨HX.out, y, rfl⟩⟩
end Go.Proofs.Ytjfiggkjdbnjeaa
