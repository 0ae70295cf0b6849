/-
  slices.Max of a list of numbers; no statement is proved here.
-/
import Derived.Test.YtojkonoffdlbpaaDoorOrdC
namespace Go.Proofs.YtojkonoffdlbpaaDoor
open Go.RowKit
set_option linter.unusedVariables false
set_option linter.unusedSimpArgs false

set_option maxRecDepth 100000 in
set_option maxHeartbeats 2000000 in
theorem max_any {w : World} {v : Value} {l : List Int} (h : LI w v l) (h0 : 0 < l.length) (hl : l.length ≤ 1048576) :
    Calls Tryd.prog 19 #[v] w fun en w' => ∃ m : Int, en = .returned (.int .i64 m) ∧ (∀ s ∈ l, s ≤ m) ∧ Grew w w' := by
  obtain ⟨a, c, e, hc, _⟩ := h.one
  subst e
  obtain ⟨b, o, e, _, hE⟩ := h.get h0
  subst e
  have HE : Hid (∀ i x, l[i]? = some x → EI w b (o + i * 1) x) := hE
  obtain ⟨x, hx⟩ : ∃ x, l[0]? = some x := ⟨_, List.getElem?_eq_getElem h0⟩
  have c0 : w.cell? ⟨b, o, none⟩ = some (.int .i64 x) := by have := hE 0 x hx; rw [Nat.zero_mul, Nat.add_zero] at this; exact this
  have lb := lt_of_cell c0
  have HX : Hid (∀ s ∈ l.take 1, s ≤ x) := by
    have : ∀ s ∈ l.take 1, s ≤ x := by
      intro s hs
      cases l with
      | nil => simp at hx
      | cons y l => simp at hx hs; omega
    exact this
  generalize hN : l.length = N at *
  have HN : Hid (l.length = N) := hN
  have d1 : decide ((N : Int) < 1) = false := by simp; omega
  have d2 : decide ((0 : Int) < (N : Int)) = true := by simp; omega
  have d3 : decide (0 < N) = true := by simp; omega
  clear h hE hx hN
  go_enter Tryd.func19, Tryd.ntmps19
  go_wp2_with fail
  go_loopw [3, 4] (fun m_ i_ w' => ∃ (i : Nat) (m : Int), i_ = .int .i64 i ∧ m_ = .int .i64 m ∧ 1 ≤ i ∧ i ≤ N ∧ Hid (∀ s ∈ l.take i, s ≤ m) ∧ w' = w) (fun _ i_ _ => N - (intOf i_).toNat)
  case atStart => exact ⟨1, x, rfl, rfl, by omega, by omega, HX, rfl⟩
  case round =>
    clear HX c0
    obtain ⟨i, m, rfl, rfl, h1, hi, HX, rfl⟩ := hrel
    by_cases hlt : i < N
    · obtain ⟨y, hy⟩ : ∃ y, l[i]? = some y := ⟨_, List.getElem?_eq_getElem (by rw [HN.out]; exact hlt)⟩
      have c0 : wr.cell? ⟨b, o + i, none⟩ = some (.int .i64 y) := by have := HE.out i y hy; rw [Nat.mul_one] at this; exact this
      have d4 : decide ((i : Int) < (N : Int)) = true := by simp; omega
      have d5 : decide (i < N) = true := by simp; omega
      have HY : Hid (∀ s ∈ l.take (i + 1), s ≤ m ∨ s ≤ y) := by
        have : ∀ s ∈ l.take (i + 1), s ≤ m ∨ s ≤ y := by
          intro s hs
          rw [take_snoc hy] at hs
          rcases List.mem_append.1 hs with hs | hs
          · exact Or.inl (HX.out s hs)
          · simp at hs; exact Or.inr (by omega)
        exact this
      clear hy HX
      go_wp2_with fail
      go_roundw
      case rel =>
        refine ⟨i + 1, max m y, by go_num, ?_, by omega, by omega, ?_, trivial⟩
        · rfl
        · have : ∀ s ∈ l.take (i + 1), s ≤ max m y := fun s hs => by rcases HY.out s hs with h | h <;> omega
          exact this
      case measure => simp [intOf]; omega
    · have d4 : decide ((i : Int) < (N : Int)) = false := by simp; omega
      have HY : Hid (∀ s ∈ l, s ≤ m) := by
        have : ∀ s ∈ l, s ≤ m := by
          have := HX.out
          rw [List.take_of_length_le (by rw [HN.out]; omega)] at this
          exact this
        exact this
      clear HX
      go_wp2_with fail
      go_ret
      exact ⟨m, rfl, HY.out, Grew.refl _⟩
end Go.Proofs.YtojkonoffdlbpaaDoor
