/-
  The document's reading: the walks of HeapText at abstract types, heapOf and heap; no statement is proved here.
-/
import Derived.Test.YtmcljnohdknpoaaDoorDNum
import Derived.Test.YtmcljnohdknpoaaDoorHeap
namespace Go.Proofs.YtmcljnohdknpoaaDoor
open Go.RowKit
set_option linter.unusedVariables false
set_option linter.unusedSimpArgs false

def ABS : ByteArray := ⟨#[102, 117, 110, 99, 32, 110, 111, 102, 117, 110, 99, 32, 101, 120, 116, 101, 114, 110, 32, 110, 111, 101, 120, 116, 101, 114, 110, 32, 97, 110, 121, 32, 101, 113, 32, 105, 51, 49, 32, 115, 116, 114, 117, 99, 116, 32, 97, 114, 114, 97, 121, 32, 110, 111, 110, 101, 32, 101, 120, 110, 32, 110, 111, 101, 120, 110]⟩
def NUM : ByteArray := ⟨#[105, 51, 50, 32, 105, 54, 52, 32, 102, 51, 50, 32, 102, 54, 52, 32, 114, 101, 102, 32, 105, 56, 32, 105, 49, 54]⟩
theorem wrd_abs : ∀ k : Fin 12, wrd ABS (ABS.size + 1) 0 0 k.1 = heapW k.1 := by decide +kernel
theorem wrd_num : ∀ k : Fin 8, k.1 ≠ 0 → k.1 ≠ 5 → wrd NUM (NUM.size + 1) 0 0 (k.1 - 1) = numW k.1 := by decide +kernel
theorem word_abs (k : Nat) (hk : k < 12) (w : World) : Calls Tryd.prog 43 #[.string ABS, .int .i64 (k : Int)] w fun en w' => en = .returned (.string (heapW k)) ∧ w' = w := by
  have := word_any ABS k w (by decide) (by omega)
  rw [wrd_abs ⟨k, hk⟩] at this
  exact this
theorem word_num (k : Nat) (hk : k < 8) (h0 : k ≠ 0) (h5 : k ≠ 5) (w : World) : Calls Tryd.prog 43 #[.string NUM, .int .i64 ((k - 1 : Nat) : Int)] w fun en w' => en = .returned (.string (numW k)) ∧ w' = w := by
  have := word_any NUM (k - 1) w (by decide) (by omega)
  rw [wrd_num ⟨k, hk⟩ h0 h5] at this
  exact this
theorem dtext_abs (k : Nat) (hk : k < 12) (w : World) : Calls Tryd.prog 72 #[.int .i64 (-1 - (k : Int))] w fun en w' => en = .returned (.string (heapW k)) ∧ w' = w := by
  have C := word_abs k hk w
  have d0 : decide ((0 : Int) ≤ -1 - (k : Int)) = false := by simp; omega
  have d1 : decide ((-12 : Int) ≤ -1 - (k : Int)) = true := by simp; omega
  have e1 : IntKind.i64.wrap (-1 - (-1 - (k : Int))) = (k : Int) := by rw [IntKind.wrap_i64]; omega
  obtain ⟨h, hh⟩ : ∃ h : Int, h = -1 - (k : Int) := ⟨_, rfl⟩
  rw [← hh] at d0 d1 e1 ⊢
  clear hh
  generalize heapW k = y at *
  go_enter Tryd.func72, Tryd.ntmps72
  go_wp2_with fail
  refine C.mono ?_
  rintro en w1 ⟨rfl, h1⟩
  obtain rfl := h1.symm
  go_wp2_with fail
  go_ret
  exact ⟨by simp, rfl⟩
/- What the document's heapOf tells of a word. -/
def ho (names : Bool) (x : ByteArray) : Option Int := match num9 x.data.toList with
  | some u => some (u : Int)
  | none => if isRec x = true ∧ 4 < x.size then (num9 (x.extract 4 x.size).data.toList).map fun n : Nat => -100 - (n : Int) else if names then (heapIdx x).map fun k : Nat => -1 - (k : Int) else none
def HA (o : Option Int) (w : World) (en : Ending) (w' : World) : Prop := w' = w ∧ ∃ n : Int, en = .returned (.tuple #[.int .i64 n, .bool o.isSome]) ∧ ∀ h, o = some h → n = h
set_option maxRecDepth 100000 in
set_option maxHeartbeats 1000000 in
theorem heapOf_any (x : ByteArray) (names : Bool) (w : World) (hx : x.size ≤ 65536) :
    Calls Tryd.prog 52 #[.string x, .bool names] w (HA (ho names x) w) := by
  have C := dnumber_any x w hx
  obtain ⟨o, hoo⟩ : ∃ o, o = ho names x := ⟨_, rfl⟩
  rw [← hoo]
  have HO : Hid (o = ho names x) := hoo
  clear hoo
  unfold ho at HO
  cases hn : num9 x.data.toList with
  | some u =>
    rw [hn] at HO C
    have HO' : Hid (o = some (u : Int)) := HO.out
    have hlt := (num9_inv hn).2
    clear HO hn
    unfold ob at C
    simp only [Option.getD_some, Option.isSome_some] at C
    go_enter Tryd.func52, Tryd.ntmps52
    go_wp2_with fail
    refine C.mono ?_
    rintro en w1 ⟨rfl, h1⟩
    obtain rfl := h1.symm
    go_wp2_with fail
    go_ret2
    exact ⟨rfl, _, by rw [HO'.out]; rfl, by intro h hh; rw [HO'.out] at hh; exact Option.some.inj hh⟩
  | none =>
    rw [hn] at HO C
    have HO' : Hid (o = if isRec x = true ∧ 4 < x.size then (num9 (x.extract 4 x.size).data.toList).map fun n : Nat => -100 - (n : Int) else if names then (heapIdx x).map fun k : Nat => -1 - (k : Int) else none) := HO.out
    clear HO hn
    unfold ob at C
    simp only [Option.getD_none, Option.isSome_none] at C
    have hcase : (decide ((4 : Int) < (x.size : Int)) = true ∧ ((x.extract 0 4).toList == [114, 101, 99, 46]) = true ∧ isRec x = true ∧ 4 < x.size) ∨ ((decide ((4 : Int) < (x.size : Int)) = false ∨ (decide ((4 : Int) < (x.size : Int)) = true ∧ ((x.extract 0 4).toList == [114, 101, 99, 46]) = false ∧ 4 < x.size)) ∧ ¬ (isRec x = true ∧ 4 < x.size)) := by
      have hl : (⟨#[114, 101, 99, 46]⟩ : ByteArray).toList = [114, 101, 99, 46] := by rw [ByteArray.toList_eq]
      by_cases h4 : 4 < x.size
      · by_cases hr : x.extract 0 4 = REC
        · exact Or.inl ⟨by simp; omega, by rw [hr, ← hl]; exact same_str _, decide_eq_true ⟨by omega, hr⟩, h4⟩
        · exact Or.inr ⟨Or.inr ⟨by simp; omega, by rw [← hl]; exact other_str hr, h4⟩, fun h => hr (of_decide_eq_true h.1).2⟩
      · exact Or.inr ⟨Or.inl (by simp; omega), fun h => h4 h.2⟩
    rcases hcase with ⟨d4, hss, hri, h4⟩ | ⟨hcase, hnr⟩
    · rw [if_pos ⟨hri, h4⟩] at HO'
      have D := fun w => dnumber_any (x.extract 4 x.size) w (by rw [ByteArray.size_extract]; omega)
      cases hn : num9 (x.extract 4 x.size).data.toList with
      | some u =>
        rw [hn] at HO' D
        have HO2 : Hid (o = some (-100 - (u : Int))) := HO'.out
        have hlt := (num9_inv hn).2
        clear HO' hn hri
        unfold ob at D
        simp only [Option.getD_some, Option.isSome_some] at D
        go_enter Tryd.func52, Tryd.ntmps52
        go_wp2_with fail
        refine C.mono ?_
        rintro en w1 ⟨rfl, h1⟩
        obtain rfl := h1.symm
        go_wp2_with fail
        refine (D _).mono ?_
        rintro en w2 ⟨rfl, h2⟩
        obtain rfl := h2.symm
        go_wp2_with fail
        go_ret2
        exact ⟨rfl, _, by rw [HO2.out]; rfl, by intro h hh; rw [HO2.out] at hh; exact Option.some.inj hh⟩
      | none =>
        rw [hn] at HO' D
        have HO2 : Hid (o = none) := HO'.out
        clear HO' hn hri
        unfold ob at D
        simp only [Option.getD_none, Option.isSome_none] at D
        go_enter Tryd.func52, Tryd.ntmps52
        go_wp2_with fail
        refine C.mono ?_
        rintro en w1 ⟨rfl, h1⟩
        obtain rfl := h1.symm
        go_wp2_with fail
        refine (D _).mono ?_
        rintro en w2 ⟨rfl, h2⟩
        obtain rfl := h2.symm
        go_wp2_with fail
        go_ret2
        exact ⟨rfl, _, by rw [HO2.out]; rfl, by intro h hh; rw [HO2.out] at hh; cases hh⟩
    · rw [if_neg hnr] at HO'
      clear hnr
      cases names with
      | false =>
        have HO2 : Hid (o = none) := HO'.out
        clear HO'
        rcases hcase with d4 | ⟨d4, hss, h4⟩ <;>
        · go_enter Tryd.func52, Tryd.ntmps52
          go_wp2_with fail
          refine C.mono ?_
          rintro en w1 ⟨rfl, h1⟩
          obtain rfl := h1.symm
          go_wp2_with fail
          go_loop [8] (fun i_ => True) (fun i_ => 0)
          case atStart => trivial
          case round =>
            go_wp2_with fail
            go_ret2
            exact ⟨rfl, _, by rw [HO2.out]; rfl, by intro h hh; rw [HO2.out] at hh; cases hh⟩
      | true =>
        have HO1 : Hid (o = (heapIdx x).map fun k : Nat => -1 - (k : Int)) := HO'.out
        clear HO'
        cases hm : heapIdx x with
        | some m =>
          obtain ⟨hm12, hmx, hlow⟩ := heapIdx_some hm
          have HO2 : Hid (o = some (-1 - (m : Int))) := by rw [HO1.out, hm]; exact rfl
          clear HO1 hm
          rcases hcase with d4 | ⟨d4, hss, h4⟩ <;>
          · go_enter Tryd.func52, Tryd.ntmps52
            go_wp2_with fail
            refine C.mono ?_
            rintro en w1 ⟨rfl, h1⟩
            obtain rfl := h1.symm
            go_wp2_with fail
            clear C
            go_loop [8] (fun i_ => ∃ k : Nat, i_ = .int .i64 (-1 - (k : Int)) ∧ k ≤ m) (fun i_ => m - (-1 - intOf i_).toNat)
            case atStart => exact ⟨0, rfl, Nat.zero_le _⟩
            case round =>
              obtain ⟨k, rfl, hk⟩ := hrel
              have T := fun w => dtext_abs k (by omega) w
              have d12 : decide ((-12 : Int) ≤ -1 - (k : Int)) = true := by simp; omega
              by_cases hkm : k = m
              · subst hkm
                rw [hmx] at T
                have hsx := same_str x
                clear hlow hmx
                go_wp2_with fail
                refine (T _).mono ?_
                rintro en w2 ⟨rfl, h2⟩
                obtain rfl := h2.symm
                go_wp2_with fail
                go_ret2
                exact ⟨rfl, _, by rw [HO2.out]; rfl, by intro h hh; rw [HO2.out] at hh; exact Option.some.inj hh⟩
              · have hsx := other_str (hlow k (by omega))
                clear hlow hmx
                generalize heapW k = y at *
                go_wp2_with fail
                refine (T _).mono ?_
                rintro en w2 ⟨rfl, h2⟩
                obtain rfl := h2.symm
                go_wp2_with fail
                go_round
                case rel => exact ⟨k + 1, by congr 1; omega, by omega⟩
                case measure => simp [intOf]; omega
        | none =>
          have hlow := heapIdx_none hm
          have HO2 : Hid (o = none) := by rw [HO1.out, hm]; exact rfl
          clear HO1 hm
          rcases hcase with d4 | ⟨d4, hss, h4⟩ <;>
          · go_enter Tryd.func52, Tryd.ntmps52
            go_wp2_with fail
            refine C.mono ?_
            rintro en w1 ⟨rfl, h1⟩
            obtain rfl := h1.symm
            go_wp2_with fail
            clear C
            go_loop [8] (fun i_ => ∃ k : Nat, i_ = .int .i64 (-1 - (k : Int)) ∧ k ≤ 12) (fun i_ => 12 - (-1 - intOf i_).toNat)
            case atStart => exact ⟨0, rfl, Nat.zero_le _⟩
            case round =>
              obtain ⟨k, rfl, hk⟩ := hrel
              by_cases hk12 : k = 12
              · subst hk12
                clear hlow
                go_wp2_with fail
                go_ret2
                exact ⟨rfl, _, by rw [HO2.out]; rfl, by intro h hh; rw [HO2.out] at hh; cases hh⟩
              · have T := fun w => dtext_abs k (by omega) w
                have d12 : decide ((-12 : Int) ≤ -1 - (k : Int)) = true := by simp; omega
                have hsx := other_str (hlow k (by omega))
                clear hlow
                generalize heapW k = y at *
                go_wp2_with fail
                refine (T _).mono ?_
                rintro en w2 ⟨rfl, h2⟩
                obtain rfl := h2.symm
                go_wp2_with fail
                go_round
                case rel => exact ⟨k + 1, by congr 1; omega, by omega⟩
                case measure => simp [intOf]; omega
end Go.Proofs.YtmcljnohdknpoaaDoor
