/-
  Code's total and Expand; no statement is proved here.
-/
import Derived.Test.YtfedijclhlchbaaGreatDoorLsK
namespace Go.Proofs.YtfedijclhlchbaaGreatDoor
open Go.RowKit
set_option linter.unusedVariables false
set_option linter.unusedSimpArgs false
set_option linter.constructorNameAsVariable false

theorem take_get {α : Type} {x : List α} {i : Nat} {y : α} (h : x[i]? = some y) : x.take (i + 1) = x.take i ++ [y] := by
  rw [List.take_add_one, h]; rfl
theorem sumL_at {x : List LC} {i : Nat} {y : LC} (h : x[i]? = some y) : sumL (x.take (i + 1)) = sumL (x.take i) + y.count := by
  rw [take_get h, sumL_app]; simp [sumL]
set_option maxRecDepth 100000 in
set_option maxHeartbeats 1000000 in
theorem total_f {w : World} {b1 o1 vc : Nat} {x : List LC} (h : ∀ i y, x[i]? = some y → EL w b1 (o1 + i * 4) y) (hx : Runs x) :
    Calls Tryz.prog 14 #[.slice (some ⟨b1, o1, none⟩) x.length vc] w fun en w' => en = .returned (.tuple #[.int .i64 (sumL x), .bool true]) ∧ Grew w w' := by
  have H : Hid (∀ i y, x[i]? = some y → EL w b1 (o1 + i * 4) y) := h
  have HX : Hid (∀ y ∈ x, 0 ≤ y.count) := hx.1
  have hs := hx.2.1
  have hlen := hx.2.2
  clear h hx
  go_enter Tryz.func14, Tryz.ntmps14
  go_wp2_with fail
  go_loopw [4, 9] (fun f_ n_ wr => ∃ (i left : Nat), n_ = .int .i64 (i : Int) ∧ f_ = .int .u32 (left : Int) ∧ i ≤ x.length ∧ left ≤ 50000 ∧ Hid ((left : Int) = 50000 - sumL (x.take i)) ∧ Hid (Grew w wr)) (fun _ n_ _ => x.length - (intOf n_).toNat)
  case atStart => exact ⟨0, 50000, rfl, rfl, by omega, by omega, by simp [Hid, sumL], Grew.refl w⟩
  case round =>
    obtain ⟨i, left, rfl, rfl, hi, hleft, HL, HG⟩ := hrel
    by_cases hlt : i < x.length
    · obtain ⟨y, hy⟩ : ∃ y, x[i]? = some y := ⟨_, List.getElem?_eq_getElem hlt⟩
      obtain ⟨x0, x1, x2, x3⟩ := (H.out i y hy).grew HG.out
      have h0 := HX.out y (List.mem_of_getElem? hy)
      have h1 := sumL_at hy
      have h2 := (sumL_take HX.out (i + 1)).2
      obtain ⟨cn, ⟨tn, tz, th⟩⟩ := y
      simp only at x0 x1 x2 x3 h0 h1
      obtain ⟨c, rfl⟩ : ∃ c : Nat, cn = c := ⟨cn.toNat, by omega⟩
      have hl2 := HL.out
      have hcl : c ≤ left := by omega
      have HL2 : Hid (((left - c : Nat) : Int) = 50000 - sumL (x.take (i + 1))) := by show ((left - c : Nat) : Int) = _; omega
      have hsub : IntKind.u32.wrap ((left : Int) - (c : Int)) = ((left - c : Nat) : Int) := by rw [IntKind.wrap_u32]; omega
      have d1 : decide ((i : Int) < (x.length : Int)) = true := by simp; omega
      have d2 : decide (i < x.length) = true := by simp; omega
      have d3 : decide (left < c) = false := by simp; omega
      have d4 : decide ((left : Int) < (c : Int)) = false := by simp; omega
      have i2 : (i : Int) < (x.length : Int) := by omega
      clear hl2 h0 h1 h2 HL hs
      go_wp2_with fail
      go_roundw
      case rel => exact ⟨i + 1, left - c, by go_num, by first | rfl | rw [hsub], by omega, by omega, HL2, HG.out.alloc _⟩
      case measure => simp [intOf]; omega
    · have d1 : decide ((i : Int) < (x.length : Int)) = false := by simp; omega
      obtain rfl : i = x.length := by omega
      have hl2 := HL.out
      rw [List.take_length] at hl2
      have hsub : IntKind.u32.wrap (50000 - (left : Int)) = sumL x := by rw [IntKind.wrap_u32]; omega
      have hcv : IntKind.i64.wrap (sumL x) = sumL x := by rw [IntKind.wrap_i64]; omega
      clear hl2 HL
      go_wp2_with fail
      refine bodyPost_ret (v := .tuple #[.int .i64 (sumL x), .bool true]) (by simp [results, Tryz.results14, go_sem]) rfl ?_
      exact ⟨rfl, HG.out⟩
set_option maxRecDepth 100000 in
theorem total_e {w : World} {va : Option Addr} {vc : Nat} :
    Calls Tryz.prog 14 #[.slice va 0 vc] w fun en w' => en = .returned (.tuple #[.int .i64 0, .bool true]) ∧ Grew w w' := by
  go_enter Tryz.func14, Tryz.ntmps14
  go_wp2_with fail
  go_loopw [4, 9] (fun f_ n_ wr => n_ = .int .i64 0 ∧ f_ = .int .u32 50000 ∧ Hid (Grew w wr)) (fun _ _ _ => 0)
  case atStart => exact ⟨rfl, rfl, Grew.refl w⟩
  case round =>
    obtain ⟨rfl, rfl, HG⟩ := hrel
    go_wp2_with fail
    refine bodyPost_ret (v := .tuple #[.int .i64 0, .bool true]) (by simp [results, Tryz.results14, go_sem]) rfl ?_
    exact ⟨rfl, HG.out⟩
theorem total_any {w : World} {v : Value} {x : List LC} (h : LL w v x) (hx : Runs x) :
    Calls Tryz.prog 14 #[v] w fun en w' => en = .returned (.tuple #[.int .i64 (sumL x), .bool true]) ∧ Grew w w' := by
  obtain ⟨va, vc, hv, hle, hmx, hz, he⟩ := h
  subst hv
  rcases he with rfl | ⟨b, off, rfl, hc⟩
  · exact total_e
  · exact total_f hc hx
end Go.Proofs.YtfedijclhlchbaaGreatDoor
