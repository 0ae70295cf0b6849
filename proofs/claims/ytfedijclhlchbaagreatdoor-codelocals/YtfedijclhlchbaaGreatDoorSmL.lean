/-
  The law's sameLocals at equal runs; no statement is proved here.
-/
import Derived.Test.YtfedijclhlchbaaGreatDoorKex
import Derived.Laws.StructEq
namespace Go.Proofs.YtfedijclhlchbaaGreatDoor
open Go.RowKit
set_option linter.unusedVariables false
set_option linter.unusedSimpArgs false
set_option linter.constructorNameAsVariable false

set_option maxRecDepth 100000 in
theorem neqLC (c an ah : Int) (au : Bool) (W : World) : (binOp .neq 50 (.agg #[.int .u32 c, .int .i64 an, .bool au, .int .i64 ah]) (.agg #[.int .u32 c, .int .i64 an, .bool au, .int .i64 ah])).run Tryz.prog W = .ok (.bool false) W := by
  simp [go_sem]
set_option maxRecDepth 100000 in
theorem neqVT (an ah : Int) (au : Bool) (W : World) : (binOp .neq 36 (.agg #[.int .i64 an, .bool au, .int .i64 ah]) (.agg #[.int .i64 an, .bool au, .int .i64 ah])).run Tryz.prog W = .ok (.bool false) W := by
  simp [go_sem]
set_option maxRecDepth 100000 in
theorem sameLoc_e {w : World} {ua va : Option Addr} {uc vc : Nat} : Calls Tryz.prog 6 #[.slice ua 0 uc, .slice va 0 vc] w fun en w' => en = .returned (.bool true) ∧ Grew w w' := by
  go_enter Tryz.func6, Tryz.ntmps6
  go_wp2_with fail
  go_loopw [5] (fun i_ w' => i_ = .int .i64 0 ∧ w' = w) (fun _ _ => 0)
  case atStart => exact ⟨rfl, rfl⟩
  case round =>
    obtain ⟨rfl, h⟩ := hrel
    obtain rfl := h.symm
    go_wp2_with fail
    go_ret
    exact ⟨rfl, Grew.refl _⟩
set_option maxRecDepth 100000 in
set_option maxHeartbeats 1000000 in
theorem sameLoc_f {w : World} {b1 o1 b2 o2 uc vc : Nat} {x : List LC} (h1 : ∀ i y, x[i]? = some y → EL w b1 (o1 + i * 4) y) (h2 : ∀ i y, x[i]? = some y → EL w b2 (o2 + i * 4) y) (hlen : x.length ≤ 50000) :
    Calls Tryz.prog 6 #[.slice (some ⟨b1, o1, none⟩) x.length uc, .slice (some ⟨b2, o2, none⟩) x.length vc] w fun en w' => en = .returned (.bool true) ∧ Grew w w' := by
  have H1 : Hid (∀ i y, x[i]? = some y → EL w b1 (o1 + i * 4) y) := h1
  have H2 : Hid (∀ i y, x[i]? = some y → EL w b2 (o2 + i * 4) y) := h2
  clear h1 h2
  go_enter Tryz.func6, Tryz.ntmps6
  go_wp2_with fail
  go_loopw [5] (fun i_ w' => ∃ i : Nat, i_ = .int .i64 i ∧ i ≤ x.length ∧ Hid (Grew w w')) (fun i_ _ => x.length - (intOf i_).toNat)
  case atStart => exact ⟨0, rfl, Nat.zero_le _, Grew.refl _⟩
  case round =>
    obtain ⟨i, rfl, hi, G⟩ := hrel
    obtain ⟨w0, hw0⟩ : ∃ w0, w0 = wr := ⟨_, rfl⟩
    rw [← hw0] at G ⊢
    clear hw0
    by_cases hlt : i < x.length
    · obtain ⟨y, hy⟩ : ∃ y, x[i]? = some y := ⟨_, List.getElem?_eq_getElem hlt⟩
      have d1 : decide ((i : Int) < (x.length : Int)) = true := by simp; omega
      have d2 : decide (i < x.length) = true := by simp; omega
      have i2 : (i : Int) < (x.length : Int) := by omega
      obtain ⟨p0, p1, p2, p3⟩ := (H1.out i y hy).grew G.out
      obtain ⟨q0, q1, q2, q3⟩ := (H2.out i y hy).grew G.out
      obtain ⟨c, ⟨n, nul, hp⟩⟩ := y
      simp only at p0 p1 p2 p3 q0 q1 q2 q3
      have hneq := neqLC c n hp nul
      clear hy
      go_wp2_with fail
      go_quiet (fail)
      go_wp2_with fail
      go_roundw
      case rel => exact ⟨i + 1, by go_num, by omega, G.out.drewN _⟩
      case measure => simp [intOf]; omega
    · have d1 : decide ((i : Int) < (x.length : Int)) = false := by simp; omega
      go_wp2_with fail
      go_ret
      exact ⟨rfl, G.out⟩
theorem sameLoc_any {w : World} {u v : Value} {x : List LC} (h1 : LL w u x) (h2 : LL w v x) (hlen : x.length ≤ 50000) :
    Calls Tryz.prog 6 #[u, v] w fun en w' => en = .returned (.bool true) ∧ Grew w w' := by
  obtain ⟨ua, uc, hu, _, _, _, he⟩ := h1
  obtain ⟨va, vc, hv, _, _, _, hf⟩ := h2
  subst hu hv
  rcases he with rfl | ⟨b, off, rfl, hc⟩
  · exact sameLoc_e
  · rcases hf with rfl | ⟨b2, off2, rfl, hc2⟩
    · exact sameLoc_e
    · exact sameLoc_f hc hc2 hlen
end Go.Proofs.YtfedijclhlchbaaGreatDoor
