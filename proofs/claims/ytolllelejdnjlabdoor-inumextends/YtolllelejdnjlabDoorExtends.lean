/-
  Proved: for every value InumExtends returns true, and the argument reads as before: a sign that was extended once is not changed by extending it again, and wrapping takes back what extending gave. Condition: a table of the library (math/bits.deBruijn64tab) starts as its text lays it; the card ties that to the text (the pruned copy of the project).
-/
import Derived.Test.YtolllelejdnjlabDoorCards
import Derived.Test.YtolllelejdnjlabDoorTie
import Derived.Test.YtolllelejdnjlabDoorExtA
import Derived.Deep.DeepHandedRow
import Derived.Lib.LaidTab
namespace Go.Proofs.YtolllelejdnjlabDoor
open Go.RowKit
set_option linter.unusedVariables false
set_option linter.unusedSimpArgs false

theorem ev_in {op a : Int} (h0 : 0 ≤ a) : 0 ≤ ev op a ∧ ev op a < 18446744073709551616 := by
  unfold ev
  rcases gv_or op with h | h <;> rw [h] <;> simp [ct] <;> omega
theorem ev_twice (a : Int) (h0 : 0 ≤ a) (h1 : a < 18446744073709551616) : ∀ op ∈ [192, 193, 194, 195, 196], ev op (ev op a) = ev op a := by
  intro op hop
  simp only [List.mem_cons, List.mem_nil_iff, or_false] at hop
  rcases hop with rfl | rfl | rfl | rfl | rfl <;> simp [ev, ex, kd, tk, gv, ct] <;> omega
theorem ev_back (a : Int) (h0 : 0 ≤ a) (h1 : a < 18446744073709551616) : ev 167 (ev 172 a) = a % 4294967296 ∧ ev 167 (ev 173 a) = a % 4294967296 ∧ ev 173 a = a % 4294967296 := by
  refine ⟨?_, ?_, ?_⟩ <;> simp [ev, ex, kd, tk, gv, ct, sg] <;> omega
set_option maxRecDepth 100000 in
set_option maxHeartbeats 2000000 in
theorem extends_walk (a : Int) (w : World) (h0 : 0 ≤ a) (h1 : a < 18446744073709551616) :
    Calls Tryd.prog 3 #[.int .u64 a] w fun e w' => e = .returned (.bool true) ∧ Grew w w' := by
  have U : Hid (∀ (op a : Int) (w : World), 167 ≤ op → op ≤ 196 → 30 ≤ kd op → 0 ≤ a → a < 18446744073709551616 → Calls Tryd.prog 4 #[.int .i64 op, .int .u64 a] w fun e w' => e = .returned (.tuple #[.int .u64 (ev op a), .int .i64 0]) ∧ Grew w w') := fun op a w o0 o1 hk h0 h1 => ext_any op a w (by omega) (by omega) h0 h1 hk
  go_enter Tryd.func3, Tryd.ntmps3
  go_wp2_with fail
  have AW : Hid (∀ w : World, Calls Tryd.prog 5 #[] w fun e w' => e = .returned (.bool true) ∧ Grew w w') := fun w => awake_any w
  go_loopw [4] (fun i wr => (i = .int .i64 0 ∨ i = .int .i64 1 ∨ i = .int .i64 2 ∨ i = .int .i64 3 ∨ i = .int .i64 4 ∨ i = .int .i64 5) ∧ Grew (w.alloc (.cells #[.int .i64 192, .int .i64 193, .int .i64 194, .int .i64 195, .int .i64 196] 3)) wr) (fun i _ => 5 - (intOf i).toNat)
  case atStart => exact ⟨Or.inl rfl, Grew.refl _⟩
  case round =>
    obtain ⟨hi, hg⟩ := hrel
    have G : Hid (Grew (w.alloc (.cells #[.int .i64 192, .int .i64 193, .int .i64 194, .int .i64 195, .int .i64 196] 3)) wr) := hg
    clear hg
    rcases hi with rfl | rfl | rfl | rfl | rfl | rfl
    · have hc : wr.cell? ⟨w.heap.size, 0, none⟩ = some (.int .i64 192) := by rw [G.out.1.cell (by simp)]; go_simp
      have i1 := ev_in (op := 192) h0
      have HT : Hid (ev 192 (ev 192 a) = ev 192 a) := ev_twice a h0 h1 192 (by simp)
      have U1 : Hid (∀ w : World, Calls Tryd.prog 4 #[.int .i64 192, .int .u64 a] w fun e w' => e = .returned (.tuple #[.int .u64 (ev 192 a), .int .i64 0]) ∧ Grew w w') := fun w => U.out 192 a w (by decide) (by decide) (by decide) h0 h1
      have U2 : Hid (∀ w : World, Calls Tryd.prog 4 #[.int .i64 192, .int .u64 (ev 192 a)] w fun e w' => e = .returned (.tuple #[.int .u64 (ev 192 a), .int .i64 0]) ∧ Grew w w') := fun w => by
        have := U.out 192 (ev 192 a) w (by decide) (by decide) (by decide) i1.1 i1.2
        rwa [HT.out] at this
      clear i1 HT
      generalize ev 192 a = n at *
      go_wp2_with fail
      refine (U1.out _).mono ?_
      rintro e w1 ⟨rfl, g1⟩
      have G1 : Hid (Grew (w.alloc (.cells #[.int .i64 192, .int .i64 193, .int .i64 194, .int .i64 195, .int .i64 196] 3)) w1) := G.out.trans g1
      have hc1 : w1.cell? ⟨w.heap.size, 0, none⟩ = some (.int .i64 192) := by rw [G1.out.1.cell (by simp)]; go_simp
      clear g1
      go_wp2_with fail
      refine (U2.out _).mono ?_
      rintro e w2 ⟨rfl, g2⟩
      have G2 : Hid (Grew (w.alloc (.cells #[.int .i64 192, .int .i64 193, .int .i64 194, .int .i64 195, .int .i64 196] 3)) w2) := G1.out.trans g2
      clear g2
      have hnn : (n != n) = false := by simp
      go_wp2_with fail
      go_roundw
      case rel => exact ⟨by simp, G2.out⟩
      case measure => simp [intOf]
    · have hc : wr.cell? ⟨w.heap.size, 1, none⟩ = some (.int .i64 193) := by rw [G.out.1.cell (by simp)]; go_simp
      have i1 := ev_in (op := 193) h0
      have HT : Hid (ev 193 (ev 193 a) = ev 193 a) := ev_twice a h0 h1 193 (by simp)
      have U1 : Hid (∀ w : World, Calls Tryd.prog 4 #[.int .i64 193, .int .u64 a] w fun e w' => e = .returned (.tuple #[.int .u64 (ev 193 a), .int .i64 0]) ∧ Grew w w') := fun w => U.out 193 a w (by decide) (by decide) (by decide) h0 h1
      have U2 : Hid (∀ w : World, Calls Tryd.prog 4 #[.int .i64 193, .int .u64 (ev 193 a)] w fun e w' => e = .returned (.tuple #[.int .u64 (ev 193 a), .int .i64 0]) ∧ Grew w w') := fun w => by
        have := U.out 193 (ev 193 a) w (by decide) (by decide) (by decide) i1.1 i1.2
        rwa [HT.out] at this
      clear i1 HT
      generalize ev 193 a = n at *
      go_wp2_with fail
      refine (U1.out _).mono ?_
      rintro e w1 ⟨rfl, g1⟩
      have G1 : Hid (Grew (w.alloc (.cells #[.int .i64 192, .int .i64 193, .int .i64 194, .int .i64 195, .int .i64 196] 3)) w1) := G.out.trans g1
      have hc1 : w1.cell? ⟨w.heap.size, 1, none⟩ = some (.int .i64 193) := by rw [G1.out.1.cell (by simp)]; go_simp
      clear g1
      go_wp2_with fail
      refine (U2.out _).mono ?_
      rintro e w2 ⟨rfl, g2⟩
      have G2 : Hid (Grew (w.alloc (.cells #[.int .i64 192, .int .i64 193, .int .i64 194, .int .i64 195, .int .i64 196] 3)) w2) := G1.out.trans g2
      clear g2
      have hnn : (n != n) = false := by simp
      go_wp2_with fail
      go_roundw
      case rel => exact ⟨by simp, G2.out⟩
      case measure => simp [intOf]
    · have hc : wr.cell? ⟨w.heap.size, 2, none⟩ = some (.int .i64 194) := by rw [G.out.1.cell (by simp)]; go_simp
      have i1 := ev_in (op := 194) h0
      have HT : Hid (ev 194 (ev 194 a) = ev 194 a) := ev_twice a h0 h1 194 (by simp)
      have U1 : Hid (∀ w : World, Calls Tryd.prog 4 #[.int .i64 194, .int .u64 a] w fun e w' => e = .returned (.tuple #[.int .u64 (ev 194 a), .int .i64 0]) ∧ Grew w w') := fun w => U.out 194 a w (by decide) (by decide) (by decide) h0 h1
      have U2 : Hid (∀ w : World, Calls Tryd.prog 4 #[.int .i64 194, .int .u64 (ev 194 a)] w fun e w' => e = .returned (.tuple #[.int .u64 (ev 194 a), .int .i64 0]) ∧ Grew w w') := fun w => by
        have := U.out 194 (ev 194 a) w (by decide) (by decide) (by decide) i1.1 i1.2
        rwa [HT.out] at this
      clear i1 HT
      generalize ev 194 a = n at *
      go_wp2_with fail
      refine (U1.out _).mono ?_
      rintro e w1 ⟨rfl, g1⟩
      have G1 : Hid (Grew (w.alloc (.cells #[.int .i64 192, .int .i64 193, .int .i64 194, .int .i64 195, .int .i64 196] 3)) w1) := G.out.trans g1
      have hc1 : w1.cell? ⟨w.heap.size, 2, none⟩ = some (.int .i64 194) := by rw [G1.out.1.cell (by simp)]; go_simp
      clear g1
      go_wp2_with fail
      refine (U2.out _).mono ?_
      rintro e w2 ⟨rfl, g2⟩
      have G2 : Hid (Grew (w.alloc (.cells #[.int .i64 192, .int .i64 193, .int .i64 194, .int .i64 195, .int .i64 196] 3)) w2) := G1.out.trans g2
      clear g2
      have hnn : (n != n) = false := by simp
      go_wp2_with fail
      go_roundw
      case rel => exact ⟨by simp, G2.out⟩
      case measure => simp [intOf]
    · have hc : wr.cell? ⟨w.heap.size, 3, none⟩ = some (.int .i64 195) := by rw [G.out.1.cell (by simp)]; go_simp
      have i1 := ev_in (op := 195) h0
      have HT : Hid (ev 195 (ev 195 a) = ev 195 a) := ev_twice a h0 h1 195 (by simp)
      have U1 : Hid (∀ w : World, Calls Tryd.prog 4 #[.int .i64 195, .int .u64 a] w fun e w' => e = .returned (.tuple #[.int .u64 (ev 195 a), .int .i64 0]) ∧ Grew w w') := fun w => U.out 195 a w (by decide) (by decide) (by decide) h0 h1
      have U2 : Hid (∀ w : World, Calls Tryd.prog 4 #[.int .i64 195, .int .u64 (ev 195 a)] w fun e w' => e = .returned (.tuple #[.int .u64 (ev 195 a), .int .i64 0]) ∧ Grew w w') := fun w => by
        have := U.out 195 (ev 195 a) w (by decide) (by decide) (by decide) i1.1 i1.2
        rwa [HT.out] at this
      clear i1 HT
      generalize ev 195 a = n at *
      go_wp2_with fail
      refine (U1.out _).mono ?_
      rintro e w1 ⟨rfl, g1⟩
      have G1 : Hid (Grew (w.alloc (.cells #[.int .i64 192, .int .i64 193, .int .i64 194, .int .i64 195, .int .i64 196] 3)) w1) := G.out.trans g1
      have hc1 : w1.cell? ⟨w.heap.size, 3, none⟩ = some (.int .i64 195) := by rw [G1.out.1.cell (by simp)]; go_simp
      clear g1
      go_wp2_with fail
      refine (U2.out _).mono ?_
      rintro e w2 ⟨rfl, g2⟩
      have G2 : Hid (Grew (w.alloc (.cells #[.int .i64 192, .int .i64 193, .int .i64 194, .int .i64 195, .int .i64 196] 3)) w2) := G1.out.trans g2
      clear g2
      have hnn : (n != n) = false := by simp
      go_wp2_with fail
      go_roundw
      case rel => exact ⟨by simp, G2.out⟩
      case measure => simp [intOf]
    · have hc : wr.cell? ⟨w.heap.size, 4, none⟩ = some (.int .i64 196) := by rw [G.out.1.cell (by simp)]; go_simp
      have i1 := ev_in (op := 196) h0
      have HT : Hid (ev 196 (ev 196 a) = ev 196 a) := ev_twice a h0 h1 196 (by simp)
      have U1 : Hid (∀ w : World, Calls Tryd.prog 4 #[.int .i64 196, .int .u64 a] w fun e w' => e = .returned (.tuple #[.int .u64 (ev 196 a), .int .i64 0]) ∧ Grew w w') := fun w => U.out 196 a w (by decide) (by decide) (by decide) h0 h1
      have U2 : Hid (∀ w : World, Calls Tryd.prog 4 #[.int .i64 196, .int .u64 (ev 196 a)] w fun e w' => e = .returned (.tuple #[.int .u64 (ev 196 a), .int .i64 0]) ∧ Grew w w') := fun w => by
        have := U.out 196 (ev 196 a) w (by decide) (by decide) (by decide) i1.1 i1.2
        rwa [HT.out] at this
      clear i1 HT
      generalize ev 196 a = n at *
      go_wp2_with fail
      refine (U1.out _).mono ?_
      rintro e w1 ⟨rfl, g1⟩
      have G1 : Hid (Grew (w.alloc (.cells #[.int .i64 192, .int .i64 193, .int .i64 194, .int .i64 195, .int .i64 196] 3)) w1) := G.out.trans g1
      have hc1 : w1.cell? ⟨w.heap.size, 4, none⟩ = some (.int .i64 196) := by rw [G1.out.1.cell (by simp)]; go_simp
      clear g1
      go_wp2_with fail
      refine (U2.out _).mono ?_
      rintro e w2 ⟨rfl, g2⟩
      have G2 : Hid (Grew (w.alloc (.cells #[.int .i64 192, .int .i64 193, .int .i64 194, .int .i64 195, .int .i64 196] 3)) w2) := G1.out.trans g2
      clear g2
      have hnn : (n != n) = false := by simp
      go_wp2_with fail
      go_roundw
      case rel => exact ⟨by simp, G2.out⟩
      case measure => simp [intOf]
    · obtain ⟨b1, b2, b3⟩ := ev_back a h0 h1
      have s1 := ev_in (op := 172) h0
      have u1 := ev_in (op := 173) h0
      have US : Hid (∀ w : World, Calls Tryd.prog 4 #[.int .i64 172, .int .u64 a] w fun e w' => e = .returned (.tuple #[.int .u64 (ev 172 a), .int .i64 0]) ∧ Grew w w') := fun w => U.out 172 a w (by decide) (by decide) (by decide) h0 h1
      have UU : Hid (∀ w : World, Calls Tryd.prog 4 #[.int .i64 173, .int .u64 a] w fun e w' => e = .returned (.tuple #[.int .u64 (a % 4294967296), .int .i64 0]) ∧ Grew w w') := fun w => by
        have := U.out 173 a w (by decide) (by decide) (by decide) h0 h1
        rwa [b3] at this
      have UX : Hid (∀ w : World, Calls Tryd.prog 4 #[.int .i64 167, .int .u64 (ev 172 a)] w fun e w' => e = .returned (.tuple #[.int .u64 (a % 4294967296), .int .i64 0]) ∧ Grew w w') := fun w => by
        have := U.out 167 (ev 172 a) w (by decide) (by decide) (by decide) s1.1 s1.2
        rwa [b1] at this
      have UY : Hid (∀ w : World, Calls Tryd.prog 4 #[.int .i64 167, .int .u64 (a % 4294967296)] w fun e w' => e = .returned (.tuple #[.int .u64 (a % 4294967296), .int .i64 0]) ∧ Grew w w') := fun w => by
        have := U.out 167 (ev 173 a) w (by decide) (by decide) (by decide) u1.1 u1.2
        rwa [b2, b3] at this
      clear b1 b2 b3 s1 u1
      generalize ev 172 a = n at *
      go_wp2_with fail
      refine (US.out _).mono ?_
      rintro e v0 ⟨rfl, k0⟩
      have K0 : Hid (Grew (w.alloc (.cells #[.int .i64 192, .int .i64 193, .int .i64 194, .int .i64 195, .int .i64 196] 3)) v0) := G.out.trans k0
      clear k0
      go_wp2_with fail
      refine (UU.out _).mono ?_
      rintro e v1 ⟨rfl, k1⟩
      have K1 : Hid (Grew (w.alloc (.cells #[.int .i64 192, .int .i64 193, .int .i64 194, .int .i64 195, .int .i64 196] 3)) v1) := K0.out.trans k1
      clear k1
      go_wp2_with fail
      refine (UX.out _).mono ?_
      rintro e v2 ⟨rfl, k2⟩
      have K2 : Hid (Grew (w.alloc (.cells #[.int .i64 192, .int .i64 193, .int .i64 194, .int .i64 195, .int .i64 196] 3)) v2) := K1.out.trans k2
      clear k2
      go_wp2_with fail
      refine (UY.out _).mono ?_
      rintro e v3 ⟨rfl, k3⟩
      have K3 : Hid (Grew (w.alloc (.cells #[.int .i64 192, .int .i64 193, .int .i64 194, .int .i64 195, .int .i64 196] 3)) v3) := K2.out.trans k3
      clear k3
      go_wp2_with fail
      refine (AW.out _).mono ?_
      rintro e v9 ⟨rfl, k9⟩
      have K9 : Hid (Grew (w.alloc (.cells #[.int .i64 192, .int .i64 193, .int .i64 194, .int .i64 195, .int .i64 196] 3)) v9) := K3.out.trans k9
      clear k9
      go_wp2_with fail
      go_ret
      exact ⟨rfl, ((Grew.refl w).alloc _).trans K9.out⟩

end Go.Proofs.YtolllelejdnjlabDoor
namespace Go.Proofs.YtolllelejdnjlabDoor.inumExtends
open Go.ChangeShapes Go.WideShapes Go.ChangeAt Go.RowKit
set_option linter.unusedVariables false

theorem own : ownKnob Tryd.prog.godebug = none := by kernel_rfl
theorem gTab : Tryd.prog.globalNamed "math/bits.deBruijn64tab" = some 0 := by kernel_rfl
theorem gTabType : (Tryd.prog.globals[0]?).map (·.type) = some 45 := by kernel_rfl
theorem cellsT : Tryd.prog.cellsOf 45 = 64 := by kernel_rfl
theorem cellsE : Tryd.prog.cellsOf 5 = 1 := by kernel_rfl
/- What the row's list gives: the table's cells hold its numbers. -/
theorem table {W : World} (h : laidMetH Tryd.prog Rows.inumExtendsRow.laid W) : Lib.TabIs Tryd.prog W "math/bits.deBruijn64tab" .u8 [0, 1, 56, 2, 57, 49, 28, 3, 61, 58, 42, 50, 38, 29, 17, 4, 62, 47, 59, 36, 45, 43, 51, 22, 53, 39, 33, 30, 24, 18, 12, 5, 63, 55, 48, 27, 60, 41, 37, 16, 46, 35, 44, 21, 52, 32, 23, 11, 54, 26, 40, 15, 34, 20, 31, 10, 25, 14, 19, 9, 13, 8, 7, 6] :=
  Lib.tabIs_of_head (rest := []) gTab gTabType Tryd.underlying45 Tryd.underlying5 cellsE cellsT h
theorem contract (H : Type) (enc : TypeId × Value → H) (W : World) (base : Nat) (args : Array Value) (ds gs : List (DataW H)) (before : List MemPlace)
    (hval : ∀ (j : Nat) t v, Tryd.f3.params[j]? = some t → args[j]? = some v → Value.okWide Tryd.prog W .any base t v)
    (hW : DataW.Whole enc Tryd.prog Tryd.f3.params.toList Rows.inumExtendsSpec.vars false W args.toList ds gs before) (hL : laidMetH Tryd.prog Rows.inumExtendsRow.laid W) :
    Calls Tryd.prog 3 args W fun e W' => ∃ v, e = .returned v ∧ Rows.inumExtendsSpec.post enc Tryd.prog Tryd.f3 false true false false W args v W' := by
  have hW' := hW
  obtain ⟨p, q, hA0, hV, rfl, hfz, hnd⟩ := hW
  have hA : DataW.TrodAll enc Tryd.prog W 0 (fun _ => true) true Tryd.f3.params.toList args.toList ds p := hA0
  rw [Tryd.params3] at hA hval
  obtain ⟨v0, vs0, d0, ds0, p0, q0, hargs, rfl, rfl, h0, r0⟩ := trodAll_cons hA
  obtain ⟨rfl, rfl, rfl⟩ := trodAll_nil r0
  obtain rfl : args = #[v0] := by cases args; simp_all
  obtain ⟨rfl, rfl⟩ := trodVars_none hV
  obtain ⟨a0, rfl, rfl, rfl, w0⟩ := open_int Tryd.underlying22 (hval 0 22 v0 rfl rfl) h0
  have b0 := bounds_u64 w0
  have hT : ∀ j, j < 64 → W.cell? ⟨0, j, none⟩ = some (.int .u8 ([0, 1, 56, 2, 57, 49, 28, 3, 61, 58, 42, 50, 38, 29, 17, 4, 62, 47, 59, 36, 45, 43, 51, 22, 53, 39, 33, 30, 24, 18, 12, 5, 63, 55, 48, 27, 60, 41, 37, 16, 46, 35, 44, 21, 52, 32, 23, 11, 54, 26, 40, 15, 34, 20, 31, 10, 25, 14, 19, 9, 13, 8, 7, 6].getD j 0)) := fun j hj => (table hL).cell gTab j hj
  clear hA0
  refine (extends_walk a0 W (by omega) (by omega)).mono fun e W' ⟨he, bel⟩ => ?_
  subst he
  exact ⟨_, rfl, _, _, _, [], _, [], hW', trodAll_mk1 (shut_bool Tryd.underlying4 _), (trodAll_cons_mk (shut_int Tryd.underlying22 w0) trodAll_mk0), rfl, bel.1.frame _, fun h => by cases h⟩
theorem laid_met (os : Os) : laidMet Tryd.prog Rows.inumExtendsRow.laid (({ World.holding Tryd.prog os ⟨#[], #[], []⟩ with heap := (World.holding Tryd.prog os ⟨#[], #[], []⟩).heap.modify 0 fun
      | .cells _ t frozen => .cells #[.int .u8 0, .int .u8 1, .int .u8 56, .int .u8 2, .int .u8 57, .int .u8 49, .int .u8 28, .int .u8 3, .int .u8 61, .int .u8 58, .int .u8 42, .int .u8 50, .int .u8 38, .int .u8 29, .int .u8 17, .int .u8 4, .int .u8 62, .int .u8 47, .int .u8 59, .int .u8 36, .int .u8 45, .int .u8 43, .int .u8 51, .int .u8 22, .int .u8 53, .int .u8 39, .int .u8 33, .int .u8 30, .int .u8 24, .int .u8 18, .int .u8 12, .int .u8 5, .int .u8 63, .int .u8 55, .int .u8 48, .int .u8 27, .int .u8 60, .int .u8 41, .int .u8 37, .int .u8 16, .int .u8 46, .int .u8 35, .int .u8 44, .int .u8 21, .int .u8 52, .int .u8 32, .int .u8 23, .int .u8 11, .int .u8 54, .int .u8 26, .int .u8 40, .int .u8 15, .int .u8 34, .int .u8 20, .int .u8 31, .int .u8 10, .int .u8 25, .int .u8 14, .int .u8 19, .int .u8 9, .int .u8 13, .int .u8 8, .int .u8 7, .int .u8 6] t frozen
      | o => o } : World).forCall (fun _ _ => 0) ⟨#[], #[.int .u64 0], []⟩).memory :=
  laidMet_of_run' 8 (by kernel_rfl) (by kernel_rfl)
theorem reads (os : Os) {H : Type} (enc : TypeId × Value → H) : ∃ places, DataW.whole enc Tryd.prog (({ World.holding Tryd.prog os ⟨#[], #[], []⟩ with heap := (World.holding Tryd.prog os ⟨#[], #[], []⟩).heap.modify 0 fun
      | .cells _ t frozen => .cells #[.int .u8 0, .int .u8 1, .int .u8 56, .int .u8 2, .int .u8 57, .int .u8 49, .int .u8 28, .int .u8 3, .int .u8 61, .int .u8 58, .int .u8 42, .int .u8 50, .int .u8 38, .int .u8 29, .int .u8 17, .int .u8 4, .int .u8 62, .int .u8 47, .int .u8 59, .int .u8 36, .int .u8 45, .int .u8 43, .int .u8 51, .int .u8 22, .int .u8 53, .int .u8 39, .int .u8 33, .int .u8 30, .int .u8 24, .int .u8 18, .int .u8 12, .int .u8 5, .int .u8 63, .int .u8 55, .int .u8 48, .int .u8 27, .int .u8 60, .int .u8 41, .int .u8 37, .int .u8 16, .int .u8 46, .int .u8 35, .int .u8 44, .int .u8 21, .int .u8 52, .int .u8 32, .int .u8 23, .int .u8 11, .int .u8 54, .int .u8 26, .int .u8 40, .int .u8 15, .int .u8 34, .int .u8 20, .int .u8 31, .int .u8 10, .int .u8 25, .int .u8 14, .int .u8 19, .int .u8 9, .int .u8 13, .int .u8 8, .int .u8 7, .int .u8 6] t frozen
      | o => o } : World).forCall (fun _ _ => 0) ⟨#[], #[.int .u64 0], []⟩).memory Tryd.f3.params.toList Rows.inumExtendsSpec.vars false #[Value.int .u64 0].toList 8 = some ([.lit (.int .u64 0)], [], places) :=
  ⟨[], by kernel_rfl⟩
set_option maxRecDepth 100000 in
theorem lifted (os : Os) (started : os.Started) (H : Type) (enc : TypeId × Value → H) (F : Stop.Interp) :
    ReturnsInHanded {} Tryd.checked os 3 .any ((OpenSpec.ofChange Rows.inumExtendsSpec).preRow enc Tryd.prog Tryd.f3 Rows.inumExtendsRow.domain false Rows.inumExtendsRow.laid) (((OpenSpec.ofChange Rows.inumExtendsSpec).at F).post enc Tryd.prog Tryd.f3 false true false false) := by
  obtain ⟨places, hx⟩ := reads os enc
  refine returnsInHanded_of_row (C := Tryd.checked) (s := OpenSpec.ofChange Rows.inumExtendsSpec) own started (by kernel_rfl) Tryd.func3
    (witness_row_at (enc := enc) (C := Tryd.checked) false ({ World.holding Tryd.prog os ⟨#[], #[], []⟩ with heap := (World.holding Tryd.prog os ⟨#[], #[], []⟩).heap.modify 0 fun
      | .cells _ t frozen => .cells #[.int .u8 0, .int .u8 1, .int .u8 56, .int .u8 2, .int .u8 57, .int .u8 49, .int .u8 28, .int .u8 3, .int .u8 61, .int .u8 58, .int .u8 42, .int .u8 50, .int .u8 38, .int .u8 29, .int .u8 17, .int .u8 4, .int .u8 62, .int .u8 47, .int .u8 59, .int .u8 36, .int .u8 45, .int .u8 43, .int .u8 51, .int .u8 22, .int .u8 53, .int .u8 39, .int .u8 33, .int .u8 30, .int .u8 24, .int .u8 18, .int .u8 12, .int .u8 5, .int .u8 63, .int .u8 55, .int .u8 48, .int .u8 27, .int .u8 60, .int .u8 41, .int .u8 37, .int .u8 16, .int .u8 46, .int .u8 35, .int .u8 44, .int .u8 21, .int .u8 52, .int .u8 32, .int .u8 23, .int .u8 11, .int .u8 54, .int .u8 26, .int .u8 40, .int .u8 15, .int .u8 34, .int .u8 20, .int .u8 31, .int .u8 10, .int .u8 25, .int .u8 14, .int .u8 19, .int .u8 9, .int .u8 13, .int .u8 8, .int .u8 7, .int .u8 6] t frozen
      | o => o } : World) #[.int .u64 0] rfl (by kernel_rfl) (by kernel_rfl) (by kernel_rfl)
      (OpenSpec.preRow_of_cond 8 hx (by kernel_rfl) (fun k hk => by cases hk) (by kernel_rfl) (laid_met os))) ?_
  intro W base args ds gs before hval hW _ _ _ hL _ _
  exact contract H enc W base args ds gs before hval hW hL
theorem said : Rows.InumExtendsSaid :=
  OpenClaim.holds_of_cond 3 Tryd.f3 rfl rfl rfl rfl rfl rfl rfl ⟨rfl, rfl, rfl, rfl, rfl⟩ rfl rfl rfl rfl rfl (by kernel_rfl) Tryd.func3 (by kernel_rfl)
    (of_decide_eq_true (by kernel_rfl)) (by unfold Func.isWrapper; first | (rw [if_pos (by decide +kernel)]; kernel_rfl) | (rw [if_neg (by decide +kernel)]; exact ⟨rfl, rfl⟩))
    (fun os started H enc _ F => by rw [OpenClaim.pre_eq_preRow]; exact lifted os started H enc F)
/- No parameter wants a stand-in; the program's own looks are off: what the card asks. -/
theorem plain (f : FuncId) (fn : Func) (hf : Tryd.pinned.checked.prog.funcNamed "ratchet/ratchetlaw03.InumExtends" = some f) (hfn : Tryd.pinned.checked.prog.funcs[f]? = some fn) :
    false = Tryd.pinned.checked.prog.looks [] ∧ ∀ (j : Nat) t, fn.params[j]? = some t → Tryd.pinned.checked.prog.wantsStandIn t = false := by
  obtain rfl : f = 3 := Option.some.inj ((show Tryd.prog.funcNamed "ratchet/ratchetlaw03.InumExtends" = some 3 by kernel_rfl).symm.trans hf) |>.symm
  obtain rfl : fn = Tryd.f3 := (Option.some.inj (Tryd.func3.symm.trans hfn)).symm
  refine ⟨by kernel_rfl, fun j t ht => ?_⟩
  rw [Tryd.params3] at ht
  have hm : t ∈ [22] := by simpa using Array.mem_of_getElem? ht
  have hall : ([22].all fun u => !Tryd.prog.wantsStandIn u) = true := by kernel_rfl
  exact (show Tryd.prog.wantsStandIn t = false by simpa using List.all_eq_true.1 hall t hm)
end Go.Proofs.YtolllelejdnjlabDoor.inumExtends
namespace Go.Proofs.YtolllelejdnjlabDoor
theorem inumExtends_holds : Rows.InumExtendsCardSaid :=
  Claim7.holds_tied_plain_at .later [] _ _ _ _ inumExtends.said (fun _ h => by cases h) (by kernel_rfl) (fun _ h => by cases h) inumExtends_row_tie rfl ⟨rfl, rfl⟩ (by kernel_rfl) rfl inumExtends.plain (by kernel_rfl)
#print axioms inumExtends_holds
end Go.Proofs.YtolllelejdnjlabDoor
