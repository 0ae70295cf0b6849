/-
  EntryPuts: for every import and every export the law answers true: PutImport, PutExport, PutTableType and PutGlobalType write the bytes that the document says, or tell its error and no bytes. It holds where the table of codes starts as its text lays it (the card ties it to the text of the pruned copy; nothing is said of code outside that copy).
-/
import Derived.Test.YtfnfbioenngjoaaDoorCards
import Derived.Test.YtfnfbioenngjoaaDoorTie
import Derived.Test.YtfnfbioenngjoaaDoorPuL
import Derived.Test.YtfnfbioenngjoaaDoorOpI
import Derived.Test.YtfnfbioenngjoaaDoorLaid
import Derived.Deep.DeepHandedRow
import Derived.Lib.LaidTab
import Derived.SizedLaws
import Derived.ChangeMaps5
import Derived.Carry
import Derived.Stop.LaidErr
namespace Go.Proofs.YtfnfbioenngjoaaDoor.entryPuts
open Go.ChangeShapes Go.WideShapes Go.ChangeAt Go.RowKit
set_option linter.unusedVariables false
set_option linter.unusedSimpArgs false

theorem own : ownKnob Tryd.prog.godebug = none := by kernel_rfl
theorem laidOut : laidOutB Tryd.prog = true := by kernel_rfl
set_option maxRecDepth 100000 in
theorem contract (H : Type) (enc : TypeId × Value → H) (W : World) (base : Nat) (args : Array Value) (ds gs : List (DataW H)) (before : List MemPlace)
    (hval : ∀ (j : Nat) t v, Tryd.f3.params[j]? = some t → args[j]? = some v → Value.okWide Tryd.prog W .any base t v)
    (hW : DataW.Whole enc Tryd.prog Tryd.f3.params.toList Rows.entryPutsSpec.vars false W args.toList ds gs before) (hsz : (DataW.weightsEach Tryd.prog (Tryd.f3.params.toList ++ (OpenSpec.ofChange Rows.entryPutsSpec).bare.plain.varTypes Tryd.prog) (ds ++ gs)).all (· ≤ reachBytes) = true) (hL : laidMetH Tryd.prog Rows.entryPutsRow.laid W) :
    Calls Tryd.prog 3 args W fun e W' => ∃ v, e = .returned v ∧ Rows.entryPutsSpec.post enc Tryd.prog Tryd.f3 false true false false W args v W' := by
  have hW' := hW
  have hlt : ∀ x ∈ before, x.block < W.heap.size := fun x hx => by simpa using hW.lt x hx
  obtain ⟨p, q, hA0, hV, rfl, hfz, hnd⟩ := hW
  have hA : DataW.TrodAll enc Tryd.prog W 0 (fun _ => true) true Tryd.f3.params.toList args.toList ds p := hA0
  rw [Tryd.params3] at hA hval hsz
  obtain ⟨v0, vs0, d0, ds0, p0, q0, hargs, rfl, rfl, h0, r0⟩ := trodAll_cons hA
  obtain ⟨v1, vs1, d1, ds1, p1, q1, rfl, rfl, rfl, h1, r1⟩ := trodAll_cons r0
  obtain ⟨rfl, rfl, rfl⟩ := trodAll_nil r1
  obtain rfl : args = #[v0, v1] := by cases args; simp_all
  obtain ⟨rfl, rfl⟩ := trodVars_none hV
  have hk0 := h0
  obtain ⟨f0, hf0⟩ := h0
  obtain ⟨cs0, rfl, hz0⟩ := okWide_struct Tryd.underlying34 (hval 0 34 v0 rfl rfl)
  obtain ⟨cl0⟩ := cs0
  obtain ⟨s0a, s0b, es0, ce0, hE0, y0, hx0⟩ := Go.Proofs.YtfnfbioenngjoaaDoor.open_IM (cs := cl0) (by simpa [Value.cells] using hf0) (hz0.trans (by kernel_rfl))
  subst ce0
  have hk1 := h1
  obtain ⟨f1, hf1⟩ := h1
  obtain ⟨cs1, rfl, hz1⟩ := okWide_struct Tryd.underlying37 (hval 1 37 v1 rfl rfl)
  obtain ⟨cl1⟩ := cs1
  obtain ⟨s1a, xk1, xa1, ce1, hE1, y1, z1, hx1⟩ := Go.Proofs.YtfnfbioenngjoaaDoor.open_EX (cs := cl1) (by simpa [Value.cells] using hf1) (hz1.trans (by kernel_rfl))
  subst ce1
  skip
  have hT : Go.Proofs.YtfnfbioenngjoaaDoor.Tab W := Go.Proofs.YtfnfbioenngjoaaDoor.tab_of hL
  simp only at hx0 hx1
  subst hx0 hx1
  obtain ⟨k, ty, tn, tz, th, tw, tp, tq, tm, mw, mp, mq, mm, gn, gz, gh, gm, hes, r1, r2, r3, r4, r5, r6, r7⟩ := hE0
  subst hes
  have hw : s0a.data.toList.length ≤ reachBytes ∧ s0b.data.toList.length ≤ reachBytes ∧ s1a.data.toList.length ≤ reachBytes := by
    simp [DataW.weightsEach, DataW.weights, Tryd.underlying34, Tryd.underlying37] at hsz
    exact ⟨hsz.1, hsz.2.1, hsz.2.2.2.1⟩
  have n0 : (Go.Proofs.YtfnfbioenngjoaaDoor.nums s0a).length ≤ 140737488351232 := by have := hw.1; unfold reachBytes at this; simpa [Go.Proofs.YtfnfbioenngjoaaDoor.nums] using this
  have n1 : (Go.Proofs.YtfnfbioenngjoaaDoor.nums s0b).length ≤ 140737488351232 := by have := hw.2.1; unfold reachBytes at this; simpa [Go.Proofs.YtfnfbioenngjoaaDoor.nums] using this
  have n2 : (Go.Proofs.YtfnfbioenngjoaaDoor.nums s1a).length ≤ 140737488351232 := by have := hw.2.2; unfold reachBytes at this; simpa [Go.Proofs.YtfnfbioenngjoaaDoor.nums] using this
  have walk := Go.Proofs.YtfnfbioenngjoaaDoor.puts_any W hT (Go.Proofs.YtfnfbioenngjoaaDoor.nums s0a) (Go.Proofs.YtfnfbioenngjoaaDoor.nums s0b) (Go.Proofs.YtfnfbioenngjoaaDoor.nums s1a) (Go.Proofs.YtfnfbioenngjoaaDoor.nums_byt _) n0 (Go.Proofs.YtfnfbioenngjoaaDoor.nums_byt _) n1 (Go.Proofs.YtfnfbioenngjoaaDoor.nums_byt _) n2 k ty tn th tp tq mp mq gn gh tz tw tm mw mm gz gm r1.1 r1.2 r2.1 r2.2 r7.1 r7.2 r3.1 r3.2 r4.1 r4.2 r5.1 r5.2 r6.1 r6.2 xk1 xa1 hE1.1 hE1.2
  rw [Go.Proofs.YtfnfbioenngjoaaDoor.str_nums, Go.Proofs.YtfnfbioenngjoaaDoor.str_nums, Go.Proofs.YtfnfbioenngjoaaDoor.str_nums] at walk
  clear hA0 hL hsz
  refine walk.mono fun e W' ⟨he, bel⟩ => ?_
  subst he
  exact ⟨_, rfl, _, _, _, [], _, [], hW', trodAll_mk1 (shut_bool Tryd.underlying4 _), (trodAll_cons_mk (Below.trod laidOut (by kernel_rfl) (of_decide_eq_true (by kernel_rfl)) hk0 bel.1 (fun x hx => hlt x (by simp [hx]))) (trodAll_cons_mk (Below.trod laidOut (by kernel_rfl) (of_decide_eq_true (by kernel_rfl)) hk1 bel.1 (fun x hx => hlt x (by simp [hx]))) trodAll_mk0)), rfl, bel.1.frame _, fun h => by cases h⟩
theorem laid_met (os : Os) : laidMet Tryd.prog Rows.entryPutsRow.laid (({ World.holding Tryd.prog os ⟨#[], #[], []⟩ with heap := ((World.holding Tryd.prog os ⟨#[], #[], []⟩).heap.modify 0 fun
      | .cells _ t frozen => .cells (List.toArray (.int .u8 127 :: .int .i64 1 :: .int .i64 1 :: .int .u8 126 :: .int .i64 1 :: .int .i64 2 :: .int .u8 125 :: .int .i64 1 :: .int .i64 3 :: .int .u8 124 :: .int .i64 1 :: .int .i64 4 :: .int .u8 123 :: .int .i64 2 :: .int .i64 0 :: .int .u8 120 :: .int .i64 3 :: .int .i64 6 :: .int .u8 119 :: .int .i64 3 :: .int .i64 7 :: .int .u8 116 :: .int .i64 4 :: .int .i64 (-12) :: .int .u8 115 :: .int .i64 4 :: .int .i64 (-2) :: .int .u8 114 :: .int .i64 4 :: .int .i64 (-4) :: .int .u8 113 :: .int .i64 4 :: .int .i64 (-10) :: .int .u8 112 :: .int .i64 4 :: .int .i64 (-1) :: .int .u8 111 :: .int .i64 4 :: .int .i64 (-3) :: .int .u8 110 :: .int .i64 4 :: .int .i64 (-5) :: .int .u8 109 :: .int .i64 4 :: .int .i64 (-6) :: .int .u8 108 :: .int .i64 4 :: .int .i64 (-7) :: .int .u8 107 :: .int .i64 4 :: .int .i64 (-8) :: .int .u8 106 :: .int .i64 4 :: .int .i64 (-9) :: .int .u8 105 :: .int .i64 4 :: .int .i64 (-11) :: .int .u8 100 :: .int .i64 5 :: .int .i64 0 :: .int .u8 99 :: .int .i64 5 :: .int .i64 1 :: .int .u8 96 :: .int .i64 6 :: .int .i64 1 :: .int .u8 95 :: .int .i64 6 :: .int .i64 2 :: .int .u8 94 :: .int .i64 6 :: .int .i64 3 :: [])) t frozen
      | o => o) } : World).forCall (fun _ _ => 0) ⟨#[], #[.agg #[.string ⟨#[]⟩, .string ⟨#[]⟩, .int .i64 0, .int .i64 0, .int .i64 0, .bool false, .int .i64 0, .bool false, .int .u64 0, .int .u64 0, .bool false, .bool false, .int .u64 0, .int .u64 0, .bool false, .int .i64 0, .bool false, .int .i64 0, .bool false], .agg #[.string ⟨#[]⟩, .int .i64 0, .int .u32 0]], []⟩).memory :=
  laidMet_of_run' 8 (by kernel_rfl) (by kernel_rfl)
theorem reads (os : Os) {H : Type} (enc : TypeId × Value → H) : ∃ places, DataW.whole enc Tryd.prog (({ World.holding Tryd.prog os ⟨#[], #[], []⟩ with heap := ((World.holding Tryd.prog os ⟨#[], #[], []⟩).heap.modify 0 fun
      | .cells _ t frozen => .cells (List.toArray (.int .u8 127 :: .int .i64 1 :: .int .i64 1 :: .int .u8 126 :: .int .i64 1 :: .int .i64 2 :: .int .u8 125 :: .int .i64 1 :: .int .i64 3 :: .int .u8 124 :: .int .i64 1 :: .int .i64 4 :: .int .u8 123 :: .int .i64 2 :: .int .i64 0 :: .int .u8 120 :: .int .i64 3 :: .int .i64 6 :: .int .u8 119 :: .int .i64 3 :: .int .i64 7 :: .int .u8 116 :: .int .i64 4 :: .int .i64 (-12) :: .int .u8 115 :: .int .i64 4 :: .int .i64 (-2) :: .int .u8 114 :: .int .i64 4 :: .int .i64 (-4) :: .int .u8 113 :: .int .i64 4 :: .int .i64 (-10) :: .int .u8 112 :: .int .i64 4 :: .int .i64 (-1) :: .int .u8 111 :: .int .i64 4 :: .int .i64 (-3) :: .int .u8 110 :: .int .i64 4 :: .int .i64 (-5) :: .int .u8 109 :: .int .i64 4 :: .int .i64 (-6) :: .int .u8 108 :: .int .i64 4 :: .int .i64 (-7) :: .int .u8 107 :: .int .i64 4 :: .int .i64 (-8) :: .int .u8 106 :: .int .i64 4 :: .int .i64 (-9) :: .int .u8 105 :: .int .i64 4 :: .int .i64 (-11) :: .int .u8 100 :: .int .i64 5 :: .int .i64 0 :: .int .u8 99 :: .int .i64 5 :: .int .i64 1 :: .int .u8 96 :: .int .i64 6 :: .int .i64 1 :: .int .u8 95 :: .int .i64 6 :: .int .i64 2 :: .int .u8 94 :: .int .i64 6 :: .int .i64 3 :: [])) t frozen
      | o => o) } : World).forCall (fun _ _ => 0) ⟨#[], #[.agg #[.string ⟨#[]⟩, .string ⟨#[]⟩, .int .i64 0, .int .i64 0, .int .i64 0, .bool false, .int .i64 0, .bool false, .int .u64 0, .int .u64 0, .bool false, .bool false, .int .u64 0, .int .u64 0, .bool false, .int .i64 0, .bool false, .int .i64 0, .bool false], .agg #[.string ⟨#[]⟩, .int .i64 0, .int .u32 0]], []⟩).memory Tryd.f3.params.toList Rows.entryPutsSpec.vars false #[Value.agg #[.string ⟨#[]⟩, .string ⟨#[]⟩, .int .i64 0, .int .i64 0, .int .i64 0, .bool false, .int .i64 0, .bool false, .int .u64 0, .int .u64 0, .bool false, .bool false, .int .u64 0, .int .u64 0, .bool false, .int .i64 0, .bool false, .int .i64 0, .bool false], Value.agg #[.string ⟨#[]⟩, .int .i64 0, .int .u32 0]].toList 8 = some ([.agg [.lit (.string []), .lit (.string []), .agg [.lit (.int .i64 0), .lit (.int .i64 0), .agg [.agg [.lit (.int .i64 0), .lit (.bool false), .lit (.int .i64 0)], .agg [.lit (.bool false), .lit (.int .u64 0), .lit (.int .u64 0), .lit (.bool false)]], .agg [.lit (.bool false), .lit (.int .u64 0), .lit (.int .u64 0), .lit (.bool false)], .agg [.agg [.lit (.int .i64 0), .lit (.bool false), .lit (.int .i64 0)], .lit (.bool false)]]], .agg [.lit (.string []), .lit (.int .i64 0), .lit (.int .u32 0)]], [], places) :=
  ⟨[], by kernel_rfl⟩
set_option maxRecDepth 100000 in
theorem lifted (os : Os) (started : os.Started) (H : Type) (enc : TypeId × Value → H) (F : Stop.Interp) :
    ReturnsInHanded {} Tryd.checked os 3 .any ((OpenSpec.ofChange Rows.entryPutsSpec).preRow enc Tryd.prog Tryd.f3 Rows.entryPutsRow.domain false Rows.entryPutsRow.laid) (((OpenSpec.ofChange Rows.entryPutsSpec).at F).post enc Tryd.prog Tryd.f3 false true false false) := by
  obtain ⟨places, hx⟩ := reads os enc
  refine returnsInHanded_of_row (C := Tryd.checked) (s := OpenSpec.ofChange Rows.entryPutsSpec) own started (by kernel_rfl) Tryd.func3
    (witness_row_at (enc := enc) (C := Tryd.checked) false ({ World.holding Tryd.prog os ⟨#[], #[], []⟩ with heap := ((World.holding Tryd.prog os ⟨#[], #[], []⟩).heap.modify 0 fun
      | .cells _ t frozen => .cells (List.toArray (.int .u8 127 :: .int .i64 1 :: .int .i64 1 :: .int .u8 126 :: .int .i64 1 :: .int .i64 2 :: .int .u8 125 :: .int .i64 1 :: .int .i64 3 :: .int .u8 124 :: .int .i64 1 :: .int .i64 4 :: .int .u8 123 :: .int .i64 2 :: .int .i64 0 :: .int .u8 120 :: .int .i64 3 :: .int .i64 6 :: .int .u8 119 :: .int .i64 3 :: .int .i64 7 :: .int .u8 116 :: .int .i64 4 :: .int .i64 (-12) :: .int .u8 115 :: .int .i64 4 :: .int .i64 (-2) :: .int .u8 114 :: .int .i64 4 :: .int .i64 (-4) :: .int .u8 113 :: .int .i64 4 :: .int .i64 (-10) :: .int .u8 112 :: .int .i64 4 :: .int .i64 (-1) :: .int .u8 111 :: .int .i64 4 :: .int .i64 (-3) :: .int .u8 110 :: .int .i64 4 :: .int .i64 (-5) :: .int .u8 109 :: .int .i64 4 :: .int .i64 (-6) :: .int .u8 108 :: .int .i64 4 :: .int .i64 (-7) :: .int .u8 107 :: .int .i64 4 :: .int .i64 (-8) :: .int .u8 106 :: .int .i64 4 :: .int .i64 (-9) :: .int .u8 105 :: .int .i64 4 :: .int .i64 (-11) :: .int .u8 100 :: .int .i64 5 :: .int .i64 0 :: .int .u8 99 :: .int .i64 5 :: .int .i64 1 :: .int .u8 96 :: .int .i64 6 :: .int .i64 1 :: .int .u8 95 :: .int .i64 6 :: .int .i64 2 :: .int .u8 94 :: .int .i64 6 :: .int .i64 3 :: [])) t frozen
      | o => o) } : World) #[.agg #[.string ⟨#[]⟩, .string ⟨#[]⟩, .int .i64 0, .int .i64 0, .int .i64 0, .bool false, .int .i64 0, .bool false, .int .u64 0, .int .u64 0, .bool false, .bool false, .int .u64 0, .int .u64 0, .bool false, .int .i64 0, .bool false, .int .i64 0, .bool false], .agg #[.string ⟨#[]⟩, .int .i64 0, .int .u32 0]] rfl (by kernel_rfl) (by kernel_rfl) (by kernel_rfl)
      (OpenSpec.preRow_of_cond 8 hx (by kernel_rfl) (fun k hk => by cases hk) (by kernel_rfl) (laid_met os))) ?_
  intro W base args ds gs before hval hW _ _ hsz hL _ _
  exact contract H enc W base args ds gs before hval hW hsz hL
theorem said : Rows.EntryPutsSaid :=
  OpenClaim.holds_of_cond 3 Tryd.f3 rfl rfl rfl rfl rfl rfl rfl ⟨rfl, rfl, rfl, rfl, rfl⟩ rfl rfl rfl rfl rfl (by kernel_rfl) Tryd.func3 (by kernel_rfl)
    (of_decide_eq_true (by kernel_rfl)) (by unfold Func.isWrapper; first | (rw [if_pos (by decide +kernel)]; kernel_rfl) | (rw [if_neg (by decide +kernel)]; exact ⟨rfl, rfl⟩))
    (fun os started H enc _ F => by rw [OpenClaim.pre_eq_preRow]; exact lifted os started H enc F)
/- No parameter wants a stand-in; the program's own looks are as the card says. -/
theorem plain (f : FuncId) (fn : Func) (hf : Tryd.pinned.checked.prog.funcNamed "ratchet/ratchetlaw08.EntryPuts" = some f) (hfn : Tryd.pinned.checked.prog.funcs[f]? = some fn) :
    true = Tryd.pinned.checked.prog.looks [] ∧ ∀ (j : Nat) t, fn.params[j]? = some t → Tryd.pinned.checked.prog.wantsStandIn t = false := by
  obtain rfl : f = 3 := Option.some.inj ((show Tryd.prog.funcNamed "ratchet/ratchetlaw08.EntryPuts" = some 3 by kernel_rfl).symm.trans hf) |>.symm
  obtain rfl : fn = Tryd.f3 := (Option.some.inj (Tryd.func3.symm.trans hfn)).symm
  refine ⟨by kernel_rfl, fun j t ht => ?_⟩
  rw [Tryd.params3] at ht
  have hm : t ∈ [34, 37] := by simpa using Array.mem_of_getElem? ht
  have hall : ([34, 37].all fun u => !Tryd.prog.wantsStandIn u) = true := by kernel_rfl
  exact (show Tryd.prog.wantsStandIn t = false by simpa using List.all_eq_true.1 hall t hm)
end Go.Proofs.YtfnfbioenngjoaaDoor.entryPuts
namespace Go.Proofs.YtfnfbioenngjoaaDoor
theorem entryPuts_holds : Rows.EntryPutsCardSaid :=
  Claim7.holds_tied_plain_at .later [] _ _ _ _ entryPuts.said (fun _ h => by cases h) (by kernel_rfl) (fun _ h => by cases h) entryPuts_row_tie rfl ⟨rfl, rfl⟩ (by kernel_rfl) rfl entryPuts.plain (by kernel_rfl)
#print axioms entryPuts_holds
end Go.Proofs.YtfnfbioenngjoaaDoor
