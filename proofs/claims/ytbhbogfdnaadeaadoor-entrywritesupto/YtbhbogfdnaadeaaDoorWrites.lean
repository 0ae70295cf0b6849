/-
  EntryWrites (second form): where the arguments are of at most 1048576 parts in all, the law answers true: PutHeapType, PutValType, PutBlockType, PutRecType, PutLimits and PutTag write the bytes that the document says, or tell its error and no bytes. It holds where the table of codes starts as its text lays it (the card ties it to the text of the pruned copy; nothing is said of code outside that copy).
-/
import Derived.Test.YtbhbogfdnaadeaaDoorCards
import Derived.Test.YtbhbogfdnaadeaaDoorTie
import Derived.Test.YtbhbogfdnaadeaaDoorWrL
import Derived.Test.YtbhbogfdnaadeaaDoorOpL
import Derived.Test.YtbhbogfdnaadeaaDoorLaid
import Derived.Deep.DeepHandedRow
import Derived.Lib.LaidTab
import Derived.SizedLaws
import Derived.ChangeMaps5
import Derived.Carry
import Derived.Stop.LaidErr
namespace Go.Proofs.YtbhbogfdnaadeaaDoor.entryWrites
open Go.ChangeShapes Go.WideShapes Go.ChangeAt Go.RowKit
set_option linter.unusedVariables false
set_option linter.unusedSimpArgs false

theorem own : ownKnob Tryd.prog.godebug = none := by kernel_rfl
theorem laidOut : laidOutB Tryd.prog = true := by kernel_rfl
set_option maxRecDepth 100000 in
theorem contract (H : Type) (enc : TypeId × Value → H) (W : World) (base : Nat) (args : Array Value) (ds gs : List (DataW H)) (before : List MemPlace)
    (hval : ∀ (j : Nat) t v, Tryd.f3.params[j]? = some t → args[j]? = some v → Value.okWide Tryd.prog W .any base t v)
    (hW : DataW.Whole enc Tryd.prog Tryd.f3.params.toList Rows.entryWritesSpec.vars false W args.toList ds gs before) (hbk : Rows.uptoBulkAll (ds ++ gs) ≤ 1048576) (hsz : (DataW.weightsEach Tryd.prog (Tryd.f3.params.toList ++ (OpenSpec.ofChange Rows.entryWritesSpec).bare.plain.varTypes Tryd.prog) (ds ++ gs)).all (· ≤ reachBytes) = true) (hL : laidMetH Tryd.prog Rows.entryWritesUptoRow.laid W) :
    Calls Tryd.prog 3 args W fun e W' => ∃ v, e = .returned v ∧ Rows.entryWritesSpec.post enc Tryd.prog Tryd.f3 false true false false W args v W' := by
  have hW' := hW
  have hlt : ∀ x ∈ before, x.block < W.heap.size := fun x hx => by simpa using hW.lt x hx
  obtain ⟨p, q, hA0, hV, rfl, hfz, hnd⟩ := hW
  have hA : DataW.TrodAll enc Tryd.prog W 0 (fun _ => true) true Tryd.f3.params.toList args.toList ds p := hA0
  rw [Tryd.params3] at hA hval hsz
  obtain ⟨v0, vs0, d0, ds0, p0, q0, hargs, rfl, rfl, h0, r0⟩ := trodAll_cons hA
  obtain ⟨v1, vs1, d1, ds1, p1, q1, rfl, rfl, rfl, h1, r1⟩ := trodAll_cons r0
  obtain ⟨v2, vs2, d2, ds2, p2, q2, rfl, rfl, rfl, h2, r2⟩ := trodAll_cons r1
  obtain ⟨v3, vs3, d3, ds3, p3, q3, rfl, rfl, rfl, h3, r3⟩ := trodAll_cons r2
  obtain ⟨v4, vs4, d4, ds4, p4, q4, rfl, rfl, rfl, h4, r4⟩ := trodAll_cons r3
  obtain ⟨rfl, rfl, rfl⟩ := trodAll_nil r4
  obtain rfl : args = #[v0, v1, v2, v3, v4] := by cases args; simp_all
  obtain ⟨rfl, rfl⟩ := trodVars_none hV
  have hk0 := h0
  obtain ⟨f0, hf0⟩ := h0
  obtain ⟨cs0, rfl, hz0⟩ := okWide_struct Tryd.underlying23 (hval 0 23 v0 rfl rfl)
  obtain ⟨cl0⟩ := cs0
  obtain ⟨n0, nul0, hp0, ce0, ra0, rb0⟩ := Go.Proofs.YtbhbogfdnaadeaaDoor.open_VV (cs := cl0) (by simpa [Value.cells] using hf0) (hz0.trans (by kernel_rfl))
  subst ce0
  have hk1 := h1
  obtain ⟨f1, hf1⟩ := h1
  obtain ⟨cs1, rfl, hz1⟩ := okWide_struct Tryd.underlying25 (hval 1 25 v1 rfl rfl)
  obtain ⟨cl1⟩ := cs1
  obtain ⟨t1, n1, nul1, hp1, ce1, ra1, rb1, rc1⟩ := Go.Proofs.YtbhbogfdnaadeaaDoor.open_BB (cs := cl1) (by simpa [Value.cells] using hf1) (hz1.trans (by kernel_rfl))
  subst ce1
  have hk2 := h2
  obtain ⟨f2, hf2⟩ := h2
  obtain ⟨cs2, rfl, hz2⟩ := okWide_struct Tryd.underlying28 (hval 2 28 v2 rfl rfl)
  obtain ⟨cl2⟩ := cs2
  obtain ⟨tv2, g2, ce2, lr2, bk2, rg2⟩ := Go.Proofs.YtbhbogfdnaadeaaDoor.open_RV (cs := cl2) (by simpa [Value.cells] using hf2) (hz2.trans (by kernel_rfl))
  subst ce2
  have hk3 := h3
  obtain ⟨f3, hf3⟩ := h3
  obtain ⟨cs3, rfl, hz3⟩ := okWide_struct Tryd.underlying31 (hval 3 31 v3 rfl rfl)
  obtain ⟨cl3⟩ := cs3
  obtain ⟨wide3, mn3, mx3, hm3, ce3, ra3, rb3⟩ := Go.Proofs.YtbhbogfdnaadeaaDoor.open_LL (cs := cl3) (by simpa [Value.cells] using hf3) (hz3.trans (by kernel_rfl))
  subst ce3
  obtain ⟨n4, rfl, rfl, rfl, wf4⟩ := open_int Tryd.underlying3 (hval 4 3 v4 rfl rfl) h4
  have b4 := bounds_i64 wf4
  simp only [List.cons_append, List.nil_append, List.append_nil, Rows.uptoBulkAll] at hbk
  have hT : Go.Proofs.YtbhbogfdnaadeaaDoor.Tab W := Go.Proofs.YtbhbogfdnaadeaaDoor.tab_of hL
  dsimp only at bk2 hbk
  have hmu : Go.Proofs.YtbhbogfdnaadeaaDoor.muR g2 ≤ 1048576 := by omega
  obtain ⟨ta2, tc2, rfl, _, _⟩ := lr2.one
  have walk : Calls Tryd.prog 3 #[.agg #[.int .i64 n0, .bool nul0, .int .i64 hp0], .agg #[.int .i64 t1, .int .i64 n1, .bool nul1, .int .i64 hp1], .agg #[.slice ta2 g2.types.length tc2, .bool g2.explicit], .agg #[.bool wide3, .int .u64 mn3, .int .u64 mx3, .bool hm3], .int .i64 n4] W fun e w' => e = .returned (.bool true) ∧ Go.Proofs.YtbhbogfdnaadeaaDoor.Grew W w' :=
    Go.Proofs.YtbhbogfdnaadeaaDoor.writes_any W hT n0 hp0 nul0 t1 n1 hp1 nul1 ta2 tc2 g2.types g2.explicit wide3 hm3 mn3 mx3 n4 rb0.1 rb0.2 ra1.1 ra1.2 rc1.1 rc1.2 lr2 (Go.Proofs.YtbhbogfdnaadeaaDoor.grp_small hmu) (Go.Proofs.YtbhbogfdnaadeaaDoor.grp_ok rg2) (Go.Proofs.YtbhbogfdnaadeaaDoor.grp_sz hmu) ra3.1 ra3.2 rb3.1 rb3.2 (by omega) (by omega)
  clear hA0 hL hsz hbk
  refine walk.mono fun e W' ⟨he, bel⟩ => ?_
  subst he
  exact ⟨_, rfl, _, _, _, [], _, [], hW', trodAll_mk1 (shut_bool Tryd.underlying4 _), (trodAll_cons_mk (Below.trod laidOut (by kernel_rfl) (of_decide_eq_true (by kernel_rfl)) hk0 bel.1 (fun x hx => hlt x (by simp [hx]))) (trodAll_cons_mk (Below.trod laidOut (by kernel_rfl) (of_decide_eq_true (by kernel_rfl)) hk1 bel.1 (fun x hx => hlt x (by simp [hx]))) (trodAll_cons_mk (Below.trod laidOut (by kernel_rfl) (of_decide_eq_true (by kernel_rfl)) hk2 bel.1 (fun x hx => hlt x (by simp [hx]))) (trodAll_cons_mk (Below.trod laidOut (by kernel_rfl) (of_decide_eq_true (by kernel_rfl)) hk3 bel.1 (fun x hx => hlt x (by simp [hx]))) (trodAll_cons_mk (shut_int Tryd.underlying3 wf4) trodAll_mk0))))), rfl, bel.1.frame _, fun h => by cases h⟩
theorem laid_met (os : Os) : laidMet Tryd.prog Rows.entryWritesUptoRow.laid (({ World.holding Tryd.prog os ⟨#[], #[], []⟩ with heap := ((World.holding Tryd.prog os ⟨#[], #[], []⟩).heap.modify 0 fun
      | .cells _ t frozen => .cells (List.toArray (.int .u8 127 :: .int .i64 1 :: .int .i64 1 :: .int .u8 126 :: .int .i64 1 :: .int .i64 2 :: .int .u8 125 :: .int .i64 1 :: .int .i64 3 :: .int .u8 124 :: .int .i64 1 :: .int .i64 4 :: .int .u8 123 :: .int .i64 2 :: .int .i64 0 :: .int .u8 120 :: .int .i64 3 :: .int .i64 6 :: .int .u8 119 :: .int .i64 3 :: .int .i64 7 :: .int .u8 116 :: .int .i64 4 :: .int .i64 (-12) :: .int .u8 115 :: .int .i64 4 :: .int .i64 (-2) :: .int .u8 114 :: .int .i64 4 :: .int .i64 (-4) :: .int .u8 113 :: .int .i64 4 :: .int .i64 (-10) :: .int .u8 112 :: .int .i64 4 :: .int .i64 (-1) :: .int .u8 111 :: .int .i64 4 :: .int .i64 (-3) :: .int .u8 110 :: .int .i64 4 :: .int .i64 (-5) :: .int .u8 109 :: .int .i64 4 :: .int .i64 (-6) :: .int .u8 108 :: .int .i64 4 :: .int .i64 (-7) :: .int .u8 107 :: .int .i64 4 :: .int .i64 (-8) :: .int .u8 106 :: .int .i64 4 :: .int .i64 (-9) :: .int .u8 105 :: .int .i64 4 :: .int .i64 (-11) :: .int .u8 100 :: .int .i64 5 :: .int .i64 0 :: .int .u8 99 :: .int .i64 5 :: .int .i64 1 :: .int .u8 96 :: .int .i64 6 :: .int .i64 1 :: .int .u8 95 :: .int .i64 6 :: .int .i64 2 :: .int .u8 94 :: .int .i64 6 :: .int .i64 3 :: [])) t frozen
      | o => o) } : World).forCall (fun _ _ => 0) ⟨#[], #[.agg #[.int .i64 0, .bool false, .int .i64 0], .agg #[.int .i64 0, .int .i64 0, .bool false, .int .i64 0], .agg #[.slice none 0 0, .bool false], .agg #[.bool false, .int .u64 0, .int .u64 0, .bool false], .int .i64 0], []⟩).memory :=
  laidMet_of_run' 8 (by kernel_rfl) (by kernel_rfl)
theorem reads (os : Os) {H : Type} (enc : TypeId × Value → H) : ∃ places, DataW.whole enc Tryd.prog (({ World.holding Tryd.prog os ⟨#[], #[], []⟩ with heap := ((World.holding Tryd.prog os ⟨#[], #[], []⟩).heap.modify 0 fun
      | .cells _ t frozen => .cells (List.toArray (.int .u8 127 :: .int .i64 1 :: .int .i64 1 :: .int .u8 126 :: .int .i64 1 :: .int .i64 2 :: .int .u8 125 :: .int .i64 1 :: .int .i64 3 :: .int .u8 124 :: .int .i64 1 :: .int .i64 4 :: .int .u8 123 :: .int .i64 2 :: .int .i64 0 :: .int .u8 120 :: .int .i64 3 :: .int .i64 6 :: .int .u8 119 :: .int .i64 3 :: .int .i64 7 :: .int .u8 116 :: .int .i64 4 :: .int .i64 (-12) :: .int .u8 115 :: .int .i64 4 :: .int .i64 (-2) :: .int .u8 114 :: .int .i64 4 :: .int .i64 (-4) :: .int .u8 113 :: .int .i64 4 :: .int .i64 (-10) :: .int .u8 112 :: .int .i64 4 :: .int .i64 (-1) :: .int .u8 111 :: .int .i64 4 :: .int .i64 (-3) :: .int .u8 110 :: .int .i64 4 :: .int .i64 (-5) :: .int .u8 109 :: .int .i64 4 :: .int .i64 (-6) :: .int .u8 108 :: .int .i64 4 :: .int .i64 (-7) :: .int .u8 107 :: .int .i64 4 :: .int .i64 (-8) :: .int .u8 106 :: .int .i64 4 :: .int .i64 (-9) :: .int .u8 105 :: .int .i64 4 :: .int .i64 (-11) :: .int .u8 100 :: .int .i64 5 :: .int .i64 0 :: .int .u8 99 :: .int .i64 5 :: .int .i64 1 :: .int .u8 96 :: .int .i64 6 :: .int .i64 1 :: .int .u8 95 :: .int .i64 6 :: .int .i64 2 :: .int .u8 94 :: .int .i64 6 :: .int .i64 3 :: [])) t frozen
      | o => o) } : World).forCall (fun _ _ => 0) ⟨#[], #[.agg #[.int .i64 0, .bool false, .int .i64 0], .agg #[.int .i64 0, .int .i64 0, .bool false, .int .i64 0], .agg #[.slice none 0 0, .bool false], .agg #[.bool false, .int .u64 0, .int .u64 0, .bool false], .int .i64 0], []⟩).memory Tryd.f3.params.toList Rows.entryWritesSpec.vars false #[Value.agg #[.int .i64 0, .bool false, .int .i64 0], Value.agg #[.int .i64 0, .int .i64 0, .bool false, .int .i64 0], Value.agg #[.slice none 0 0, .bool false], Value.agg #[.bool false, .int .u64 0, .int .u64 0, .bool false], Value.int .i64 0].toList 8 = some ([.agg [.lit (.int .i64 0), .lit (.bool false), .lit (.int .i64 0)], .agg [.lit (.int .i64 0), .agg [.lit (.int .i64 0), .lit (.bool false), .lit (.int .i64 0)]], .agg [.nil, .lit (.bool false)], .agg [.lit (.bool false), .lit (.int .u64 0), .lit (.int .u64 0), .lit (.bool false)], .lit (.int .i64 0)], [], places) :=
  ⟨[], by kernel_rfl⟩
set_option maxRecDepth 100000 in
theorem liftedUpto (os : Os) (started : os.Started) (H : Type) (enc : TypeId × Value → H) (F : Stop.Interp) :
    ReturnsInHanded {} Tryd.checked os 3 .any ((Rows.OpenSpec.upto Rows.entryWritesSpec).preRow enc Tryd.prog Tryd.f3 Rows.entryWritesUptoRow.domain false Rows.entryWritesUptoRow.laid) (((Rows.OpenSpec.upto Rows.entryWritesSpec).at F).post enc Tryd.prog Tryd.f3 false true false false) := by
  obtain ⟨places, hx⟩ := reads os enc
  refine returnsInHanded_of_row (C := Tryd.checked) (s := Rows.OpenSpec.upto Rows.entryWritesSpec) own started (by kernel_rfl) Tryd.func3
    (witness_row_at (enc := enc) (C := Tryd.checked) false ({ World.holding Tryd.prog os ⟨#[], #[], []⟩ with heap := ((World.holding Tryd.prog os ⟨#[], #[], []⟩).heap.modify 0 fun
      | .cells _ t frozen => .cells (List.toArray (.int .u8 127 :: .int .i64 1 :: .int .i64 1 :: .int .u8 126 :: .int .i64 1 :: .int .i64 2 :: .int .u8 125 :: .int .i64 1 :: .int .i64 3 :: .int .u8 124 :: .int .i64 1 :: .int .i64 4 :: .int .u8 123 :: .int .i64 2 :: .int .i64 0 :: .int .u8 120 :: .int .i64 3 :: .int .i64 6 :: .int .u8 119 :: .int .i64 3 :: .int .i64 7 :: .int .u8 116 :: .int .i64 4 :: .int .i64 (-12) :: .int .u8 115 :: .int .i64 4 :: .int .i64 (-2) :: .int .u8 114 :: .int .i64 4 :: .int .i64 (-4) :: .int .u8 113 :: .int .i64 4 :: .int .i64 (-10) :: .int .u8 112 :: .int .i64 4 :: .int .i64 (-1) :: .int .u8 111 :: .int .i64 4 :: .int .i64 (-3) :: .int .u8 110 :: .int .i64 4 :: .int .i64 (-5) :: .int .u8 109 :: .int .i64 4 :: .int .i64 (-6) :: .int .u8 108 :: .int .i64 4 :: .int .i64 (-7) :: .int .u8 107 :: .int .i64 4 :: .int .i64 (-8) :: .int .u8 106 :: .int .i64 4 :: .int .i64 (-9) :: .int .u8 105 :: .int .i64 4 :: .int .i64 (-11) :: .int .u8 100 :: .int .i64 5 :: .int .i64 0 :: .int .u8 99 :: .int .i64 5 :: .int .i64 1 :: .int .u8 96 :: .int .i64 6 :: .int .i64 1 :: .int .u8 95 :: .int .i64 6 :: .int .i64 2 :: .int .u8 94 :: .int .i64 6 :: .int .i64 3 :: [])) t frozen
      | o => o) } : World) #[.agg #[.int .i64 0, .bool false, .int .i64 0], .agg #[.int .i64 0, .int .i64 0, .bool false, .int .i64 0], .agg #[.slice none 0 0, .bool false], .agg #[.bool false, .int .u64 0, .int .u64 0, .bool false], .int .i64 0] rfl (by kernel_rfl) (by kernel_rfl) (by kernel_rfl)
      (OpenSpec.preRow_of_cond 8 hx (by kernel_rfl) (fun k hk => by cases hk; kernel_rfl) (by kernel_rfl) (laid_met os))) ?_
  intro W base args ds gs before hval hW _ hcond hsz hL _ _
  exact contract H enc W base args ds gs before hval hW (of_decide_eq_true (hcond _ rfl)) hsz hL
theorem saidUpto : Rows.EntryWritesUptoSaid :=
  OpenClaim.holds_of_cond 3 Tryd.f3 rfl rfl rfl rfl rfl rfl rfl ⟨rfl, rfl, rfl, rfl, rfl⟩ rfl rfl rfl rfl rfl (by kernel_rfl) Tryd.func3 (by kernel_rfl)
    (of_decide_eq_true (by kernel_rfl)) (by unfold Func.isWrapper; first | (rw [if_pos (by decide +kernel)]; kernel_rfl) | (rw [if_neg (by decide +kernel)]; exact ⟨rfl, rfl⟩))
    (fun os started H enc _ F => by rw [OpenClaim.pre_eq_preRow]; exact liftedUpto os started H enc F)
/- No parameter wants a stand-in; the program's own looks are as the card says. -/
theorem plain (f : FuncId) (fn : Func) (hf : Tryd.pinned.checked.prog.funcNamed "ratchet/ratchetlaw08.EntryWrites" = some f) (hfn : Tryd.pinned.checked.prog.funcs[f]? = some fn) :
    true = Tryd.pinned.checked.prog.looks [] ∧ ∀ (j : Nat) t, fn.params[j]? = some t → Tryd.pinned.checked.prog.wantsStandIn t = false := by
  obtain rfl : f = 3 := Option.some.inj ((show Tryd.prog.funcNamed "ratchet/ratchetlaw08.EntryWrites" = some 3 by kernel_rfl).symm.trans hf) |>.symm
  obtain rfl : fn = Tryd.f3 := (Option.some.inj (Tryd.func3.symm.trans hfn)).symm
  refine ⟨by kernel_rfl, fun j t ht => ?_⟩
  rw [Tryd.params3] at ht
  have hm : t ∈ [23, 25, 28, 31, 3] := by simpa using Array.mem_of_getElem? ht
  have hall : ([23, 25, 28, 31, 3].all fun u => !Tryd.prog.wantsStandIn u) = true := by kernel_rfl
  exact (show Tryd.prog.wantsStandIn t = false by simpa using List.all_eq_true.1 hall t hm)
end Go.Proofs.YtbhbogfdnaadeaaDoor.entryWrites
namespace Go.Proofs.YtbhbogfdnaadeaaDoor
theorem entryWrites_holds : Rows.EntryWritesUptoCardSaid :=
  Claim7.holds_tied_plain_at .later [] _ _ _ _ entryWrites.saidUpto (fun _ h => by cases h) (by kernel_rfl) (fun _ h => by cases h) entryWritesUpto_row_tie rfl ⟨rfl, rfl⟩ (by kernel_rfl) rfl entryWrites.plain (by kernel_rfl)
#print axioms entryWrites_holds
end Go.Proofs.YtbhbogfdnaadeaaDoor
