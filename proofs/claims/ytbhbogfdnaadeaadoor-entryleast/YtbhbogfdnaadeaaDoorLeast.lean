/-
  EntryLeast: for every row of bytes and every place the law answers true: a group that RecType reads there is written by PutRecType in at most as many bytes, and RecType reads these as the same group. It holds where the table of codes starts as its text lays it (the card ties it to the text of the pruned copy; nothing is said of code outside that copy).
-/
import Derived.Test.YtbhbogfdnaadeaaDoorCards
import Derived.Test.YtbhbogfdnaadeaaDoorTie
import Derived.Test.YtbhbogfdnaadeaaDoorLeW
import Derived.Test.YtbhbogfdnaadeaaDoorArgs
import Derived.Test.YtbhbogfdnaadeaaDoorLaid
import Derived.Deep.DeepHandedRow
import Derived.Lib.LaidTab
import Derived.SizedLaws
import Derived.ChangeMaps5
import Derived.Carry
import Derived.Stop.LaidErr
namespace Go.Proofs.YtbhbogfdnaadeaaDoor.entryLeast
open Go.ChangeShapes Go.WideShapes Go.ChangeAt Go.RowKit
set_option linter.unusedVariables false
set_option linter.unusedSimpArgs false

theorem own : ownKnob Tryd.prog.godebug = none := by kernel_rfl
theorem laidOut : laidOutB Tryd.prog = true := by kernel_rfl
set_option maxRecDepth 100000 in
theorem contract (H : Type) (enc : TypeId × Value → H) (W : World) (base : Nat) (args : Array Value) (ds gs : List (DataW H)) (before : List MemPlace)
    (hval : ∀ (j : Nat) t v, Tryd.f5.params[j]? = some t → args[j]? = some v → Value.okWide Tryd.prog W .any base t v)
    (hW : DataW.Whole enc Tryd.prog Tryd.f5.params.toList Rows.entryLeastSpec.vars false W args.toList ds gs before) (hsz : (DataW.weightsEach Tryd.prog (Tryd.f5.params.toList ++ (OpenSpec.ofChange Rows.entryLeastSpec).bare.plain.varTypes Tryd.prog) (ds ++ gs)).all (· ≤ reachBytes) = true) (hL : laidMetH Tryd.prog Rows.entryLeastRow.laid W) :
    Calls Tryd.prog 5 args W fun e W' => ∃ v, e = .returned v ∧ Rows.entryLeastSpec.post enc Tryd.prog Tryd.f5 false true false false W args v W' := by
  have hW' := hW
  have hlt : ∀ x ∈ before, x.block < W.heap.size := fun x hx => by simpa using hW.lt x hx
  obtain ⟨p, q, hA0, hV, rfl, hfz, hnd⟩ := hW
  have hA : DataW.TrodAll enc Tryd.prog W 0 (fun _ => true) true Tryd.f5.params.toList args.toList ds p := hA0
  rw [Tryd.params5] at hA hval hsz
  obtain ⟨v0, vs0, d0, ds0, p0, q0, hargs, rfl, rfl, h0, r0⟩ := trodAll_cons hA
  obtain ⟨v1, vs1, d1, ds1, p1, q1, rfl, rfl, rfl, h1, r1⟩ := trodAll_cons r0
  obtain ⟨rfl, rfl, rfl⟩ := trodAll_nil r1
  obtain rfl : args = #[v0, v1] := by cases args; simp_all
  obtain ⟨rfl, rfl⟩ := trodVars_none hV
  obtain ⟨a0, len0, cap0, rfl⟩ := okWide_slice Tryd.underlying32 (hval 0 32 v0 rfl rfl)
  have hk0 := h0
  obtain ⟨l0, hl0, hR0, hB0, hd0⟩ := Go.Proofs.YtbhbogfdnaadeaaDoor.open_bytes h0
  have hs0 : l0.length ≤ 140737488351232 := by
    rcases hd0 with ⟨_, h⟩ | ⟨zs, hz, hle⟩
    · omega
    · rw [hl0]; exact Go.Proofs.YtbhbogfdnaadeaaDoor.reach_bytes (j := 0) hsz rfl (by rw [hz]; rfl) hle
  obtain ⟨n1, rfl, rfl, rfl, wf1⟩ := open_int Tryd.underlying3 (hval 1 3 v1 rfl rfl) h1
  have b1 := bounds_i64 wf1
  skip
  have hT : Go.Proofs.YtbhbogfdnaadeaaDoor.Tab W := Go.Proofs.YtbhbogfdnaadeaaDoor.tab_of hL
  rw [← hl0] at hR0
  have walk : Calls Tryd.prog 5 #[.slice a0 len0 cap0, .int .i64 n1] W fun e w' => e = .returned (.bool true) ∧ Go.Proofs.YtbhbogfdnaadeaaDoor.Grew W w' := by
    rw [← hl0]
    exact Go.Proofs.YtbhbogfdnaadeaaDoor.least_any _ l0 n1 W hR0 hB0 hs0 hT
  clear hA0 hL hsz
  refine walk.mono fun e W' ⟨he, bel⟩ => ?_
  subst he
  exact ⟨_, rfl, _, _, _, [], _, [], hW', trodAll_mk1 (shut_bool Tryd.underlying4 _), (trodAll_cons_mk (Below.trod laidOut (by kernel_rfl) (of_decide_eq_true (by kernel_rfl)) hk0 bel.1 (fun x hx => hlt x (by simp [hx]))) (trodAll_cons_mk (shut_int Tryd.underlying3 wf1) trodAll_mk0)), rfl, bel.1.frame _, fun h => by cases h⟩
theorem laid_met (os : Os) : laidMet Tryd.prog Rows.entryLeastRow.laid (({ World.holding Tryd.prog os ⟨#[], #[], []⟩ with heap := ((World.holding Tryd.prog os ⟨#[], #[], []⟩).heap.modify 0 fun
      | .cells _ t frozen => .cells (List.toArray (.int .u8 127 :: .int .i64 1 :: .int .i64 1 :: .int .u8 126 :: .int .i64 1 :: .int .i64 2 :: .int .u8 125 :: .int .i64 1 :: .int .i64 3 :: .int .u8 124 :: .int .i64 1 :: .int .i64 4 :: .int .u8 123 :: .int .i64 2 :: .int .i64 0 :: .int .u8 120 :: .int .i64 3 :: .int .i64 6 :: .int .u8 119 :: .int .i64 3 :: .int .i64 7 :: .int .u8 116 :: .int .i64 4 :: .int .i64 (-12) :: .int .u8 115 :: .int .i64 4 :: .int .i64 (-2) :: .int .u8 114 :: .int .i64 4 :: .int .i64 (-4) :: .int .u8 113 :: .int .i64 4 :: .int .i64 (-10) :: .int .u8 112 :: .int .i64 4 :: .int .i64 (-1) :: .int .u8 111 :: .int .i64 4 :: .int .i64 (-3) :: .int .u8 110 :: .int .i64 4 :: .int .i64 (-5) :: .int .u8 109 :: .int .i64 4 :: .int .i64 (-6) :: .int .u8 108 :: .int .i64 4 :: .int .i64 (-7) :: .int .u8 107 :: .int .i64 4 :: .int .i64 (-8) :: .int .u8 106 :: .int .i64 4 :: .int .i64 (-9) :: .int .u8 105 :: .int .i64 4 :: .int .i64 (-11) :: .int .u8 100 :: .int .i64 5 :: .int .i64 0 :: .int .u8 99 :: .int .i64 5 :: .int .i64 1 :: .int .u8 96 :: .int .i64 6 :: .int .i64 1 :: .int .u8 95 :: .int .i64 6 :: .int .i64 2 :: .int .u8 94 :: .int .i64 6 :: .int .i64 3 :: [])) t frozen
      | o => o) } : World).forCall (fun _ _ => 0) ⟨#[], #[.slice none 0 0, .int .i64 0], []⟩).memory :=
  laidMet_of_run' 8 (by kernel_rfl) (by kernel_rfl)
theorem reads (os : Os) {H : Type} (enc : TypeId × Value → H) : ∃ places, DataW.whole enc Tryd.prog (({ World.holding Tryd.prog os ⟨#[], #[], []⟩ with heap := ((World.holding Tryd.prog os ⟨#[], #[], []⟩).heap.modify 0 fun
      | .cells _ t frozen => .cells (List.toArray (.int .u8 127 :: .int .i64 1 :: .int .i64 1 :: .int .u8 126 :: .int .i64 1 :: .int .i64 2 :: .int .u8 125 :: .int .i64 1 :: .int .i64 3 :: .int .u8 124 :: .int .i64 1 :: .int .i64 4 :: .int .u8 123 :: .int .i64 2 :: .int .i64 0 :: .int .u8 120 :: .int .i64 3 :: .int .i64 6 :: .int .u8 119 :: .int .i64 3 :: .int .i64 7 :: .int .u8 116 :: .int .i64 4 :: .int .i64 (-12) :: .int .u8 115 :: .int .i64 4 :: .int .i64 (-2) :: .int .u8 114 :: .int .i64 4 :: .int .i64 (-4) :: .int .u8 113 :: .int .i64 4 :: .int .i64 (-10) :: .int .u8 112 :: .int .i64 4 :: .int .i64 (-1) :: .int .u8 111 :: .int .i64 4 :: .int .i64 (-3) :: .int .u8 110 :: .int .i64 4 :: .int .i64 (-5) :: .int .u8 109 :: .int .i64 4 :: .int .i64 (-6) :: .int .u8 108 :: .int .i64 4 :: .int .i64 (-7) :: .int .u8 107 :: .int .i64 4 :: .int .i64 (-8) :: .int .u8 106 :: .int .i64 4 :: .int .i64 (-9) :: .int .u8 105 :: .int .i64 4 :: .int .i64 (-11) :: .int .u8 100 :: .int .i64 5 :: .int .i64 0 :: .int .u8 99 :: .int .i64 5 :: .int .i64 1 :: .int .u8 96 :: .int .i64 6 :: .int .i64 1 :: .int .u8 95 :: .int .i64 6 :: .int .i64 2 :: .int .u8 94 :: .int .i64 6 :: .int .i64 3 :: [])) t frozen
      | o => o) } : World).forCall (fun _ _ => 0) ⟨#[], #[.slice none 0 0, .int .i64 0], []⟩).memory Tryd.f5.params.toList Rows.entryLeastSpec.vars false #[Value.slice none 0 0, Value.int .i64 0].toList 8 = some ([.nil, .lit (.int .i64 0)], [], places) :=
  ⟨[], by kernel_rfl⟩
set_option maxRecDepth 100000 in
theorem lifted (os : Os) (started : os.Started) (H : Type) (enc : TypeId × Value → H) (F : Stop.Interp) :
    ReturnsInHanded {} Tryd.checked os 5 .any ((OpenSpec.ofChange Rows.entryLeastSpec).preRow enc Tryd.prog Tryd.f5 Rows.entryLeastRow.domain false Rows.entryLeastRow.laid) (((OpenSpec.ofChange Rows.entryLeastSpec).at F).post enc Tryd.prog Tryd.f5 false true false false) := by
  obtain ⟨places, hx⟩ := reads os enc
  refine returnsInHanded_of_row (C := Tryd.checked) (s := OpenSpec.ofChange Rows.entryLeastSpec) own started (by kernel_rfl) Tryd.func5
    (witness_row_at (enc := enc) (C := Tryd.checked) false ({ World.holding Tryd.prog os ⟨#[], #[], []⟩ with heap := ((World.holding Tryd.prog os ⟨#[], #[], []⟩).heap.modify 0 fun
      | .cells _ t frozen => .cells (List.toArray (.int .u8 127 :: .int .i64 1 :: .int .i64 1 :: .int .u8 126 :: .int .i64 1 :: .int .i64 2 :: .int .u8 125 :: .int .i64 1 :: .int .i64 3 :: .int .u8 124 :: .int .i64 1 :: .int .i64 4 :: .int .u8 123 :: .int .i64 2 :: .int .i64 0 :: .int .u8 120 :: .int .i64 3 :: .int .i64 6 :: .int .u8 119 :: .int .i64 3 :: .int .i64 7 :: .int .u8 116 :: .int .i64 4 :: .int .i64 (-12) :: .int .u8 115 :: .int .i64 4 :: .int .i64 (-2) :: .int .u8 114 :: .int .i64 4 :: .int .i64 (-4) :: .int .u8 113 :: .int .i64 4 :: .int .i64 (-10) :: .int .u8 112 :: .int .i64 4 :: .int .i64 (-1) :: .int .u8 111 :: .int .i64 4 :: .int .i64 (-3) :: .int .u8 110 :: .int .i64 4 :: .int .i64 (-5) :: .int .u8 109 :: .int .i64 4 :: .int .i64 (-6) :: .int .u8 108 :: .int .i64 4 :: .int .i64 (-7) :: .int .u8 107 :: .int .i64 4 :: .int .i64 (-8) :: .int .u8 106 :: .int .i64 4 :: .int .i64 (-9) :: .int .u8 105 :: .int .i64 4 :: .int .i64 (-11) :: .int .u8 100 :: .int .i64 5 :: .int .i64 0 :: .int .u8 99 :: .int .i64 5 :: .int .i64 1 :: .int .u8 96 :: .int .i64 6 :: .int .i64 1 :: .int .u8 95 :: .int .i64 6 :: .int .i64 2 :: .int .u8 94 :: .int .i64 6 :: .int .i64 3 :: [])) t frozen
      | o => o) } : World) #[.slice none 0 0, .int .i64 0] rfl (by kernel_rfl) (by kernel_rfl) (by kernel_rfl)
      (OpenSpec.preRow_of_cond 8 hx (by kernel_rfl) (fun k hk => by cases hk) (by kernel_rfl) (laid_met os))) ?_
  intro W base args ds gs before hval hW _ _ hsz hL _ _
  exact contract H enc W base args ds gs before hval hW hsz hL
theorem said : Rows.EntryLeastSaid :=
  OpenClaim.holds_of_cond 5 Tryd.f5 rfl rfl rfl rfl rfl rfl rfl ⟨rfl, rfl, rfl, rfl, rfl⟩ rfl rfl rfl rfl rfl (by kernel_rfl) Tryd.func5 (by kernel_rfl)
    (of_decide_eq_true (by kernel_rfl)) (by unfold Func.isWrapper; first | (rw [if_pos (by decide +kernel)]; kernel_rfl) | (rw [if_neg (by decide +kernel)]; exact ⟨rfl, rfl⟩))
    (fun os started H enc _ F => by rw [OpenClaim.pre_eq_preRow]; exact lifted os started H enc F)
/- No parameter wants a stand-in; the program's own looks are as the card says. -/
theorem plain (f : FuncId) (fn : Func) (hf : Tryd.pinned.checked.prog.funcNamed "ratchet/ratchetlaw08.EntryLeast" = some f) (hfn : Tryd.pinned.checked.prog.funcs[f]? = some fn) :
    true = Tryd.pinned.checked.prog.looks [] ∧ ∀ (j : Nat) t, fn.params[j]? = some t → Tryd.pinned.checked.prog.wantsStandIn t = false := by
  obtain rfl : f = 5 := Option.some.inj ((show Tryd.prog.funcNamed "ratchet/ratchetlaw08.EntryLeast" = some 5 by kernel_rfl).symm.trans hf) |>.symm
  obtain rfl : fn = Tryd.f5 := (Option.some.inj (Tryd.func5.symm.trans hfn)).symm
  refine ⟨by kernel_rfl, fun j t ht => ?_⟩
  rw [Tryd.params5] at ht
  have hm : t ∈ [32, 3] := by simpa using Array.mem_of_getElem? ht
  have hall : ([32, 3].all fun u => !Tryd.prog.wantsStandIn u) = true := by kernel_rfl
  exact (show Tryd.prog.wantsStandIn t = false by simpa using List.all_eq_true.1 hall t hm)
end Go.Proofs.YtbhbogfdnaadeaaDoor.entryLeast
namespace Go.Proofs.YtbhbogfdnaadeaaDoor
theorem entryLeast_holds : Rows.EntryLeastCardSaid :=
  Claim7.holds_tied_plain_at .later [] _ _ _ _ entryLeast.said (fun _ h => by cases h) (by kernel_rfl) (fun _ h => by cases h) entryLeast_row_tie rfl ⟨rfl, rfl⟩ (by kernel_rfl) rfl entryLeast.plain (by kernel_rfl)
#print axioms entryLeast_holds
end Go.Proofs.YtbhbogfdnaadeaaDoor
