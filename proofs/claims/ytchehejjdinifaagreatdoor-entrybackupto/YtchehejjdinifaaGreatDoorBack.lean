/-
  EntryBack (second form): where the arguments are of at most 1048576 parts in all, the law answers true: a group and an import that PutRecType and PutImport write are read back by RecType and Import as themselves, between any bytes, and end where their bytes do. It holds where the table of codes starts as its text lays it (the card ties it to the text of the pruned copy; nothing is said of code outside that copy).
-/
import Derived.Test.YtchehejjdinifaaGreatDoorCards
import Derived.Test.YtchehejjdinifaaGreatDoorTie
import Derived.Test.YtchehejjdinifaaGreatDoorBkL
import Derived.Test.YtchehejjdinifaaGreatDoorBlkU
import Derived.Test.YtchehejjdinifaaGreatDoorBkE
import Derived.Test.YtchehejjdinifaaGreatDoorLaid
import Derived.Deep.DeepHandedRow
import Derived.Lib.LaidTab
import Derived.SizedLaws
import Derived.ChangeMaps5
import Derived.Carry
import Derived.Stop.LaidErr
namespace Go.Proofs.YtchehejjdinifaaGreatDoor.entryBack
open Go.ChangeShapes Go.WideShapes Go.ChangeAt Go.RowKit
set_option linter.unusedVariables false
set_option linter.unusedSimpArgs false

theorem own : ownKnob Tryz.prog.godebug = none := by kernel_rfl
theorem laidOut : laidOutB Tryz.prog = true := by kernel_rfl
set_option maxRecDepth 100000 in
theorem contract (H : Type) (enc : TypeId × Value → H) (W : World) (base : Nat) (args : Array Value) (ds gs : List (DataW H)) (before : List MemPlace)
    (hval : ∀ (j : Nat) t v, Tryz.f3.params[j]? = some t → args[j]? = some v → Value.okWide Tryz.prog W .any base t v)
    (hW : DataW.Whole enc Tryz.prog Tryz.f3.params.toList Rows.entryBackSpec.vars false W args.toList ds gs before) (hbk : Rows.uptoBulkAll (ds ++ gs) ≤ 1048576) (hsz : (DataW.weightsEach Tryz.prog (Tryz.f3.params.toList ++ (OpenSpec.ofChange Rows.entryBackSpec).bare.plain.varTypes Tryz.prog) (ds ++ gs)).all (· ≤ reachBytes) = true) (hL : laidMetH Tryz.prog Rows.entryBackUptoRow.laid W) :
    Calls Tryz.prog 3 args W fun e W' => ∃ v, e = .returned v ∧ Rows.entryBackSpec.post enc Tryz.prog Tryz.f3 false true false false W args v W' := by
  have hW' := hW
  have hlt : ∀ x ∈ before, x.block < W.heap.size := fun x hx => by simpa using hW.lt x hx
  obtain ⟨p, q, hA0, hV, rfl, hfz, hnd⟩ := hW
  have hA : DataW.TrodAll enc Tryz.prog W 0 (fun _ => true) true Tryz.f3.params.toList args.toList ds p := hA0
  rw [Tryz.params3] at hA hval hsz
  obtain ⟨v0, vs0, d0, ds0, p0, q0, hargs, rfl, rfl, h0, r0⟩ := trodAll_cons hA
  obtain ⟨v1, vs1, d1, ds1, p1, q1, rfl, rfl, rfl, h1, r1⟩ := trodAll_cons r0
  obtain ⟨v2, vs2, d2, ds2, p2, q2, rfl, rfl, rfl, h2, r2⟩ := trodAll_cons r1
  obtain ⟨v3, vs3, d3, ds3, p3, q3, rfl, rfl, rfl, h3, r3⟩ := trodAll_cons r2
  obtain ⟨rfl, rfl, rfl⟩ := trodAll_nil r3
  obtain rfl : args = #[v0, v1, v2, v3] := by cases args; simp_all
  obtain ⟨rfl, rfl⟩ := trodVars_none hV
  have hk0 := h0
  obtain ⟨f0, hf0⟩ := h0
  obtain ⟨cs0, rfl, hz0⟩ := okWide_struct Tryz.underlying24 (hval 0 24 v0 rfl rfl)
  obtain ⟨cl0⟩ := cs0
  obtain ⟨tv0, g0, ce0, lr0, bk0, rg0⟩ := Go.Proofs.YtchehejjdinifaaGreatDoor.open_RV (cs := cl0) (by simpa [Value.cells] using hf0) (hz0.trans (by kernel_rfl))
  subst ce0
  have hk1 := h1
  obtain ⟨f1, hf1⟩ := h1
  obtain ⟨cs1, rfl, hz1⟩ := okWide_struct Tryz.underlying37 (hval 1 37 v1 rfl rfl)
  obtain ⟨cl1⟩ := cs1
  obtain ⟨s1a, s1b, es1, ce1, hE1, y1, hx1⟩ := Go.Proofs.YtchehejjdinifaaGreatDoor.open_IM (cs := cl1) (by simpa [Value.cells] using hf1) (hz1.trans (by kernel_rfl))
  subst ce1
  obtain ⟨a2, len2, cap2, rfl⟩ := okWide_slice Tryz.underlying38 (hval 2 38 v2 rfl rfl)
  have hk2 := h2
  obtain ⟨l2, hl2, hR2, hB2, hd2⟩ := Go.Proofs.YtchehejjdinifaaGreatDoor.open_bytes h2
  have hs2 : l2.length ≤ 140737488351232 := by
    rcases hd2 with ⟨_, h⟩ | ⟨zs, hz, hle⟩
    · omega
    · rw [hl2]; exact Go.Proofs.YtchehejjdinifaaGreatDoor.reach_bytes (j := 2) hsz rfl (by rw [hz]; rfl) hle
  obtain ⟨a3, len3, cap3, rfl⟩ := okWide_slice Tryz.underlying38 (hval 3 38 v3 rfl rfl)
  have hk3 := h3
  obtain ⟨l3, hl3, hR3, hB3, hd3⟩ := Go.Proofs.YtchehejjdinifaaGreatDoor.open_bytes h3
  have hs3 : l3.length ≤ 140737488351232 := by
    rcases hd3 with ⟨_, h⟩ | ⟨zs, hz, hle⟩
    · omega
    · rw [hl3]; exact Go.Proofs.YtchehejjdinifaaGreatDoor.reach_bytes (j := 3) hsz rfl (by rw [hz]; rfl) hle
  simp only [List.cons_append, List.nil_append, List.append_nil, Rows.uptoBulkAll] at hbk
  have hT : Go.Proofs.YtchehejjdinifaaGreatDoor.Tab W := Go.Proofs.YtchehejjdinifaaGreatDoor.tab_of hL
  simp only at hx1
  subst hx1
  obtain ⟨k, ty, tn, tz, th, tw, tp, tq, tm, mw, mp, mq, mm, gn, gz, gh, gm, hes, r1, r2, r3, r4, r5, r6, r7⟩ := hE1
  subst hes
  dsimp only at bk0
  have q2 := Go.Proofs.YtchehejjdinifaaGreatDoor.bulk_bytes hd2
  have q3 := Go.Proofs.YtchehejjdinifaaGreatDoor.bulk_bytes hd3
  simp only [Rows.uptoBulk, Rows.uptoBulkAll] at hbk
  have hmu : Go.Proofs.YtchehejjdinifaaGreatDoor.muR g0 ≤ 1048576 := by omega
  have hms : (g0.types.map Go.Proofs.YtchehejjdinifaaGreatDoor.muS).sum ≤ 1048576 := by unfold Go.Proofs.YtchehejjdinifaaGreatDoor.muR at hmu; omega
  have n0 : (Go.Proofs.YtchehejjdinifaaGreatDoor.nums s1a).length ≤ 140737488351232 := by
    have e : (Go.Proofs.YtchehejjdinifaaGreatDoor.nums s1a).length = s1a.data.toList.length := by simp [Go.Proofs.YtchehejjdinifaaGreatDoor.nums]
    omega
  have n1 : (Go.Proofs.YtchehejjdinifaaGreatDoor.nums s1b).length ≤ 140737488351232 := by
    have e : (Go.Proofs.YtchehejjdinifaaGreatDoor.nums s1b).length = s1b.data.toList.length := by simp [Go.Proofs.YtchehejjdinifaaGreatDoor.nums]
    omega
  have walk := Go.Proofs.YtchehejjdinifaaGreatDoor.back_any W hT tv0 g0.types g0.explicit lr0 (Go.Proofs.YtchehejjdinifaaGreatDoor.grp_small hmu) hms (Go.Proofs.YtchehejjdinifaaGreatDoor.nums s1a) (Go.Proofs.YtchehejjdinifaaGreatDoor.nums s1b) (Go.Proofs.YtchehejjdinifaaGreatDoor.nums_byt _) n0 (Go.Proofs.YtchehejjdinifaaGreatDoor.nums_byt _) n1 ⟨k, ty, ⟨⟨tn, tz, th⟩, ⟨tw, tp, tq, tm⟩⟩, ⟨mw, mp, mq, mm⟩, ⟨⟨gn, gz, gh⟩, gm⟩⟩ r3.1 r3.2 r4.1 r4.2 r5.1 r5.2 r6.1 r6.2 _ _ l2 l3 hR2 hB2 (by omega) hR3 hB3 (by omega)
  unfold Go.Proofs.YtchehejjdinifaaGreatDoor.IM.c at walk
  rw [Go.Proofs.YtchehejjdinifaaGreatDoor.str_nums, Go.Proofs.YtchehejjdinifaaGreatDoor.str_nums] at walk
  clear hA0 hL hsz hbk
  refine walk.mono fun e W' ⟨he, bel⟩ => ?_
  subst he
  exact ⟨_, rfl, _, _, _, [], _, [], hW', trodAll_mk1 (shut_bool Tryz.underlying4 _), (trodAll_cons_mk (Below.trod laidOut (by kernel_rfl) (of_decide_eq_true (by kernel_rfl)) hk0 bel.1 (fun x hx => hlt x (by simp [hx]))) (trodAll_cons_mk (Below.trod laidOut (by kernel_rfl) (of_decide_eq_true (by kernel_rfl)) hk1 bel.1 (fun x hx => hlt x (by simp [hx]))) (trodAll_cons_mk (Below.trod laidOut (by kernel_rfl) (of_decide_eq_true (by kernel_rfl)) hk2 bel.1 (fun x hx => hlt x (by simp [hx]))) (trodAll_cons_mk (Below.trod laidOut (by kernel_rfl) (of_decide_eq_true (by kernel_rfl)) hk3 bel.1 (fun x hx => hlt x (by simp [hx]))) trodAll_mk0)))), rfl, bel.1.frame _, fun h => by cases h⟩
theorem laid_met (os : Os) : laidMet Tryz.prog Rows.entryBackUptoRow.laid (({ World.holding Tryz.prog os ⟨#[], #[], []⟩ with heap := ((World.holding Tryz.prog os ⟨#[], #[], []⟩).heap.modify 0 fun
      | .cells _ t frozen => .cells (List.toArray (.int .u8 127 :: .int .i64 1 :: .int .i64 1 :: .int .u8 126 :: .int .i64 1 :: .int .i64 2 :: .int .u8 125 :: .int .i64 1 :: .int .i64 3 :: .int .u8 124 :: .int .i64 1 :: .int .i64 4 :: .int .u8 123 :: .int .i64 2 :: .int .i64 0 :: .int .u8 120 :: .int .i64 3 :: .int .i64 6 :: .int .u8 119 :: .int .i64 3 :: .int .i64 7 :: .int .u8 116 :: .int .i64 4 :: .int .i64 (-12) :: .int .u8 115 :: .int .i64 4 :: .int .i64 (-2) :: .int .u8 114 :: .int .i64 4 :: .int .i64 (-4) :: .int .u8 113 :: .int .i64 4 :: .int .i64 (-10) :: .int .u8 112 :: .int .i64 4 :: .int .i64 (-1) :: .int .u8 111 :: .int .i64 4 :: .int .i64 (-3) :: .int .u8 110 :: .int .i64 4 :: .int .i64 (-5) :: .int .u8 109 :: .int .i64 4 :: .int .i64 (-6) :: .int .u8 108 :: .int .i64 4 :: .int .i64 (-7) :: .int .u8 107 :: .int .i64 4 :: .int .i64 (-8) :: .int .u8 106 :: .int .i64 4 :: .int .i64 (-9) :: .int .u8 105 :: .int .i64 4 :: .int .i64 (-11) :: .int .u8 100 :: .int .i64 5 :: .int .i64 0 :: .int .u8 99 :: .int .i64 5 :: .int .i64 1 :: .int .u8 96 :: .int .i64 6 :: .int .i64 1 :: .int .u8 95 :: .int .i64 6 :: .int .i64 2 :: .int .u8 94 :: .int .i64 6 :: .int .i64 3 :: [])) t frozen
      | o => o) } : World).forCall (fun _ _ => 0) ⟨#[], #[.agg #[.slice none 0 0, .bool false], .agg #[.string ⟨#[]⟩, .string ⟨#[]⟩, .int .i64 0, .int .i64 0, .int .i64 0, .bool false, .int .i64 0, .bool false, .int .u64 0, .int .u64 0, .bool false, .bool false, .int .u64 0, .int .u64 0, .bool false, .int .i64 0, .bool false, .int .i64 0, .bool false], .slice none 0 0, .slice none 0 0], []⟩).memory :=
  laidMet_of_run' 8 (by kernel_rfl) (by kernel_rfl)
theorem reads (os : Os) {H : Type} (enc : TypeId × Value → H) : ∃ places, DataW.whole enc Tryz.prog (({ World.holding Tryz.prog os ⟨#[], #[], []⟩ with heap := ((World.holding Tryz.prog os ⟨#[], #[], []⟩).heap.modify 0 fun
      | .cells _ t frozen => .cells (List.toArray (.int .u8 127 :: .int .i64 1 :: .int .i64 1 :: .int .u8 126 :: .int .i64 1 :: .int .i64 2 :: .int .u8 125 :: .int .i64 1 :: .int .i64 3 :: .int .u8 124 :: .int .i64 1 :: .int .i64 4 :: .int .u8 123 :: .int .i64 2 :: .int .i64 0 :: .int .u8 120 :: .int .i64 3 :: .int .i64 6 :: .int .u8 119 :: .int .i64 3 :: .int .i64 7 :: .int .u8 116 :: .int .i64 4 :: .int .i64 (-12) :: .int .u8 115 :: .int .i64 4 :: .int .i64 (-2) :: .int .u8 114 :: .int .i64 4 :: .int .i64 (-4) :: .int .u8 113 :: .int .i64 4 :: .int .i64 (-10) :: .int .u8 112 :: .int .i64 4 :: .int .i64 (-1) :: .int .u8 111 :: .int .i64 4 :: .int .i64 (-3) :: .int .u8 110 :: .int .i64 4 :: .int .i64 (-5) :: .int .u8 109 :: .int .i64 4 :: .int .i64 (-6) :: .int .u8 108 :: .int .i64 4 :: .int .i64 (-7) :: .int .u8 107 :: .int .i64 4 :: .int .i64 (-8) :: .int .u8 106 :: .int .i64 4 :: .int .i64 (-9) :: .int .u8 105 :: .int .i64 4 :: .int .i64 (-11) :: .int .u8 100 :: .int .i64 5 :: .int .i64 0 :: .int .u8 99 :: .int .i64 5 :: .int .i64 1 :: .int .u8 96 :: .int .i64 6 :: .int .i64 1 :: .int .u8 95 :: .int .i64 6 :: .int .i64 2 :: .int .u8 94 :: .int .i64 6 :: .int .i64 3 :: [])) t frozen
      | o => o) } : World).forCall (fun _ _ => 0) ⟨#[], #[.agg #[.slice none 0 0, .bool false], .agg #[.string ⟨#[]⟩, .string ⟨#[]⟩, .int .i64 0, .int .i64 0, .int .i64 0, .bool false, .int .i64 0, .bool false, .int .u64 0, .int .u64 0, .bool false, .bool false, .int .u64 0, .int .u64 0, .bool false, .int .i64 0, .bool false, .int .i64 0, .bool false], .slice none 0 0, .slice none 0 0], []⟩).memory Tryz.f3.params.toList Rows.entryBackSpec.vars false #[Value.agg #[.slice none 0 0, .bool false], Value.agg #[.string ⟨#[]⟩, .string ⟨#[]⟩, .int .i64 0, .int .i64 0, .int .i64 0, .bool false, .int .i64 0, .bool false, .int .u64 0, .int .u64 0, .bool false, .bool false, .int .u64 0, .int .u64 0, .bool false, .int .i64 0, .bool false, .int .i64 0, .bool false], Value.slice none 0 0, Value.slice none 0 0].toList 8 = some ([.agg [.nil, .lit (.bool false)], .agg [.lit (.string []), .lit (.string []), .agg [.lit (.int .i64 0), .lit (.int .i64 0), .agg [.agg [.lit (.int .i64 0), .lit (.bool false), .lit (.int .i64 0)], .agg [.lit (.bool false), .lit (.int .u64 0), .lit (.int .u64 0), .lit (.bool false)]], .agg [.lit (.bool false), .lit (.int .u64 0), .lit (.int .u64 0), .lit (.bool false)], .agg [.agg [.lit (.int .i64 0), .lit (.bool false), .lit (.int .i64 0)], .lit (.bool false)]]], .nil, .nil], [], places) :=
  ⟨[], by kernel_rfl⟩
set_option maxRecDepth 100000 in
theorem liftedUpto (os : Os) (started : os.Started) (H : Type) (enc : TypeId × Value → H) (F : Stop.Interp) :
    ReturnsInHanded {} Tryz.checked os 3 .any ((Rows.OpenSpec.upto Rows.entryBackSpec).preRow enc Tryz.prog Tryz.f3 Rows.entryBackUptoRow.domain false Rows.entryBackUptoRow.laid) (((Rows.OpenSpec.upto Rows.entryBackSpec).at F).post enc Tryz.prog Tryz.f3 false true false false) := by
  obtain ⟨places, hx⟩ := reads os enc
  refine returnsInHanded_of_row (C := Tryz.checked) (s := Rows.OpenSpec.upto Rows.entryBackSpec) own started (by kernel_rfl) Tryz.func3
    (witness_row_at (enc := enc) (C := Tryz.checked) false ({ World.holding Tryz.prog os ⟨#[], #[], []⟩ with heap := ((World.holding Tryz.prog os ⟨#[], #[], []⟩).heap.modify 0 fun
      | .cells _ t frozen => .cells (List.toArray (.int .u8 127 :: .int .i64 1 :: .int .i64 1 :: .int .u8 126 :: .int .i64 1 :: .int .i64 2 :: .int .u8 125 :: .int .i64 1 :: .int .i64 3 :: .int .u8 124 :: .int .i64 1 :: .int .i64 4 :: .int .u8 123 :: .int .i64 2 :: .int .i64 0 :: .int .u8 120 :: .int .i64 3 :: .int .i64 6 :: .int .u8 119 :: .int .i64 3 :: .int .i64 7 :: .int .u8 116 :: .int .i64 4 :: .int .i64 (-12) :: .int .u8 115 :: .int .i64 4 :: .int .i64 (-2) :: .int .u8 114 :: .int .i64 4 :: .int .i64 (-4) :: .int .u8 113 :: .int .i64 4 :: .int .i64 (-10) :: .int .u8 112 :: .int .i64 4 :: .int .i64 (-1) :: .int .u8 111 :: .int .i64 4 :: .int .i64 (-3) :: .int .u8 110 :: .int .i64 4 :: .int .i64 (-5) :: .int .u8 109 :: .int .i64 4 :: .int .i64 (-6) :: .int .u8 108 :: .int .i64 4 :: .int .i64 (-7) :: .int .u8 107 :: .int .i64 4 :: .int .i64 (-8) :: .int .u8 106 :: .int .i64 4 :: .int .i64 (-9) :: .int .u8 105 :: .int .i64 4 :: .int .i64 (-11) :: .int .u8 100 :: .int .i64 5 :: .int .i64 0 :: .int .u8 99 :: .int .i64 5 :: .int .i64 1 :: .int .u8 96 :: .int .i64 6 :: .int .i64 1 :: .int .u8 95 :: .int .i64 6 :: .int .i64 2 :: .int .u8 94 :: .int .i64 6 :: .int .i64 3 :: [])) t frozen
      | o => o) } : World) #[.agg #[.slice none 0 0, .bool false], .agg #[.string ⟨#[]⟩, .string ⟨#[]⟩, .int .i64 0, .int .i64 0, .int .i64 0, .bool false, .int .i64 0, .bool false, .int .u64 0, .int .u64 0, .bool false, .bool false, .int .u64 0, .int .u64 0, .bool false, .int .i64 0, .bool false, .int .i64 0, .bool false], .slice none 0 0, .slice none 0 0] rfl (by kernel_rfl) (by kernel_rfl) (by kernel_rfl)
      (OpenSpec.preRow_of_cond 8 hx (by kernel_rfl) (fun k hk => by cases hk; kernel_rfl) (by kernel_rfl) (laid_met os))) ?_
  intro W base args ds gs before hval hW _ hcond hsz hL _ _
  exact contract H enc W base args ds gs before hval hW (of_decide_eq_true (hcond _ rfl)) hsz hL
theorem saidUpto : Rows.EntryBackUptoSaid :=
  OpenClaim.holds_of_cond 3 Tryz.f3 rfl rfl rfl rfl rfl rfl rfl ⟨rfl, rfl, rfl, rfl, rfl⟩ rfl rfl rfl rfl rfl (by kernel_rfl) Tryz.func3 (by kernel_rfl)
    (of_decide_eq_true (by kernel_rfl)) (by unfold Func.isWrapper; first | (rw [if_pos (by decide +kernel)]; kernel_rfl) | (rw [if_neg (by decide +kernel)]; exact ⟨rfl, rfl⟩))
    (fun os started H enc _ F => by rw [OpenClaim.pre_eq_preRow]; exact liftedUpto os started H enc F)
/- No parameter wants a stand-in; the program's own looks are as the card says. -/
theorem plain (f : FuncId) (fn : Func) (hf : Tryz.pinned.checked.prog.funcNamed "ratchet/ratchetlaw08.EntryBack" = some f) (hfn : Tryz.pinned.checked.prog.funcs[f]? = some fn) :
    true = Tryz.pinned.checked.prog.looks [] ∧ ∀ (j : Nat) t, fn.params[j]? = some t → Tryz.pinned.checked.prog.wantsStandIn t = false := by
  obtain rfl : f = 3 := Option.some.inj ((show Tryz.prog.funcNamed "ratchet/ratchetlaw08.EntryBack" = some 3 by kernel_rfl).symm.trans hf) |>.symm
  obtain rfl : fn = Tryz.f3 := (Option.some.inj (Tryz.func3.symm.trans hfn)).symm
  refine ⟨by kernel_rfl, fun j t ht => ?_⟩
  rw [Tryz.params3] at ht
  have hm : t ∈ [24, 37, 38, 38] := by simpa using Array.mem_of_getElem? ht
  have hall : ([24, 37, 38, 38].all fun u => !Tryz.prog.wantsStandIn u) = true := by kernel_rfl
  exact (show Tryz.prog.wantsStandIn t = false by simpa using List.all_eq_true.1 hall t hm)
end Go.Proofs.YtchehejjdinifaaGreatDoor.entryBack
namespace Go.Proofs.YtchehejjdinifaaGreatDoor
theorem entryBack_holds : Rows.EntryBackUptoCardSaid :=
  Claim7.holds_tied_plain_at .later [] _ _ _ _ entryBack.saidUpto (fun _ h => by cases h) (by kernel_rfl) (fun _ h => by cases h) entryBackUpto_row_tie rfl ⟨rfl, rfl⟩ (by kernel_rfl) rfl entryBack.plain (by kernel_rfl)
#print axioms entryBack_holds
end Go.Proofs.YtchehejjdinifaaGreatDoor
