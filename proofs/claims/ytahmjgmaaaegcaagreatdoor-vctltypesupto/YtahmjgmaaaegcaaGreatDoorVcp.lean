/-
  vctl's steps and blocks: the maps from opcodes to functions; no statement is proved here.
-/
import Derived.Test.YtahmjgmaaaegcaaGreatDoorVmp
namespace Go.Proofs.YtahmjgmaaaegcaaGreatDoor
open Go.RowKit Go.Maps
set_option linter.unusedVariables false
set_option linter.unusedSimpArgs false

def SLC : List (Int × Nat) := [(0, 71), (1, 72), (8, 73), (10, 74), (12, 75), (13, 76), (14, 77), (15, 78), (16, 79), (18, 80), (17, 81), (19, 82), (20, 83), (21, 84), (213, 85), (214, 86)]
theorem zeroFnC (w : World) : (zeroValue 77).run Tryz.prog w = .ok .nilFunc w := by kernel_rfl
/- Block b is the map of the first steps of a list. -/
def StC (Z : List (Int × Nat)) (n : Nat) (w : World) (b : Nat) : Prop := ∃ D : DataW Unit, w.ownsMap Tryz.prog 3 funElem b n D ∧ putS (Z.take n) D
theorem StC.grew {Z : List (Int × Nat)} {n : Nat} {w w' : World} {b : Nat} (h : StC Z n w b) (g : Grew w w') : StC Z n w' b := by
  obtain ⟨D, ⟨es, clock, h1, h2⟩, hF⟩ := h
  exact ⟨D, ⟨es, clock, (g.1.block b (lt_of_obj h1)).trans h1, h2⟩, hF⟩
theorem StC.lt {Z : List (Int × Nat)} {n : Nat} {w : World} {b : Nat} (h : StC Z n w b) : b < w.heap.size := by
  obtain ⟨D, hD, _⟩ := h
  exact hD.lt
theorem StC.made (Z : List (Int × Nat)) (w : World) : StC Z 0 (w.alloc (.map #[] 0)) w.heap.size :=
  ⟨.map [], World.ownsMap_made _ _ _ _, (World.ownsMap_made w Tryz.prog 3 funElem).isMap, fun s => ⟨rfl, rfl⟩⟩
def apartB : List (Int × Nat) → Bool
  | [] => true
  | x :: l => l.all (fun y => decide (y.1 ≠ x.1)) && apartB l
theorem apart_at : ∀ (Z : List (Int × Nat)), apartB Z = true → ∀ (n : Nat) (x : Int × Nat), Z[n]? = some x → ∀ y ∈ Z.take n, y.1 ≠ x.1
  | [], _, n, x, h => by simp at h
  | z :: Z, ha, 0, x, h => by simp
  | z :: Z, ha, n + 1, x, h => by
    rw [apartB, Bool.and_eq_true] at ha
    rw [List.getElem?_cons_succ] at h
    intro y hy
    rw [List.take_succ_cons, List.mem_cons] at hy
    rcases hy with rfl | hy
    · have := List.all_eq_true.1 ha.1 x (List.mem_of_getElem? h)
      exact fun e => (of_decide_eq_true this) e.symm
    · exact apart_at Z ha.2 n x h y hy
theorem SLC_apart : apartB SLC = true := by decide +kernel
section
variable {w : World} {ops : Array Oper} {rest : List Oper} {o : Oper} {a : Act} {Q : Exit → Act → World → Prop}
theorem wp_insC {Z : List (Int × Nat)} (hZ : apartB Z = true) (hg : o.guard = none) (m x v : Operand) (hop : o.op = Op.insert 76 m x v) {b n : Nat} (hm : a.eval m = .map (some b)) (hF : StC Z n w b) {k : Int} {f : Nat} (hn : Z[n]? = some (k, f)) (hn2 : n < 100) (hx : a.eval x = .int .i64 k) (hv : a.eval v = .func (.func f) #[] #[]) (hc : (Lit.int .i64 k).wf = true)
    (hK : ∀ w', StC Z (n + 1) w' b → w.grownBy w' (some b) → wpList Tryz.prog ops Q rest (a.put o.dst undef) w') : wpList Tryz.prog ops Q (o :: rest) a w := by
  obtain ⟨D, hD, hF⟩ := hF
  refine wpList_plain hg fun K' hK' => ?_
  obtain ⟨w', hrun, r1, r2⟩ := hD.update lawI Tryz.underlying76 (by unfold maxLen; omega) (keyOf_int_mk Tryz.underlying3 hc) (funElem_fn f)
  unfold Oper.wp
  simp [execOp, hop, hm, hx, hv, hrun, Result.andThen]
  refine hK' _ _ (hK w' ⟨_, r1, ?_⟩ r2)
  obtain ⟨h', he⟩ := List.getElem?_eq_some_iff.1 hn
  rw [List.take_succ_eq_append_getElem h', he]
  exact hF.put (x := (k, f)) r1.isMap (apart_at Z hZ n _ hn)
theorem lookC_ok {Z : List (Int × Nat)} {N : Nat} (hN : Z.length = N) {w : World} {b : Nat} (hF : StC Z N w b) {k : Int} (hc : (Lit.int .i64 k).wf = true) : ∃ v, ((lookS k Z = -1 ∧ v = .nilFunc) ∨ ∃ n : Nat, lookS k Z = (n : Int) ∧ v = .func (.func n) #[] #[]) ∧ (Instr.lookup 76 (.map (some b)) (.int .i64 k) true).run Tryz.prog w = .ok (.tuple #[v, .bool (decide (lookS k Z ≠ -1))]) w := by
  obtain ⟨D, hD, hF⟩ := hF
  obtain ⟨v, ps, hrun, hv⟩ := hD.look_ok lawI Tryz.underlying76 (zeroFnC w) funElem_nil (keyOf_int_mk Tryz.underlying3 hc)
  rw [(hF.2 k).2, ← hN, List.take_length] at hv
  refine ⟨v, funElem_inv hv, ?_⟩
  rw [hrun, (hF.2 k).1, ← hN, List.take_length]
end
set_option maxRecDepth 100000 in
set_option maxHeartbeats 2000000 in
theorem stepsC_any (w : World) : Calls Tryz.prog 35 #[] w fun en w' => en = .returned (.map (some w.heap.size)) ∧ StC SLC 16 w' w.heap.size ∧ Grew w w' := by
  have S0 : Hid (StC SLC 0 (w.alloc (.map #[] 0)) w.heap.size) := StC.made SLC w
  have G0 : Hid (Grew w (w.alloc (.map #[] 0))) := (Grew.refl w).alloc _
  have hmm := @run_makeMap Tryz.prog
  go_enter Tryz.func35, Tryz.ntmps35
  go_wp2_with (first
    | with_reducible refine stop_ins 76 rfl ?_
    | fail)
  unfold StopI
  have S := S0.out
  have G := G0.out
  clear S0 G0 hmm
  iterate 16 (refine wp_insC SLC_apart rfl _ _ _ rfl rfl S rfl (by decide) rfl rfl rfl ?_; intro w' S g'; have G := grew_by G g' (Nat.le_refl _))
  have S1 : Hid (StC SLC 16 _ _) := S
  have G1 : Hid (Grew _ _) := G
  clear S G
  go_wp2_with fail
  go_ret
  exact ⟨rfl, S1.out, G1.out⟩
end Go.Proofs.YtahmjgmaaaegcaaGreatDoor
