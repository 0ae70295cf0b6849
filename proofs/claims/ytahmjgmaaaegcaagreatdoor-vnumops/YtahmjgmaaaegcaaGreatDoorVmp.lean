/-
  vnum's steps: the map from groups of opcodes to functions; no statement is proved here.
-/
import Derived.Test.YtahmjgmaaaegcaaGreatDoorWorld
import Derived.Maps.OwnSet
import Derived.WalkMore
import Derived.Carry
namespace Go.Proofs.YtahmjgmaaaegcaaGreatDoor
open Go.RowKit Go.Maps
set_option linter.unusedVariables false
set_option linter.unusedSimpArgs false

/- Functions as an element of a map reads: the function's number, -1 for none. -/
def funElem : Value → Option (DataW Unit × List MemPlace)
  | .func (.func n) f c => if f.size = 0 ∧ c.size = 0 then some (.lit (.int .i64 (n : Int)), []) else none
  | .nilFunc => some (.lit (.int .i64 (-1)), [])
  | _ => none
theorem funElem_fn (n : Nat) : funElem (.func (.func n) #[] #[]) = some (.lit (.int .i64 (n : Int)), []) := rfl
theorem funElem_nil : funElem .nilFunc = some (.lit (.int .i64 (-1)), []) := rfl
theorem funElem_inv {v : Value} {ps : List MemPlace} {c : Int} (h : funElem v = some (.lit (.int .i64 c), ps)) : (c = -1 ∧ v = .nilFunc) ∨ ∃ n : Nat, c = (n : Int) ∧ v = .func (.func n) #[] #[] := by
  unfold funElem at h
  split at h
  · split at h
    · rename_i hs
      have h1 := Array.eq_empty_of_size_eq_zero hs.1
      have h2 := Array.eq_empty_of_size_eq_zero hs.2
      subst h1 h2
      simp only [Option.some.injEq, Prod.mk.injEq, DataW.lit.injEq, Lit.int.injEq] at h
      exact Or.inr ⟨_, h.1.2.symm, rfl⟩
    · cases h
  · simp only [Option.some.injEq, Prod.mk.injEq, DataW.lit.injEq, Lit.int.injEq] at h
    exact Or.inl ⟨h.1.2.symm, rfl⟩
  · cases h
def VSL : List (Int × Nat) := [(26, 36), (27, 37), (28, 38), (32, 39), (33, 40), (34, 41), (35, 42), (36, 43), (37, 44), (38, 45), (40, 46), (54, 47), (63, 48), (64, 49), (65, 50), (64520, 51), (64521, 52), (64522, 53), (64523, 54), (64524, 55), (64525, 56), (64526, 57), (64527, 58), (64528, 59), (64529, 60)]
def lookS (k : Int) : List (Int × Nat) → Int
  | [] => -1
  | x :: l => if x.1 = k then (x.2 : Int) else lookS k l
def stepF (k : Int) : Int := lookS k VSL
theorem lawI : Keyed Tryz.prog 3 := int_keyed Tryz.underlying3
theorem zeroFn (w : World) : (zeroValue 55).run Tryz.prog w = .ok .nilFunc w := by kernel_rfl
def putS (l : List (Int × Nat)) (D : DataW Unit) : Prop := IsMap D ∧ ∀ k : Int, Maps.has D (.int .i64 k) = decide (lookS k l ≠ -1) ∧ D.atKey (.int .i64 k) (.lit (.int .i64 (-1))) = .lit (.int .i64 (lookS k l))
theorem look_snoc (k : Int) (x : Int × Nat) : ∀ l : List (Int × Nat), (∀ y ∈ l, y.1 ≠ x.1) → lookS k (l ++ [x]) = if x.1 = k then (x.2 : Int) else lookS k l
  | [], _ => rfl
  | y :: l, h => by
    have h1 := h y (by simp)
    rw [List.cons_append, lookS, lookS, look_snoc k x l (fun z hz => h z (by simp [hz]))]
    by_cases hy : y.1 = k
    · rw [if_pos hy, if_pos hy, if_neg (fun hx => h1 (hy.trans hx.symm))]
    · rw [if_neg hy, if_neg hy]
theorem putS.put {l : List (Int × Nat)} {D : DataW Unit} {x : Int × Nat} (h : putS l D) (hm : IsMap (D.put (.int .i64 x.1) (.lit (.int .i64 ((x.2 : Nat) : Int))))) (hl : ∀ y ∈ l, y.1 ≠ x.1) : putS (l ++ [x]) (D.put (.int .i64 x.1) (.lit (.int .i64 ((x.2 : Nat) : Int)))) := by
  refine ⟨hm, fun k => ?_⟩
  rw [look_snoc k x l hl]
  by_cases hk : x.1 = k
  · subst hk
    rw [if_pos rfl]
    exact ⟨by rw [has_put_same h.1 (k := .int .i64 x.1) trivial _]; simp, atKey_put_same h.1 (k := .int .i64 x.1) trivial _ _⟩
  · rw [if_neg hk]
    have hne : (Lit.int .i64 k) ≠ .int .i64 x.1 := fun e => hk (by injection e with _ e; exact e.symm)
    exact ⟨(has_put_other hne _).trans (h.2 k).1, (atKey_put_other hne _ _).trans (h.2 k).2⟩
/- Block b is the map of the first steps. -/
def StM (n : Nat) (w : World) (b : Nat) : Prop := ∃ D : DataW Unit, w.ownsMap Tryz.prog 3 funElem b n D ∧ putS (VSL.take n) D
theorem StM.grew {n : Nat} {w w' : World} {b : Nat} (h : StM n w b) (g : Grew w w') : StM n w' b := by
  obtain ⟨D, ⟨es, clock, h1, h2⟩, hF⟩ := h
  exact ⟨D, ⟨es, clock, (g.1.block b (lt_of_obj h1)).trans h1, h2⟩, hF⟩
theorem StM.lt {n : Nat} {w : World} {b : Nat} (h : StM n w b) : b < w.heap.size := by
  obtain ⟨D, hD, _⟩ := h
  exact hD.lt
theorem StM.made (w : World) : StM 0 (w.alloc (.map #[] 0)) w.heap.size :=
  ⟨.map [], World.ownsMap_made _ _ _ _, (World.ownsMap_made w Tryz.prog 3 funElem).isMap, fun s => ⟨rfl, rfl⟩⟩
theorem VSL_len : VSL.length = 25 := by decide +kernel
theorem VSL_apart : ∀ n : Fin 25, ∀ x, VSL[n.val]? = some x → ∀ y ∈ VSL.take n.val, y.1 ≠ x.1 := by decide +kernel
section
variable {w : World} {ops : Array Oper} {rest : List Oper} {o : Oper} {a : Act} {Q : Exit → Act → World → Prop}
theorem wp_ins (hg : o.guard = none) (m x v : Operand) (hop : o.op = Op.insert 53 m x v) {b n : Nat} (hm : a.eval m = .map (some b)) (hF : StM n w b) {k : Int} {f : Nat} (hn : VSL[n]? = some (k, f)) (hn2 : n < 25) (hx : a.eval x = .int .i64 k) (hv : a.eval v = .func (.func f) #[] #[]) (hc : (Lit.int .i64 k).wf = true)
    (hK : ∀ w', StM (n + 1) w' b → w.grownBy w' (some b) → wpList Tryz.prog ops Q rest (a.put o.dst undef) w') : wpList Tryz.prog ops Q (o :: rest) a w := by
  obtain ⟨D, hD, hF⟩ := hF
  refine wpList_plain hg fun K' hK' => ?_
  obtain ⟨w', hrun, r1, r2⟩ := hD.update lawI Tryz.underlying53 (by unfold maxLen; omega) (keyOf_int_mk Tryz.underlying3 hc) (funElem_fn f)
  unfold Oper.wp
  simp [execOp, hop, hm, hx, hv, hrun, Result.andThen]
  refine hK' _ _ (hK w' ⟨_, r1, ?_⟩ r2)
  obtain ⟨h', he⟩ := List.getElem?_eq_some_iff.1 hn
  rw [List.take_succ_eq_append_getElem h', he]
  exact hF.put (x := (k, f)) r1.isMap (VSL_apart ⟨n, hn2⟩ _ hn)
/- The step of an opcode's group, or none. -/
theorem wp_lookS (hg : o.guard = none) (m x : Operand) (hop : o.op = Op.lookup 53 m x false) {b : Nat} (hm : a.eval m = .map (some b)) (hF : StM 25 w b) {k : Int} (hc : (Lit.int .i64 k).wf = true) (hx : a.eval x = .int .i64 k)
    (hK : ∀ v, ((stepF k = -1 ∧ v = .nilFunc) ∨ ∃ n : Nat, stepF k = (n : Int) ∧ v = .func (.func n) #[] #[]) → wpList Tryz.prog ops Q rest (a.put o.dst v) w) : wpList Tryz.prog ops Q (o :: rest) a w := by
  obtain ⟨D, hD, hF⟩ := hF
  refine wpList_plain hg fun K' hK' => ?_
  obtain ⟨v, ps, hrun, hv⟩ := hD.lookup lawI Tryz.underlying53 (zeroFn w) funElem_nil (keyOf_int_mk Tryz.underlying3 hc)
  unfold Oper.wp
  simp [execOp, hop, hm, hx, hrun, Result.andThen]
  rw [(hF.2 k).2, ← VSL_len, List.take_length] at hv
  exact hK' _ _ (hK v (funElem_inv hv))
theorem lookS_run {w : World} {b : Nat} (hF : StM 25 w b) {k : Int} (hc : (Lit.int .i64 k).wf = true) : ∃ v, ((stepF k = -1 ∧ v = .nilFunc) ∨ ∃ n : Nat, stepF k = (n : Int) ∧ v = .func (.func n) #[] #[]) ∧ (Instr.lookup 53 (.map (some b)) (.int .i64 k) false).run Tryz.prog w = .ok v w := by
  obtain ⟨D, hD, hF⟩ := hF
  obtain ⟨v, ps, hrun, hv⟩ := hD.lookup lawI Tryz.underlying53 (zeroFn w) funElem_nil (keyOf_int_mk Tryz.underlying3 hc)
  rw [(hF.2 k).2, ← VSL_len, List.take_length] at hv
  exact ⟨v, funElem_inv hv, hrun⟩
theorem lookS_ok {w : World} {b : Nat} (hF : StM 25 w b) {k : Int} (hc : (Lit.int .i64 k).wf = true) : ∃ v, ((stepF k = -1 ∧ v = .nilFunc) ∨ ∃ n : Nat, stepF k = (n : Int) ∧ v = .func (.func n) #[] #[]) ∧ (Instr.lookup 53 (.map (some b)) (.int .i64 k) true).run Tryz.prog w = .ok (.tuple #[v, .bool (decide (stepF k ≠ -1))]) w := by
  obtain ⟨D, hD, hF⟩ := hF
  obtain ⟨v, ps, hrun, hv⟩ := hD.look_ok lawI Tryz.underlying53 (zeroFn w) funElem_nil (keyOf_int_mk Tryz.underlying3 hc)
  rw [(hF.2 k).2, ← VSL_len, List.take_length] at hv
  refine ⟨v, funElem_inv hv, ?_⟩
  rw [hrun, (hF.2 k).1, ← VSL_len, List.take_length]
  rfl
end
def StopI (p : Prop) : Prop := p
theorem stop_ins {P : Program} {ops : Array Oper} {rest : List Oper} {o : Oper} {a : Act} {w : World} {Q : Exit → Act → World → Prop} (ty : TypeId) {m x v : Operand} (ho : o.op = .insert ty m x v) (h : StopI (wpList P ops Q (o :: rest) a w)) : wpList P ops Q (o :: rest) a w := h
theorem grew_by {w0 w w' : World} {b : Nat} (g : Grew w0 w) (h : w.grownBy w' (some b)) (hb : w0.heap.size ≤ b) : Grew w0 w' := by
  refine ⟨⟨h.os.trans g.1.os, h.tape.trans g.1.tape, h.output.trans g.1.output, Nat.le_trans g.1.size h.size, fun k hk => ?_⟩, Nat.le_trans g.2 h.size⟩
  rw [h.block k (Nat.lt_of_lt_of_le hk g.2) (fun e => by injection e with e; omega)]
  exact g.1.block k hk
set_option maxRecDepth 100000 in
set_option maxHeartbeats 2000000 in
theorem steps_any (w : World) : Calls Tryz.prog 20 #[] w fun en w' => en = .returned (.map (some w.heap.size)) ∧ StM 25 w' w.heap.size ∧ Grew w w' := by
  have S0 : Hid (StM 0 (w.alloc (.map #[] 0)) w.heap.size) := StM.made w
  have G0 : Hid (Grew w (w.alloc (.map #[] 0))) := (Grew.refl w).alloc _
  have hmm := @run_makeMap Tryz.prog
  go_enter Tryz.func20, Tryz.ntmps20
  go_wp2_with (first
    | with_reducible refine stop_ins 53 rfl ?_
    | fail)
  unfold StopI
  have S := S0.out
  have G := G0.out
  clear S0 G0 hmm
  iterate 25 (refine wp_ins rfl _ _ _ rfl rfl S rfl (by decide) rfl rfl rfl ?_; intro w' S g'; have G := grew_by G g' (Nat.le_refl _))
  have S1 : Hid (StM 25 _ _) := S
  have G1 : Hid (Grew _ _) := G
  clear S G
  go_wp2_with fail
  go_ret
  exact ⟨rfl, S1.out, G1.out⟩
end Go.Proofs.YtahmjgmaaaegcaaGreatDoor
