/-
  The document's PutTag; no statement is proved here.
-/
import Derived.Test.YtfnfbioenngjoaaDoorDw8
import Derived.ArgAppend
namespace Go.Proofs.YtfnfbioenngjoaaDoor
open Go.RowKit
set_option linter.unusedVariables false
set_option linter.unusedSimpArgs false
set_option linter.constructorNameAsVariable false

theorem thenW_l (r : Except Nat (List Int)) : thenW (.ok []) r = r := by
  cases r <;> simp [thenW]
set_option maxRecDepth 100000 in
set_option maxHeartbeats 1000000 in
theorem done_ok {b B : Nat} {w : World} {m : List Int} {N : Nat} (h : DW b B w (.ok m) N) :
    Calls Tryd.prog 23 #[.pointer (some ⟨b, 0, none⟩)] w fun en w' => ∃ rv, en = .returned (.tuple #[rv, .int .i64 0]) ∧ w'.ownsRow B 5 1 rv m.length (U8 m) ∧ Grew w w' := by
  obtain ⟨o, e, l, h1, h2, h3, h4⟩ := h.ex
  obtain ⟨rfl, rfl⟩ := h4
  obtain ⟨oa, oc, rfl⟩ := row_one h2
  have c0 := cell_of h1 0
  have c1 := cell_of h1 1
  simp at c0 c1
  have hb : b < w.heap.size := h.blt
  have R : Hid (w.ownsRow B 5 1 (.slice oa l.length oc) l.length (U8 l)) := h2
  clear h h1 h2 h3
  go_enter Tryd.func23, Tryd.ntmps23
  go_wp2_with fail
  go_ret2
  exact ⟨_, rfl, R.out, Grew.refl _⟩
set_option maxRecDepth 100000 in
set_option maxHeartbeats 1000000 in
theorem done_er {b B : Nat} {w : World} {k : Nat} {N : Nat} (h : DW b B w (.error k) N) :
    Calls Tryd.prog 23 #[.pointer (some ⟨b, 0, none⟩)] w fun en w' => en = .returned (.tuple #[.slice none 0 0, .int .i64 (k : Int)]) ∧ Grew w w' := by
  obtain ⟨o, e, l, h1, h2, h3, h4⟩ := h.ex
  obtain ⟨rfl, hk⟩ := h4
  obtain ⟨oa, oc, rfl⟩ := row_one h2
  have c1 := cell_of h1 1
  simp at c1
  have hb : b < w.heap.size := h.blt
  have d : ((k : Int) != 0) = true := by simp; exact hk
  clear h h1 h2 h3 hk
  go_enter Tryd.func23, Tryd.ntmps23
  go_wp2_with fail
  go_region
  all_goals
    go_wp2_with fail
    go_ret2
    exact ⟨rfl, (Grew.refl _).drew⟩
theorem done_any {b B : Nat} {w0 w : World} {R : Except Nat (List Int)} {N : Nat} (h : DW b B w R N) (g : Grew w0 w) (hB : w0.heap.size ≤ B) : Calls Tryd.prog 23 #[.pointer (some ⟨b, 0, none⟩)] w (PAns w0 R) := by
  cases R with
  | ok m => exact (done_ok h).mono fun _ _ ⟨rv, h1, h2, h3⟩ => ⟨rv, h1, row_low h2 hB, g.trans h3⟩
  | error k => exact (done_er h).mono fun _ _ ⟨h1, h2⟩ => ⟨h1, g.trans h2⟩
/- A writer that has written nothing. -/
theorem dw_new (w : World) : DW w.heap.size (w.heap.size + 1) (w.alloc (.cells #[.slice none 0 0, .int .i64 0] 59)) (.ok []) 0 :=
  ⟨⟨.slice none 0 0, 0, [], heap_alloc_last w _, World.ownsRow_nil _ _ _ _, Nat.le_refl _, rfl, rfl⟩, by omega, by simp⟩
end Go.Proofs.YtfnfbioenngjoaaDoor

namespace Go.Proofs.YtfnfbioenngjoaaDoor
open Go.RowKit
set_option linter.unusedVariables false
set_option linter.unusedSimpArgs false
set_option linter.constructorNameAsVariable false

def szT : List SB → Nat
  | [] => 0
  | x :: l => szS x + szT l
theorem szT_step : ∀ {ts : List SB} {i : Nat} {x : SB}, ts[i]? = some x → szT (ts.take (i + 1)) = szT (ts.take i) + szS x
  | [], i, x, h => by simp at h
  | y :: l, 0, x, h => by
    simp at h
    subst h
    simp [szT]
  | y :: l, i + 1, x, h => by
    simp only [List.getElem?_cons_succ] at h
    rw [List.take_succ_cons, List.take_succ_cons, szT, szT, szT_step h]
    omega
theorem szT_le : ∀ (ts : List SB) (i : Nat), szT (ts.take i) ≤ szT ts
  | [], i => by simp [szT]
  | y :: l, 0 => by simp [szT]
  | y :: l, i + 1 => by
    rw [List.take_succ_cons, szT, szT]
    have := szT_le l i
    omega
end Go.Proofs.YtfnfbioenngjoaaDoor

namespace Go.Proofs.YtfnfbioenngjoaaDoor
open Go.RowKit
set_option linter.unusedVariables false
set_option linter.unusedSimpArgs false
set_option linter.constructorNameAsVariable false

def noneB (v : VT) : Bool := v.num == 0 && (v.null == false && v.heap == 0)
def blkW (t : Int) (v : VT) : Except Nat (List Int) := if t = -1 then (if noneB v = true then .ok [64] else valW v) else if noneB v = true then sidxW t else .error 4
/- A new row of bytes stored in the place of nothing. -/
theorem dw_set {b B : Nat} {w w6 : World} {st : Except Nat (List Int)} {N : Nat} {u : Value} {m : List Int} (h : DW b B w st N) (hst : st = .ok [] ∨ ∃ k, st = .error k) (g : Grew w w6) (hu : w6.ownsRow B 5 1 u m.length (U8 m)) :
    WT b B w (w6.setCell ⟨b, 0, none⟩ u) ∧ DW b B (w6.setCell ⟨b, 0, none⟩ u) (thenW st (.ok m)) (N + m.length) := by
  obtain ⟨o, e, l, h1, h2, h3, h4⟩ := h.ex
  have o6 : w6.heap[b]? = some (dob o e) := (g.turn []).other h1 (by simp)
  have t : WT b B w (w6.setCell ⟨b, 0, none⟩ u) := (WT.of_grew g).trans (WT.setb w6 0 u)
  refine ⟨t, ⟨u, e, m, by rw [heap_set o6]; rfl, row_set hu (NoT.of o6 (by decide)) _, by omega, ?_⟩, h.lt, Nat.le_trans h.le t.size⟩
  rcases hst with rfl | ⟨k, rfl⟩
  · exact ⟨by simp, h4.2⟩
  · exact h4
theorem need_st (ok : Bool) : thenW (.ok []) (needW ok 4) = .ok [] ∨ ∃ k, thenW (.ok []) (needW ok 4) = .error k := by
  cases ok
  · exact Or.inr ⟨4, rfl⟩
  · exact Or.inl rfl
end Go.Proofs.YtfnfbioenngjoaaDoor

namespace Go.Proofs.YtfnfbioenngjoaaDoor
open Go.RowKit
set_option linter.unusedVariables false
set_option linter.unusedSimpArgs false
set_option linter.constructorNameAsVariable false

def tagW (n : Int) : Except Nat (List Int) := thenW (.ok [0]) (uidxW n)
/- An append to a row of one byte that has no room: a new row. -/
theorem step_appT {w : World} {ops : Array Oper} {o : Oper} {a : Act} {K : Act → World → Prop} {Q : Exit → Act → World → Prop} {E : Prop} (hgd : o.guard = none) (s x : Operand)
    (ho : o.op = .call { callee := .builtin .append, args := #[s, x], argTypes := #[38, 38] }) {r : Nat} {u : Value} {P : List Int}
    (hs : a.eval s = .slice (some ⟨r, 0, none⟩) 1 1) (hx : a.eval x = u) (hc : w.cell? ⟨r, 0, none⟩ = some (.int .u8 0)) (hR : Reads w u P) (hP0 : P ≠ []) (hP : P.length ≤ 1000)
    (h : ∀ v' w', w'.ownsRow w.heap.size 5 1 v' (0 :: P).length (U8 (0 :: P)) → w.grownBy w' none → K (a.put o.dst v') w') :
    if Region.wanted o (yielded ops a.tmps) = true then Oper.wp Tryd.prog o a w K Q else E := by
  have hw : Region.wanted o (yielded ops a.tmps) = true := by simp [Region.wanted, hgd]
  rw [if_pos hw]
  obtain ⟨i0, hi, hz0, hz1, hz2⟩ := info_parts infoB
  obtain ⟨ad, cap, hu, _, _, hn, hr⟩ := hR
  rcases hr with rfl | ⟨b, off, rfl, hcl⟩
  · exact absurd rfl hP0
  · have hl : 0 < P.length := List.length_pos_iff.2 hP0
    obtain ⟨v', w', hr, h2, h3⟩ := run_append_arg_grows (P := Tryd.prog) w 38 o.type 5 i0 (.int .u8 0) 1 1 Tryd.underlying38 hi hz0 hz1 hz2 rfl (by decide) ⟨r, 0, none⟩ 1 1 [.int .u8 0] rfl (fun j z hz => by
        match j, hz with
        | 0, hz => simp at hz; subst hz; simpa [Addr.add] using hc) ⟨b, off, none⟩ P.length cap (U8 P) (by simp [U8]) (fun j z hz => by
        obtain ⟨hj, hz⟩ := List.getElem?_eq_some_iff.1 hz
        have hj' : j < P.length := by simpa [U8] using hj
        have := hcl j hj'
        have e : (Addr.add ⟨b, off, none⟩ j) = ⟨b, off + j, none⟩ := by simp [Addr.add]
        rw [e, this, ← hz]
        simp [U8, List.getD, hj']) (by omega) (by unfold maxLen; omega) (by omega)
    unfold Oper.wp execOp
    have hx' : a.eval x = .slice (some ⟨b, off, none⟩) P.length cap := hx.trans hu
    simp only [ho, resolve, invoke, builtin, Sem.run_bind, Sem.run_pure, Result.andThen_ok, List.map_toArray, List.map_cons, List.map_nil, hs, hx', hr]
    refine h v' w' ?_ h3
    have e : (0 :: P).length = 1 + P.length := by simp [Nat.add_comm]
    rw [e]
    exact h2
set_option maxRecDepth 100000 in
theorem mustT_yes {b : Nat} {w : World} (k : Int) : Calls Tryd.prog 17 #[.pointer (some ⟨b, 0, none⟩), .bool true, .int .i64 k] w fun en w' => en = .returned (.tuple #[]) ∧ w' = w := by
  go_enter Tryd.func17, Tryd.ntmps17
  go_wp2_with fail
  go_end0
  exact ⟨rfl, rfl⟩
set_option maxRecDepth 100000 in
theorem mustT_no {b : Nat} {w : World} {o : Value} (h : w.heap[b]? = some (dob o 0)) (k : Int) : Calls Tryd.prog 17 #[.pointer (some ⟨b, 0, none⟩), .bool false, .int .i64 k] w fun en w' => en = .returned (.tuple #[]) ∧ w' = w.setCell ⟨b, 1, none⟩ (.int .i64 k) := by
  have c1 := cell_of h 1
  have z1 := free_of h 1
  simp at c1
  have hb : b < w.heap.size := lt_of_obj h
  clear h
  go_enter Tryd.func17, Tryd.ntmps17
  go_wp2_with fail
  go_end0
  exact ⟨rfl, rfl⟩
/- The writer at b holds the byte 0 in a row of one, and this error. -/
def TS (b r : Nat) (w : World) (k : Nat) : Prop := w.heap[b]? = some (dob (.slice (some ⟨r, 0, none⟩) 1 1) (k : Int)) ∧ w.heap[r]? = some (.cells #[.int .u8 0] 5 (0, 0)) ∧ r ≠ b
set_option maxRecDepth 100000 in
set_option maxHeartbeats 1000000 in
theorem duT {b r k : Nat} {w : World} (h : TS b r w k) (n : Int) (h0 : 0 ≤ n) (h1 : n ≤ 18446744073709551615) :
    Calls Tryd.prog 26 #[.pointer (some ⟨b, 0, none⟩), .int .u64 n] w (DA b (b + 1) w (if k = 0 then .ok (0 :: PU n) else .error k) 12) := by
  obtain ⟨g1, g2, hne0⟩ := h
  obtain ⟨sk, hsk⟩ : ∃ sk : Except Nat (List Int), sk = if k = 0 then .ok (0 :: PU n) else .error k := ⟨_, rfl⟩
  rw [← hsk]
  have HSK : Hid (sk = if k = 0 then .ok (0 :: PU n) else .error k) := hsk
  clear hsk
  have hb : b < w.heap.size := lt_of_obj g1
  have c0 := cell_of g1 0
  simp at c0
  have O : Hid (w.heap[b]? = some (dob (.slice (some ⟨r, 0, none⟩) 1 1) (k : Int))) := g1
  have OR : Hid (w.heap[r]? = some (.cells #[.int .u8 0] 5 (0, 0))) := g2
  have hP := PU_len n
  obtain ⟨pc, pr, hpc⟩ : ∃ c r, PU n = c :: r := by unfold PU; rw [putU]; split <;> exact ⟨_, _, rfl⟩
  have hne : Hid (PU n ≠ []) := by show _ ≠ _; rw [hpc]; simp
  have CP : Hid (∀ w', Grew w w' → Calls Tryd.prog 41 #[.int .u64 n] w' fun en w'' => ∃ u, en = .returned u ∧ Has w'.heap.size w' w'' u (PU n)) := fun w' _ => refPutU_any n w' h0 h1
  clear g1 g2 hpc h0 h1
  generalize PU n = P at *
  go_enter Tryd.func26, Tryd.ntmps26
  go_wp2_with fail
  go_region_law (first
    | (refine step_rputU (.tmp 9) rfl rfl rfl (CP.out _ (by first | exact Grew.refl _ | exact (Grew.refl _).drew | exact (Grew.refl _).drewN _)) ?_
       rintro en w6 ⟨u6, rfl, h6⟩
       refine ⟨_, rfl, ?_⟩
       have G6 : Hid (Grew w w6) := (by first | exact h6.gr | exact ((Grew.refl _).drew).trans h6.gr | exact ((Grew.refl _).drewN _).trans h6.gr)
       have O6 : Hid (w6.heap[b]? = some (dob (.slice (some ⟨r, 0, none⟩) 1 1) (k : Int))) := (G6.out.turn []).other O.out (by simp)
       have OR6 : Hid (w6.heap[r]? = some (.cells #[.int .u8 0] 5 (0, 0))) := (G6.out.turn []).other OR.out (by simp)
       have R6 : Hid (Reads w6 u6 P) := h6.reads
       have e6 := cell_of O6.out 0
       simp at e6
       obtain ⟨ua6, uc6, hu6⟩ := h6.reads.len
       subst hu6
       clear h6)
    | (refine step_appT (r := r) (u := .slice ua6 P.length uc6) (P := P) rfl (.tmp 8) (.tmp 10) rfl rfl rfl (by have := cell_of OR6.out 0; simpa using this) (by first | exact R6.out | exact R6.out.below (Grew.refl _).drew.1) hne.out (by omega) ?_
       intro v7 w7 I7 t7
       obtain ⟨a7, c7, hv7⟩ := row_one I7
       subst hv7
       have o7 : w7.heap[b]? = some (dob (.slice (some ⟨r, 0, none⟩) 1 1) (k : Int)) := (t7.block b (lt_of_obj O6.out) (by simp)).trans O6.out
       have O7 : Hid (w7.heap[b]? = some (dob (.slice (some ⟨r, 0, none⟩) 1 1) (k : Int))) := o7
       have W7 : Hid (WT b (b + 1) w6 w7) := ⟨t7.os, t7.tape, t7.output, t7.size, fun q hq _ _ => t7.block q hq (by simp)⟩
       have I7' : Hid (w7.ownsRow w6.heap.size 5 1 (.slice a7 (0 :: P).length c7) (0 :: P).length (U8 (0 :: P))) := I7
       have q7 := cell_of o7 0
       have z7 := free_of o7 0
       simp at q7
       clear t7 I7 o7))
  all_goals
    go_wp2_with fail
    go_end0
    have t8 := (((WT.of_grew G6.out).trans W7.out).trans (WT.setb (b := b) (B := b + 1) w7 0 (.slice a7 (P.length + 1) c7)))
    have hs6 : b < w6.heap.size := lt_of_obj O6.out
    refine ⟨rfl, t8, ⟨.slice a7 (P.length + 1) c7, (k : Int), 0 :: P, by rw [heap_set O7.out]; rfl, row_low (row_set I7'.out (NoT.of O7.out (by decide)) _) (by omega), by simp; omega, ?_⟩, by omega, by have := t8.size; omega⟩
    rw [HSK.out]
    by_cases hk : k = 0
    · rw [if_pos hk, hk]; exact ⟨rfl, rfl⟩
    · rw [if_neg hk]; exact ⟨rfl, hk⟩
set_option maxRecDepth 100000 in
theorem doneT {b : Nat} {w : World} {o : Value} {k : Nat} (h : w.heap[b]? = some (dob o (k : Int))) (hk : k ≠ 0) :
    Calls Tryd.prog 23 #[.pointer (some ⟨b, 0, none⟩)] w fun en w' => en = .returned (.tuple #[.slice none 0 0, .int .i64 (k : Int)]) ∧ Grew w w' := by
  have c1 := cell_of h 1
  simp at c1
  have hb : b < w.heap.size := lt_of_obj h
  have d : ((k : Int) != 0) = true := by simp; exact hk
  clear h hk
  go_enter Tryd.func23, Tryd.ntmps23
  go_wp2_with fail
  go_region
  all_goals
    go_wp2_with fail
    go_ret2
    exact ⟨rfl, (Grew.refl _).drew⟩
theorem TS.bad {b r : Nat} {w : World} (h : TS b r w 0) : TS b r (w.setCell ⟨b, 1, none⟩ (.int .i64 4)) 4 :=
  ⟨by rw [heap_set h.1]; rfl, heap_other h.2.1 h.2.2 _, h.2.2⟩
set_option maxRecDepth 100000 in
set_option maxHeartbeats 1000000 in
theorem indexT_in {b r : Nat} {w : World} (h : TS b r w 0) (n : Int) (h0 : 0 ≤ n) (h1 : n ≤ 2147483647) :
    Calls Tryd.prog 19 #[.pointer (some ⟨b, 0, none⟩), .int .i64 n] w (DA b (b + 1) w (tagW n) 12) := by
  have E : Hid ((if (0 : Nat) = 0 then .ok (0 :: PU n) else .error 0 : Except Nat (List Int)) = tagW n) := by
    show _ = _
    rw [if_pos rfl, tagW, uidxW, if_pos ⟨h0, h1⟩]
    rfl
  have C := duT h n h0 (by omega)
  rw [E.out] at C
  have cv : IntKind.u64.wrap n = n := by rw [IntKind.wrap_u64]; omega
  have d0 : decide (0 ≤ n) = true := by simpa using h0
  have d1 : decide (n < 2147483648) = true := by simp; omega
  clear h
  go_enter Tryd.func19, Tryd.ntmps19
  go_wp2_with fail
  refine (mustT_yes 4).mono ?_
  rintro en w1 ⟨rfl, hw⟩
  obtain rfl := hw.symm
  go_wp2_with fail
  refine C.mono ?_
  rintro en w2 ⟨rfl, F⟩
  have HF : Hid _ := F
  clear F C
  go_wp2_with fail
  go_end0
  exact ⟨rfl, HF.out⟩
set_option maxRecDepth 100000 in
set_option maxHeartbeats 1000000 in
theorem indexT_out {b r : Nat} {w : World} (h : TS b r w 0) (n : Int) (h0 : 0 ≤ n) (h1 : 2147483647 < n) (h2 : n ≤ 9223372036854775807) :
    Calls Tryd.prog 19 #[.pointer (some ⟨b, 0, none⟩), .int .i64 n] w (DA b (b + 1) w (tagW n) 12) := by
  have E : Hid ((if (4 : Nat) = 0 then .ok (0 :: PU n) else .error 4 : Except Nat (List Int)) = tagW n) := by
    show _ = _
    rw [if_neg (by decide), tagW, uidxW, if_neg (by omega)]
    rfl
  have C := duT h.bad n h0 (by omega)
  rw [E.out] at C
  have cv : IntKind.u64.wrap n = n := by rw [IntKind.wrap_u64]; omega
  have d0 : decide (0 ≤ n) = true := by simpa using h0
  have d1 : decide (n < 2147483648) = false := by simp; omega
  have M := mustT_no h.1 4
  clear h
  go_enter Tryd.func19, Tryd.ntmps19
  go_wp2_with fail
  refine M.mono ?_
  rintro en w1 ⟨rfl, hw⟩
  have HW : Hid (w1 = w.setCell ⟨b, 1, none⟩ (.int .i64 4)) := hw
  rw [← hw] at C
  clear hw M
  go_wp2_with fail
  refine C.mono ?_
  rintro en w2 ⟨rfl, F⟩
  have HF : Hid (WT b (b + 1) w1 w2 ∧ DW b (b + 1) w2 (tagW n) 12) := F
  clear F C
  go_wp2_with fail
  go_end0
  refine ⟨rfl, ?_, HF.out.2⟩
  have t := HF.out.1
  rw [HW.out] at t
  exact (WT.setb w 1 _).trans t
set_option maxRecDepth 100000 in
set_option maxHeartbeats 1000000 in
theorem indexT_neg {b r : Nat} {w : World} (h : TS b r w 0) (n : Int) (h0 : n < 0) :
    Calls Tryd.prog 19 #[.pointer (some ⟨b, 0, none⟩), .int .i64 n] w fun en w' => en = .returned (.tuple #[]) ∧ w' = w.setCell ⟨b, 1, none⟩ (.int .i64 4) := by
  have d0 : decide (0 ≤ n) = false := by simp; omega
  have M := mustT_no h.1 4
  clear h
  go_enter Tryd.func19, Tryd.ntmps19
  go_wp2_with fail
  refine M.mono ?_
  rintro en w1 ⟨rfl, hw⟩
  have HW : Hid (w1 = w.setCell ⟨b, 1, none⟩ (.int .i64 4)) := hw
  clear hw M
  go_wp2_with fail
  go_end0
  exact ⟨rfl, HW.out⟩
end Go.Proofs.YtfnfbioenngjoaaDoor
