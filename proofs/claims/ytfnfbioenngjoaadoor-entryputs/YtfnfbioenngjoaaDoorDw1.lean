/-
  The document's writer: the bytes so far, or the first fault; the walks of must, u, many, index, flag; no statement is proved here.
-/
import Derived.Test.YtfnfbioenngjoaaDoorWr4
import Derived.Deep.RegionLaw
namespace Go.Proofs.YtfnfbioenngjoaaDoor
open Go.RowKit
set_option linter.unusedVariables false
set_option linter.unusedSimpArgs false
set_option linter.constructorNameAsVariable false

def dob (o : Value) (e : Int) : Obj := .cells #[o, .int .i64 e] 59 (0, 0)
def StE (st : Except Nat (List Int)) (l : List Int) (e : Int) : Prop := match st with
  | .ok m => l = m ∧ e = 0
  | .error k => e = (k : Int) ∧ k ≠ 0
/- The document's writer at b has written what st tells, at most N bytes. -/
structure DW (b B : Nat) (w : World) (st : Except Nat (List Int)) (N : Nat) : Prop where
  ex : ∃ o e l, w.heap[b]? = some (dob o e) ∧ w.ownsRow B 5 1 o l.length (U8 l) ∧ l.length ≤ N ∧ StE st l e
  lt : b < B
  le : B ≤ w.heap.size
def DA (b B : Nat) (w : World) (st : Except Nat (List Int)) (N : Nat) (en : Ending) (w' : World) : Prop := en = .returned (.tuple #[]) ∧ WT b B w w' ∧ DW b B w' st N
def needW (ok : Bool) (k : Nat) : Except Nat (List Int) := if ok = true then .ok [] else .error k
theorem DW.grew {b B : Nat} {w w' : World} {st : Except Nat (List Int)} {N : Nat} (h : DW b B w st N) (g : Grew w w') : DW b B w' st N := by
  obtain ⟨o, e, l, h1, h2, h3, h4⟩ := h.ex
  exact ⟨⟨o, e, l, (g.turn []).other h1 (by simp), row_turn h2 (g.turn []) (by simp), h3, h4⟩, h.lt, Nat.le_trans h.le g.2⟩
theorem DW.blt {b B : Nat} {w : World} {st : Except Nat (List Int)} {N : Nat} (h : DW b B w st N) : b < w.heap.size := Nat.lt_of_lt_of_le h.lt h.le
theorem DW.mono {b B : Nat} {w : World} {st : Except Nat (List Int)} {N M : Nat} (h : DW b B w st N) (hM : N ≤ M) : DW b B w st M := by
  obtain ⟨o, e, l, h1, h2, h3, h4⟩ := h.ex
  exact ⟨⟨o, e, l, h1, h2, Nat.le_trans h3 hM, h4⟩, h.lt, h.le⟩
theorem WT.setb {b B : Nat} (w : World) (j : Nat) (u : Value) : WT b B w (w.setCell ⟨b, j, none⟩ u) := by
  have t := (Turn.refl [b] w).set (p := ⟨b, j, none⟩) (Or.inl (by simp)) u
  exact ⟨t.os, t.tape, t.output, t.size, fun k hk h1 _ => t.block k hk (by simpa using h1)⟩
theorem StE.next {st : Except Nat (List Int)} {l : List Int} {e : Int} (h : StE st l e) (r : List Int) : StE (thenW st (.ok r)) (l ++ r) e := by
  cases st with
  | ok m => obtain ⟨rfl, rfl⟩ := h; exact ⟨rfl, rfl⟩
  | error k => exact h
theorem StE.nil {st : Except Nat (List Int)} {l : List Int} {e : Int} {k : Nat} (h : StE st l e) : StE (thenW st (needW true k)) l e := by
  have : thenW st (needW true k) = st := thenW_nil st
  rw [this]; exact h
/- What an append to the writer's bytes, and the store behind it, leave. -/
theorem dw_app {b B : Nat} {w w1 : World} {st : Except Nat (List Int)} {N : Nat} {o v1 : Value} {e : Int} {l r : List Int} (h : w.heap[b]? = some (dob o e)) (hr : w.ownsRow B 5 1 o l.length (U8 l)) (hN : l.length ≤ N) (hS : StE st l e) (lt : b < B) (le : B ≤ w.heap.size)
    (ho1 : w1.ownsRow B 5 1 v1 (l ++ r).length (U8 (l ++ r))) (hg1 : w.grownBy w1 o.ownBlock) :
    w1.heap[b]? = some (dob o e) ∧ WT b B w (w1.setCell ⟨b, 0, none⟩ v1) ∧ DW b B (w1.setCell ⟨b, 0, none⟩ v1) (thenW st (.ok r)) (N + r.length) := by
  have hnb : some b ≠ o.ownBlock := fun hh => by have := (World.ownsRow.lt hr b hh.symm).1; omega
  have o1 : w1.heap[b]? = some (dob o e) := (hg1.block b (by omega) hnb).trans h
  have T1 : WT b B w w1 := ⟨hg1.os, hg1.tape, hg1.output, hg1.size, fun k hk _ h2 => hg1.block k hk (fun hh => by
      rcases h2 with h2 | h2
      · have := (World.ownsRow.lt hr k hh.symm).1; omega
      · obtain ⟨_, ⟨e, _⟩ | ⟨g, cap, cur, e, _, hgg, _⟩⟩ := hr
        · rw [e] at hh; cases hh
        · rw [e] at hh
          have : k = g := by simpa [Value.ownBlock] using hh
          subst this
          exact h2 _ _ hgg)⟩
  have t := T1.trans (WT.setb (b := b) (B := B) w1 0 v1)
  refine ⟨o1, t, ⟨v1, e, l ++ r, by rw [heap_set o1]; rfl, row_set ho1 (NoT.of o1 (by decide)) _, by rw [List.length_append]; omega, hS.next r⟩, lt, Nat.le_trans le t.size⟩
set_option maxRecDepth 100000 in
theorem must_any {b B : Nat} {w : World} {st : Except Nat (List Int)} {N : Nat} (h : DW b B w st N) (ok : Bool) (k : Nat) (hk : k ≠ 0) :
    Calls Tryd.prog 17 #[.pointer (some ⟨b, 0, none⟩), .bool ok, .int .i64 (k : Int)] w (DA b B w (thenW st (needW ok k)) N) := by
  have H : Hid (DW b B w st N) := h
  obtain ⟨o, e, l, h1, h2, h3, h4⟩ := h.ex
  have hb : b < w.heap.size := h.blt
  clear h
  cases ok with
  | true =>
    clear h1 h2 h3 h4
    go_enter Tryd.func17, Tryd.ntmps17
    go_wp2_with fail
    go_end0
    exact ⟨rfl, WT.refl _ _ _, by rw [show thenW st (needW true k) = st from thenW_nil st]; exact H.out⟩
  | false =>
    have c1 := cell_of h1 1
    have z1 := free_of h1 1
    simp at c1
    have O : Hid (w.heap[b]? = some (dob o e)) := h1
    have R : Hid (w.ownsRow B 5 1 o l.length (U8 l)) := h2
    have S : Hid (StE st l e) := h4
    clear h1 h2 h4
    by_cases he : e = 0
    · subst he
      go_enter Tryd.func17, Tryd.ntmps17
      go_wp2_with fail
      go_end0
      have t := WT.setb (b := b) (B := B) w 1 (.int .i64 (k : Int))
      refine ⟨rfl, t, ⟨o, (k : Int), l, by rw [heap_set O.out]; rfl, row_set R.out (NoT.of O.out (by decide)) _, h3, ?_⟩, H.out.lt, Nat.le_trans H.out.le t.size⟩
      have s := S.out
      cases st with
      | ok m => exact ⟨rfl, hk⟩
      | error k' => exact absurd (by have := s.1; omega) s.2
    · have d : (e == 0) = false := by simpa using he
      go_enter Tryd.func17, Tryd.ntmps17
      go_wp2_with fail
      go_end0
      refine ⟨rfl, WT.refl _ _ _, ?_⟩
      have s := S.out
      cases st with
      | ok m => exact absurd s.2 he
      | error k' => exact H.out
/- An append inside a region that draws. -/
theorem step_appG {w0 w : World} {ops : Array Oper} {o : Oper} {a : Act} {K : Act → World → Prop} {Q : Exit → Act → World → Prop} {E : Prop} (hgd : o.guard = none) (s x : Operand)
    (ho : o.op = .call { callee := .builtin .append, args := #[s, x], argTypes := #[38, 38] }) {B : Nat} {v u : Value} {l r : List Int}
    (hs : a.eval s = v) (hx : a.eval x = u) (g : Grew w0 w) (hown : w0.ownsRow B 5 1 v l.length (U8 l)) (hle : B ≤ w0.heap.size) (hR : Reads w u r) (hr0 : r ≠ []) (hlen : l.length + r.length ≤ 140737488355328)
    (h : ∀ v' w', w'.ownsRow B 5 1 v' (l ++ r).length (U8 (l ++ r)) → w.grownBy w' v.ownBlock → K (a.put o.dst v') w') :
    if Region.wanted o (yielded ops a.tmps) = true then Oper.wp Tryd.prog o a w K Q else E := by
  have hw : Region.wanted o (yielded ops a.tmps) = true := by simp [Region.wanted, hgd]
  rw [if_pos hw]
  obtain ⟨i0, hi, hz0, hz1, hz2⟩ := info_parts infoB
  have hown' : w.ownsRow B 5 1 v l.length (U8 l) := row_turn hown (g.turn []) (by simp)
  obtain ⟨ad, cap, hu, _, _, hn, hr⟩ := hR
  rcases hr with rfl | ⟨b, off, rfl, hc⟩
  · exact absurd rfl hr0
  · refine wp_append_own _ s x 38 ho B 5 i0 (.int .u8 0) 1 1 Tryd.underlying38 hi hz0 hz1 hz2 rfl (by decide) v l.length (U8 l) hs hown' _ r.length cap (U8 r) (hx.trans hu) (by simp [U8]) ?_ (by simp [U8, Value.oneCell']) (by unfold maxLen; omega) (by omega) (Nat.le_trans hle g.2) ?_
    · intro j z hz
      obtain ⟨hj, hz⟩ := List.getElem?_eq_some_iff.1 hz
      have hj' : j < r.length := by simpa [U8] using hj
      have := hc j hj'
      have e : (Addr.add ⟨b, off, none⟩ j) = ⟨b, off + j, none⟩ := by simp [Addr.add]
      rw [e, this, ← hz]
      simp [U8, List.getD, hj']
    · intro v' w' ho' hg' _
      refine h v' w' ?_ hg'
      rw [List.length_append, show U8 (l ++ r) = U8 l ++ U8 r from by simp [U8]]; exact ho'
theorem step_callD {f : Nat} {args : Array Value} {argTs : Array TypeId} {argOs : Array Operand} {R : Ending → World → Prop} {ops : Array Oper} {o : Oper} {a : Act} {w : World} {K : Act → World → Prop} {Q : Exit → Act → World → Prop} {E : Prop}
    (hop : o.op = .call { callee := .value (.func f), args := argOs, argTypes := argTs }) (hw : Region.wanted o (yielded ops a.tmps) = true) (hargs : argOs.map a.eval = args) (hf : (callFunc f args).run Tryd.prog w = .ok (.enter f args) w)
    (hc : Calls Tryd.prog f args w R) (h : ∀ e w', R e w' → (∃ u, e = .returned u ∧ K (a.put o.dst u) w') ∨ ∃ ch, e = .panicked ch ∧ Q (.panic ch) a w') :
    if Region.wanted o (yielded ops a.tmps) = true then Oper.wp Tryd.prog o a w K Q else E := by
  rw [if_pos hw]
  unfold Oper.wp
  subst hargs
  simp [execOp, hop, resolve, invoke, go_sem, hf, Oper.upon_enter]
  refine hc.mono ?_
  intro e w' he
  rcases h e w' he with ⟨u, rfl, hk⟩ | ⟨ch, rfl, hk⟩
  · exact hk
  · exact hk
theorem call_rputU (v : Value) (w : World) : (callFunc 41 #[v]).run Tryd.prog w = .ok (.enter 41 #[v]) w := by kernel_rfl
theorem call_rputS (v : Value) (w : World) : (callFunc 69 #[v]).run Tryd.prog w = .ok (.enter 69 #[v]) w := by kernel_rfl
theorem step_rputU {ops : Array Oper} {o : Oper} {a : Act} {w : World} {K : Act → World → Prop} {Q : Exit → Act → World → Prop} {E : Prop} {R : Ending → World → Prop} (x : Operand) {v : Value}
    (hop : o.op = .call { callee := .value (.func 41), args := #[x], argTypes := #[24] }) (hg : o.guard = none) (hx : a.eval x = v) (hc : Calls Tryd.prog 41 #[v] w R)
    (h : ∀ e w', R e w' → ∃ u, e = .returned u ∧ K (a.put o.dst u) w') :
    if Region.wanted o (yielded ops a.tmps) = true then Oper.wp Tryd.prog o a w K Q else E :=
  step_callD hop (by simp [Region.wanted, hg]) (args := #[v]) (by simp [hx]) (call_rputU v w) hc (fun e w' he => Or.inl (h e w' he))
theorem step_rputS {ops : Array Oper} {o : Oper} {a : Act} {w : World} {K : Act → World → Prop} {Q : Exit → Act → World → Prop} {E : Prop} {R : Ending → World → Prop} (x : Operand) {v : Value}
    (hop : o.op = .call { callee := .value (.func 69), args := #[x], argTypes := #[2] }) (hg : o.guard = none) (hx : a.eval x = v) (hc : Calls Tryd.prog 69 #[v] w R)
    (h : ∀ e w', R e w' → ∃ u, e = .returned u ∧ K (a.put o.dst u) w') :
    if Region.wanted o (yielded ops a.tmps) = true then Oper.wp Tryd.prog o a w K Q else E :=
  step_callD hop (by simp [Region.wanted, hg]) (args := #[v]) (by simp [hx]) (call_rputS v w) hc (fun e w' he => Or.inl (h e w' he))
theorem Has.gr {w w' : World} {v : Value} {l : List Int} (h : Has w.heap.size w w' v l) : Grew w w' := ⟨h.2.1, h.2.2⟩
set_option maxRecDepth 100000 in
set_option maxHeartbeats 1000000 in
theorem du_any {b B : Nat} {w : World} {st : Except Nat (List Int)} {N : Nat} (h : DW b B w st N) (n : Int) (h0 : 0 ≤ n) (h1 : n ≤ 18446744073709551615) (hN : N ≤ 17592186044416) :
    Calls Tryd.prog 26 #[.pointer (some ⟨b, 0, none⟩), .int .u64 n] w (DA b B w (thenW st (.ok (PU n))) (N + 11)) := by
  have H : Hid (DW b B w st N) := h
  obtain ⟨o, e, l, g1, g2, g3, g4⟩ := h.ex
  have hb : b < w.heap.size := h.blt
  obtain ⟨oa, oc, rfl⟩ := row_one g2
  have c0 := cell_of g1 0
  simp at c0
  have O : Hid (w.heap[b]? = some (dob (.slice oa l.length oc) e)) := g1
  have R : Hid (w.ownsRow B 5 1 (.slice oa l.length oc) l.length (U8 l)) := g2
  have S : Hid (StE st l e) := g4
  have hP := PU_len n
  obtain ⟨pc, pr, hpc⟩ : ∃ c r, PU n = c :: r := by unfold PU; rw [putU]; split <;> exact ⟨_, _, rfl⟩
  have hne : Hid (PU n ≠ []) := by show _ ≠ _; rw [hpc]; simp
  have CP : Hid (∀ w', Grew w w' → Calls Tryd.prog 41 #[.int .u64 n] w' fun en w'' => ∃ u, en = .returned u ∧ Has w'.heap.size w' w'' u (PU n)) := fun w' _ => refPutU_any n w' h0 h1
  clear h g1 g2 g4 hpc h0 h1
  generalize PU n = P at *
  go_enter Tryd.func26, Tryd.ntmps26
  go_wp2_with fail
  go_region_law (first
    | (refine step_rputU (.tmp 9) rfl rfl rfl (CP.out _ (by first | exact Grew.refl _ | exact (Grew.refl _).drew | exact (Grew.refl _).drewN _)) ?_
       rintro en w6 ⟨u6, rfl, h6⟩
       refine ⟨_, rfl, ?_⟩
       have G6 : Hid (Grew w w6) := (by first | exact h6.gr | exact ((Grew.refl _).drew).trans h6.gr | exact ((Grew.refl _).drewN _).trans h6.gr)
       have O6 : Hid (w6.heap[b]? = some (dob (.slice oa l.length oc) e)) := (G6.out.turn []).other O.out (by simp)
       have R6 : Hid (Reads w6 u6 P) := h6.reads
       have e6 := cell_of O6.out 0
       simp at e6
       obtain ⟨ua6, uc6, hu6⟩ := h6.reads.len
       subst hu6
       clear h6)
    | (refine step_appG (w0 := w) (B := B) (v := .slice oa l.length oc) (u := .slice ua6 P.length uc6) (l := l) (r := P) rfl (.tmp 8) (.tmp 10) rfl rfl rfl (by first | exact G6.out | exact G6.out.drew | exact G6.out.drewN _) R.out H.out.le (by first | exact R6.out | exact R6.out.below (Grew.refl _).drew.1) hne.out (by omega) ?_
       intro v7 w7 I7 t7
       obtain ⟨a7, c7, hv7⟩ := row_one I7
       rw [List.length_append] at hv7
       subst hv7
       have A7 := dw_app (b := b) (B := B) (w := w6) (st := st) (N := N) (r := P) O6.out (row_turn R.out (G6.out.turn []) (by simp)) g3 S.out H.out.lt (Nat.le_trans H.out.le G6.out.2) I7 t7
       have HA7 : Hid (WT b B w6 (w7.setCell ⟨b, 0, none⟩ (.slice a7 (l.length + P.length) c7)) ∧ DW b B (w7.setCell ⟨b, 0, none⟩ (.slice a7 (l.length + P.length) c7)) (thenW st (.ok P)) (N + P.length)) := A7.2
       have q7 := cell_of A7.1 0
       have z7 := free_of A7.1 0
       simp at q7
       clear A7 t7))
  all_goals
    go_wp2_with fail
    go_end0
    exact ⟨rfl, (WT.of_grew G6.out).trans HA7.out.1, HA7.out.2.mono (by omega)⟩
end Go.Proofs.YtfnfbioenngjoaaDoor
