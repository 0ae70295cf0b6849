/-
  A range over a function of an order's own: a contract for iterators and a law for their callers; no statement is proved here.
-/
import Derived.Test.YtnmbniojejckpaaGreatDoorGrR
import Derived.Test.YtnmbniojejckpaaGreatDoorGrO
import Derived.Test.YtnmbniojejckpaaGreatDoorRowM
import Derived.BigQuiet
import Derived.Test.YtnmbniojejckpaaGreatDoorOrd
import Derived.RangeFuncNested
import Derived.RangeFuncBound
import Derived.RangeFuncCalls
import Derived.RangeFuncLeaves
import Derived.Shelf.Abstract
import Derived.Shelf.RegionOpen
import Derived.OwnWalkIn
import Derived.TacticsInMore
import Derived.LoopNIn
import Derived.LoopIn
set_option maxRecDepth 100000
set_option maxHeartbeats 8000000
namespace Go.Proofs.YtnmbniojejckpaaGreatDoor
open Go.RowKit
set_option linter.unusedVariables false
set_option linter.unusedSimpArgs false
variable {G : Value → Prop}
/- A list of types in a row that nobody else has, in a block from N on. -/
def NewV (N : Nat) (w : World) (v : Value) (l : List VT) : Prop := ∃ g, N ≤ g ∧ v = .slice (some ⟨g, 0, none⟩) l.length l.length ∧ w.heap[g]? = some (.cells (l.flatMap VT.c).toArray 46 (0, 0))
theorem NewV.grew {N : Nat} {w w' : World} {v : Value} {l : List VT} (h : NewV N w v l) (g : Grew w w') : NewV N w' v l := by
  obtain ⟨b, hN, hv, hb⟩ := h
  exact ⟨b, hN, hv, (g.turn []).other hb (by simp)⟩
theorem NewV.lst {N : Nat} {w : World} {v : Value} {l : List VT} (h : NewV N w v l) (hl : l.length ≤ 8388608) : LV w v l := by
  obtain ⟨b, hN, hv, hb⟩ := h
  refine ⟨_, _, hv, Nat.le_refl _, by unfold maxLen; omega, (fun h => by cases h), Or.inr ⟨b, 0, rfl, fun i x hx => ?_⟩⟩
  have hc : ∀ j, j < 3 → w.cell? ⟨b, 0 + i * 3 + j, none⟩ = (VT.c x)[j]? := fun j hj => by
    rw [cell_of hb, List.getElem?_toArray, Nat.zero_add]
    exact flat_at VT.c 3 (fun _ => rfl) l i x j hx hj
  exact ⟨hc 0 (by decide), hc 1 (by decide), hc 2 (by decide)⟩
theorem NewV.two {N : Nat} {w w' : World} {v : Value} {l : List VT} {C : Nat} {q : Value} (h : NewV N w v l) (t : Two C q w w') (hC : NoT w C 46) (hq : ∀ g, q.ownBlock = some g → NoT w g 46 ∨ g < N) : NewV N w' v l := by
  obtain ⟨b, hN, hv, hb⟩ := h
  refine ⟨b, hN, hv, (t b (lt_of_obj hb) (fun hx => hC _ _ (by rw [← hx]; exact hb)) (fun hx => ?_)).trans hb⟩
  rcases hq b hx.symm with h | h
  · exact h _ _ hb
  · omega
theorem CHK.noV {B : Nat} {w : World} {C : Nat} {lv fv ov qv : Value} {lo : List LO} {fr : List Int} {ops : List VT} {fs : List FV} (h : CHK G B w C lv fv ov qv lo fr ops fs) : NoT w C 46 ∧ ∀ g, qv.ownBlock = some g → NoT w g 46 := by
  obtain ⟨⟨gv, rv, a, b, co⟩, h1, h2, h3, h4, h5, h6⟩ := h
  exact ⟨NoT.of co (by decide), row_no h5 (by decide)⟩
/- The cells (block, place, value) lie in blocks of W and are so in w'. -/
def Held (W w' : World) : List (Nat × Nat × Value) → Prop
  | [] => True
  | (b, j, v) :: l => (b < W.heap.size ∧ w'.cell? ⟨b, j, none⟩ = some v) ∧ Held W w' l
theorem Held.step {W w' w'' : World} (g0 : Grew W w') (g : Grew w' w'') : ∀ {l : List (Nat × Nat × Value)}, Held W w' l → Held W w'' l
  | [], _ => trivial
  | (b, j, v) :: l, ⟨⟨hb, hc⟩, h⟩ => ⟨⟨hb, by rw [g.1.cell (Nat.lt_of_lt_of_le hb g0.2)]; exact hc⟩, Held.step g0 g h⟩
def Ck (W : World) (l : List (Nat × Nat × Value)) (w' : World) : Prop := Grew W w' ∧ Held W w' l
theorem Ck.step {W : World} {l : List (Nat × Nat × Value)} {w' w'' : World} (h : Ck W l w') (g : Grew w' w'') : Ck W l w'' := ⟨h.1.trans g, Held.step h.1 g h.2⟩
theorem Ck.call {P : Program} {f : FuncId} {args : Array Value} {W : World} {l : List (Nat × Nat × Value)} {v : Value} {w' : World} (hc : Ck W l w')
    (h : Calls P f args w' fun e w'' => e = .returned v ∧ Grew w' w'') : Calls P f args w' fun e w'' => e = .returned v ∧ Ck W l w'' :=
  h.mono fun _ _ ⟨he, hg⟩ => ⟨he, hc.step hg⟩
theorem Ck.same {P : Program} {f : FuncId} {args : Array Value} {W : World} {l : List (Nat × Nat × Value)} {v : Value} {w' : World} (hc : Ck W l w')
    (h : Calls P f args w' fun e w'' => e = .returned v ∧ w'' = w') : Calls P f args w' fun e w'' => e = .returned v ∧ Ck W l w'' :=
  h.mono fun _ _ ⟨he, hg⟩ => ⟨he, by rw [hg]; exact hc⟩
theorem Held.drew {W : World} : ∀ {l : List (Nat × Nat × Value)}, Held W W l → Held W { W with drawn := W.drawn + 1 } l
  | [], _ => trivial
  | (b, j, v) :: l, ⟨⟨hb, hc⟩, h⟩ => ⟨⟨hb, hc⟩, Held.drew h⟩
theorem wp_region_ck {P : Program} {id : Nat} {Q : Exit → Act → World → Prop} {a : Act} {w : World} {l : List Oper} (c : List (Nat × Nat × Value)) (hm : P.follows .mixedOrders = true) (hB : Region.lexB .any l.toArray = true)
    (hc : Held w w c) (h : wpQuiet P l.toArray (Ck w c) (fun a' => ∀ w', Ck w c w' → Q .normal a' w') l a) : (Code.region id l.toArray true).wp P Q a w :=
  wp_region_quiet (C := Ck w c) hm hB ⟨(Grew.refl w).drew, hc.drew⟩ (by simpa using h)
variable {G : Value → Prop}
abbrev VT0 : Value := .agg #[.int .i64 0, .bool false, .int .i64 0]
theorem fresh3 {w w1 : World} {t : TypeId} {a b c : Value} (g : Grew (w.alloc (.cells #[a, b, c] t)) w1) :
    Grew w w1 ∧ w.heap.size < w1.heap.size ∧ w1.cell? ⟨w.heap.size, 0, none⟩ = some a ∧ w1.cell? ⟨w.heap.size, 1, none⟩ = some b ∧ w1.cell? ⟨w.heap.size, 2, none⟩ = some c ∧
    w1.frozen? ⟨w.heap.size, 0, none⟩ = false ∧ w1.frozen? ⟨w.heap.size, 1, none⟩ = false ∧ w1.frozen? ⟨w.heap.size, 2, none⟩ = false := by
  have B1 := (g.turn []).other (heap_alloc_last w (.cells #[a, b, c] t)) (by simp)
  refine ⟨((Grew.refl w).alloc _).trans g, lt_of_obj B1, ?_, ?_, ?_, free_of B1 0, free_of B1 1, free_of B1 2⟩
  · rw [cell_of B1]; rfl
  · rw [cell_of B1]; rfl
  · rw [cell_of B1]; rfl
theorem call_top (p : Value) (w : World) : (callFunc 99 #[p]).run Tryz.prog w = .ok (.enter 99 #[p]) w := by kernel_rfl
theorem call_heightV (p : Value) (w : World) : (callFunc 100 #[p]).run Tryz.prog w = .ok (.enter 100 #[p]) w := by kernel_rfl
theorem step_top {ops' : Array Oper} {o : Oper} {a : Act} {w : World} {K : Act → World → Prop} {Q : Exit → Act → World → Prop} {E : Prop} (x : Operand) {p v : Value} (h : Calls Tryz.prog 99 #[p] w fun en w' => en = .returned v ∧ Grew w w') {t1 : TypeId}
    (hop : o.op = .call { callee := .value (.func 99), args := #[x], argTypes := #[t1] }) (hg : o.guard = none) (hx : a.eval x = p)
    (hk : ∀ w', Grew w w' → K (a.put o.dst v) w') :
    if Region.wanted o (yielded ops' a.tmps) = true then Oper.wp Tryz.prog o a w K Q else E :=
  step_callFk hop (by simp [Region.wanted, hg]) (args := #[p]) (by simp [hx]) (call_top _ w) h (by rintro e w' ⟨rfl, h1⟩; exact Or.inl ⟨_, rfl, hk w' h1⟩)
theorem step_heightV {ops' : Array Oper} {o : Oper} {a : Act} {w : World} {K : Act → World → Prop} {Q : Exit → Act → World → Prop} {E : Prop} (x : Operand) {p v : Value} (h : Calls Tryz.prog 100 #[p] w fun en w' => en = .returned v ∧ w' = w) {t1 : TypeId}
    (hop : o.op = .call { callee := .value (.func 100), args := #[x], argTypes := #[t1] }) (hg : o.guard = none) (hx : a.eval x = p)
    (hk : K (a.put o.dst v) w) :
    if Region.wanted o (yielded ops' a.tmps) = true then Oper.wp Tryz.prog o a w K Q else E :=
  step_callFk hop (by simp [Region.wanted, hg]) (args := #[p]) (by simp [hx]) (call_heightV _ w) h (by rintro e w' ⟨rfl, rfl⟩; exact Or.inl ⟨_, rfl, hk⟩)
theorem popD {B : Nat} {w : World} {C : Nat} {lv fv ov : Value} {lo : List LO} {fr : List Int} {ops : List VT} {fs : List FV} {x : FV} {g c : Nat} (h : CHK G B w C lv fv ov (.slice (some ⟨g, 0, none⟩) (fs.length + 1) c) lo fr ops (fs ++ [x])) (hd : x.dead = true) (hh : ops.length = x.height) :
    Calls Tryz.prog 62 #[.pointer (some ⟨C, 0, none⟩)] w fun en w' => en = .returned (.tuple #[VT0, .int .i64 0]) ∧ Grew w w' := by
  have C1 : Hid (∀ W, Grew w W → Calls Tryz.prog 49 #[.pointer (some ⟨C, 0, none⟩)] W fun en w' => en = .returned (.bool false) ∧ w' = W) := fun W gg => zeroMk (h.grew gg)
  have C2 : Hid (∀ W, Grew w W → Calls Tryz.prog 99 #[.pointer (some ⟨C, 0, none⟩)] W fun en w' => en = .returned x.v ∧ Grew W w') := fun W gg => topM (h.grew gg)
  have C3 : Hid (∀ W, Grew w W → Calls Tryz.prog 100 #[.pointer (some ⟨C, 5, none⟩)] W fun en w' => en = .returned (.int .i64 (ops.length : Int)) ∧ w' = W) := fun W gg => heightV_any (h.grew gg)
  obtain ⟨⟨ia, il, ic, hi⟩, ⟨oa, ol, oc, ho⟩⟩ := h.sl x (by simp)
  obtain ⟨op, inn, out, hx, ff, dd⟩ := x
  simp only at hi ho hd hh
  subst hi ho hd hh
  rw [FV.isAgg] at C2
  simp only at C2
  clear h
  generalize ops.length = N at *
  go_enter Tryz.func62, Tryz.ntmps62
  go_wp2_with fail
  refine (C1.out _ ((Grew.refl w).alloc _)).mono ?_
  rintro en w1 ⟨rfl, hw⟩
  obtain rfl := hw.symm
  go_wp2_with fail
  obtain ⟨w1, hw1⟩ : ∃ w1, w1 = w.alloc (.cells #[.int .i64 0, .bool false, .int .i64 0] 46) := ⟨_, rfl⟩
  have G1 : Hid (Grew w w1) := by rw [hw1]; exact (Grew.refl w).alloc _
  have N1 : Hid (w1.heap[w.heap.size]? = some (.cells #[.int .i64 0, .bool false, .int .i64 0] 46 (0, 0))) := by rw [hw1]; exact heap_alloc_last _ _
  rw [← hw1]
  clear hw1
  have hl1 := lt_of_obj N1.out
  go_region_law (first
    | (refine step_top (.tmp 10) (C2.out _ (G1.out.trans (by repeat (first | with_reducible exact Grew.refl _ | refine Grew.alloc ?_ _ | refine Grew.drewN ?_ _ | refine Grew.drew ?_)))) rfl rfl rfl ?_
       intro w2 g2
       have g2' : Grew w1 w2 := Grew.trans (by repeat (first | with_reducible exact Grew.refl _ | refine Grew.alloc ?_ _ | refine Grew.drewN ?_ _ | refine Grew.drew ?_)) g2
       have G2 := Hid.mk' (G1.out.trans g2')
       have N2 := Hid.mk' ((g2'.turn []).other N1.out (by simp))
       first
       | (have gz : Grew (w1.alloc (.cells #[.int .i64 0, NILS, NILS, .int .i64 0, .int .i64 0, .bool false] 80)) w2 := (by first | exact g2 | exact ((Grew.refl _).drew).trans g2 | exact ((Grew.refl _).drewN _).trans g2)
          obtain ⟨_, hlz, Bz⟩ := fresh6 gz
          obtain ⟨⟨s0, s1, s2, s3, s4, s5⟩, r0, r1, r2, r3, r4, r5⟩ := six Bz
          clear gz Bz)
       | skip
       clear g2 g2')
    | (refine step_heightV (.tmp 14) (C3.out _ (Grew.trans G2.out (by repeat (first | with_reducible exact Grew.refl _ | refine Grew.alloc ?_ _ | refine Grew.drewN ?_ _ | refine Grew.drew ?_)))) rfl rfl rfl ?_))
  all_goals
    have n0 := cell_of N2.out 0
    have n1 := cell_of N2.out 1
    have n2 := cell_of N2.out 2
    have z0 := free_of N2.out 0
    have z1 := free_of N2.out 1
    have z2 := free_of N2.out 2
    simp at n0 n1 n2
    have hl2 := lt_of_obj N2.out
    clear C1 C2 C3
    go_wp2_with fail
    refine bodyPost_ret (v := .tuple #[VT0, .int .i64 0]) (by simp [results, Tryz.results62, go_sem, n0, n1, n2, hl2, Nat.ne_of_lt hl2, Nat.ne_of_gt hl2]) rfl ?_
    refine ⟨rfl, ?_⟩
    repeat (first | with_reducible exact G2.out | refine Grew.set ?_ (by first | exact Nat.le_refl _ | (have := G1.out.2; simp; omega)) _ | refine Grew.alloc ?_ _ | refine Grew.drewN ?_ _ | refine Grew.drew ?_)
variable {G : Value → Prop}
theorem RowLo.at {B : Nat} {w : World} {v : Value} {l : List LO} (h : RowLo B w v l) {n : Nat} {x : LO} (hx : l[n]? = some x) : ∃ g c, v = .slice (some ⟨g, 0, none⟩) l.length c ∧ l.length ≤ c ∧ c ≤ maxLen ∧ B ≤ g ∧ (∃ cur : Array Value, w.heap[g]? = some (.cells cur 114 (0, 0))) ∧ ∀ j, j < 4 → w.cell? ⟨g, n * 4 + j, none⟩ = (LO.c x)[j]? := by
  have h0 := h
  have hn := (List.getElem?_eq_some_iff.1 hx).1
  obtain ⟨hl, ⟨_, h3⟩ | ⟨g, cap, cur, hv', hB, hg, h3, h4, h5, h6⟩⟩ := h
  · omega
  · refine ⟨g, cap, hv', h3, h4, hB, ⟨cur, hg⟩, fun j hj => ?_⟩
    rw [hv'] at h0
    have := World.ownsRow.cellAt h0 (n * 4 + j) (by omega)
    rw [this]
    exact flat_at LO.c 4 (fun _ => rfl) l n x j hx hj
theorem LO.get (x : LO) : (LO.c x)[0]? = some (.int .i64 x.kind.num) ∧ (LO.c x)[1]? = some (.bool x.kind.null) ∧ (LO.c x)[2]? = some (.int .i64 x.kind.heap) ∧ (LO.c x)[3]? = some (.bool x.set) := ⟨rfl, rfl, rfl, rfl⟩
variable {G : Value → Prop}
def LO.to (x : LO) (b : Bool) : LO := ⟨x.kind, b⟩
/- Blocks that are no checker's, no types', no locals', no numbers' stay. -/
def SL (w w' : World) : Prop := ∀ (k : Nat) (cs : Array Value) (t : TypeId) (f : Nat × Nat), t ≠ 63 → t ≠ 46 → t ≠ 114 → t ≠ 41 → w.heap[k]? = some (.cells cs t f) → w'.heap[k]? = some (.cells cs t f)
def NoS (w : World) (N : Nat) : Prop := ∀ (t : TypeId), t ≠ 63 → t ≠ 46 → t ≠ 114 → t ≠ 41 → NoT w N t
theorem SL.trans {a b c : World} (h : SL a b) (k : SL b c) : SL a c := fun x cs t f h1 h2 h3 h4 hx => k x cs t f h1 h2 h3 h4 (h x cs t f h1 h2 h3 h4 hx)
theorem Grew.sl {w w' : World} (g : Grew w w') : SL w w' := fun x cs t f _ _ _ _ hx => (g.turn []).other hx (by simp)
theorem Two.sl {C : Nat} {q : Value} {w w' : World} (t : Two C q w w') (hC : NoS w C) (hq : ∀ g, q.ownBlock = some g → NoS w g) : SL w w' := fun x cs ty f n1 n2 n3 n4 hx =>
  (t x (lt_of_obj hx) (fun h => hC ty n1 n2 n3 n4 _ _ (by rw [← h]; exact hx)) (fun h => hq x h.symm ty n1 n2 n3 n4 _ _ hx)).trans hx
theorem CHK.setV {B : Nat} {w : World} {C : Nat} {lv fv ov qv : Value} {lo : List LO} {fr : List Int} {ops : List VT} {fs : List FV} (h : CHK G B w C lv fv ov qv lo fr ops fs) {N : Nat} {cs : Array Value} (hN : w.heap[N]? = some (.cells cs 46 (0, 0))) (ho : ∀ g, ov.ownBlock = some g → g ≠ N) (j : Nat) (u : Value) : CHK G B (w.setCell ⟨N, j, none⟩ u) C lv fv ov qv lo fr ops fs := by
  obtain ⟨⟨gv, rv, a, b', co⟩, h1, h2, h3, h4, h5, h6⟩ := h
  refine ⟨⟨gv, rv, a, b', heap_other co (by rintro rfl; rw [hN] at co; simp [ckObj] at co) _⟩, h1, row_set h2 (NoT.of hN (by decide)) _, row_set h3 (NoT.of hN (by decide)) _, ?_, row_set h5 (NoT.of hN (by decide)) _, h6⟩
  obtain ⟨r1, r2 | ⟨g, cap, cur, hv, hB, hg, r3⟩⟩ := h4
  · exact ⟨r1, Or.inl r2⟩
  · exact ⟨r1, Or.inr ⟨g, cap, cur, hv, hB, heap_other hg (ho g (by rw [hv]; rfl)) u, r3⟩⟩
theorem oclosed_no {w : World} {v : Value} {L : List RT} (h : LR w v L) (hf : Fit L) (hc : closedP 0 L = false) :
    Calls Tryz.prog 111 #[v] w fun en w' => en = .returned (.tuple #[.pointer none, .bool false]) ∧ Grew w w' := by
  have C : Hid (Calls Tryz.prog 128 #[v] w fun en w' => ∃ p : Int, en = .returned (.tuple #[.int .i64 p, .int .i64 50]) ∧ Grew w w') := by
    have := closed_any h hf.sml
    rw [hc] at this
    exact this
  obtain ⟨va, vc, ev, _⟩ := h.one
  subst ev
  clear h hf hc
  go_enter Tryz.func111, Tryz.ntmps111
  go_wp2_with fail
  refine C.out.mono ?_
  rintro en w1 ⟨p, rfl, g1⟩
  have G1 : Hid (Grew w w1) := g1
  clear g1 C
  go_wp2_with fail
  go_ret2
  exact ⟨rfl, G1.out⟩
theorem PtS.at {B B' : Nat} {w0 w : World} {v : Value} {l : List SB} (h : PtS B w0 w v l) (g : Grew w0 w) (hB : B' ≤ B) : PtS B' w w v l := by
  obtain ⟨ps, h1, h2, h3⟩ := h
  exact ⟨ps, h1, row_low h2 hB, fun i p x a b => (h3 i p x a b).grew g⟩
theorem defines_any {w : World} {ob : Nat} {v iv : Value} {pa : Option Addr} {N pcp : Nat} {n : Int} (h : w.heap[ob]? = some (oobj v (.slice pa N pcp) iv)) :
    Calls Tryz.prog 136 #[.pointer (some ⟨ob, 0, none⟩), .int .i64 n] w fun en w' => en = .returned (.bool (decide (0 ≤ n) && decide (n < (N : Int)))) ∧ Grew w w' := by
  have c1 := cell_of h 1
  simp at c1
  have hl := lt_of_obj h
  clear h
  by_cases h0 : 0 ≤ n
  · have d0 : decide (0 ≤ n) = true := by simpa using h0
    by_cases h1 : n < (N : Int)
    · have d1 : decide (n < (N : Int)) = true := by simpa using h1
      rw [d0, d1]
      go_enter Tryz.func136, Tryz.ntmps136
      go_wp2_with fail
      go_ret
      exact ⟨rfl, Grew.refl _⟩
    · have d1 : decide (n < (N : Int)) = false := by simpa using h1
      rw [d0, d1]
      go_enter Tryz.func136, Tryz.ntmps136
      go_wp2_with fail
      go_ret
      exact ⟨rfl, Grew.refl _⟩
  · have d0 : decide (0 ≤ n) = false := by simpa using h0
    rw [d0]
    go_enter Tryz.func136, Tryz.ntmps136
    go_wp2_with fail
    go_ret
    exact ⟨rfl, Grew.refl _⟩
end Go.Proofs.YtnmbniojejckpaaGreatDoor
namespace Go.Proofs.YtnmbniojejckpaaGreatDoor
open Go.RowKit Go.Shelf
set_option linter.unusedVariables false
set_option linter.unusedSimpArgs false
/- What is no cells lies as it lay, but for X. -/
def KX (X : Nat → Prop) (A B : World) : Prop := A.heap.size ≤ B.heap.size ∧ ∀ (k : Nat) (o : Obj), A.heap[k]? = some o → o.isCells = false → ¬ X k → B.heap[k]? = some o
/- Cells lie as they lay, and so does all below N. -/
structure GN (N : Nat) (A B : World) : Prop where
  os : B.os = A.os
  tape : B.tape = A.tape
  output : B.output = A.output
  size : A.heap.size ≤ B.heap.size
  block : ∀ (k : Nat) (o : Obj), A.heap[k]? = some o → (k < N ∨ o.isCells = true) → B.heap[k]? = some o
/- Cells lie as they lay but for the order's object, of which the ids alone may turn. -/
def KC (ob : Nat) (A B : World) : Prop := (∀ (k : Nat) (o : Obj), k ≠ ob → A.heap[k]? = some o → o.isCells = true → B.heap[k]? = some o) ∧ ∀ v tv iv, A.heap[ob]? = some (oobj v tv iv) → ∃ iv', B.heap[ob]? = some (oobj v tv iv')
theorem KX.refl (X : Nat → Prop) (A : World) : KX X A A := ⟨Nat.le_refl _, fun _ _ h _ _ => h⟩
theorem KX.trans {X : Nat → Prop} {A B C : World} (h : KX X A B) (k : KX X B C) : KX X A C := ⟨Nat.le_trans h.1 k.1, fun i o h1 h2 h3 => k.2 i o (h.2 i o h1 h2 h3) h2 h3⟩
theorem KX.mono {X Y : Nat → Prop} {A B : World} (h : KX X A B) (hs : ∀ k, X k → Y k) : KX Y A B := ⟨h.1, fun i o h1 h2 h3 => h.2 i o h1 h2 (fun hx => h3 (hs i hx))⟩
theorem KX.put {X : Nat → Prop} (A : World) {l : Nat} (o : Obj) (h : X l) : KX X A (A.putObj l o) := ⟨by simp, fun i o' h1 _ h3 => (World.putObj_heap_other (fun e => h3 (by rw [e]; exact h))).trans h1⟩
theorem Grew.kx {A B : World} (g : Grew A B) (X : Nat → Prop) : KX X A B := ⟨g.2, fun k o h _ _ => g.other h⟩
theorem GN.refl (N : Nat) (A : World) : GN N A A := ⟨rfl, rfl, rfl, Nat.le_refl _, fun _ _ h _ => h⟩
theorem GN.trans {N : Nat} {A B C : World} (h : GN N A B) (k : GN N B C) : GN N A C := ⟨k.os.trans h.os, k.tape.trans h.tape, k.output.trans h.output, Nat.le_trans h.size k.size, fun i o h1 h2 => k.block i o (h.block i o h1 h2) h2⟩
theorem GN.mono {N M : Nat} {A B : World} (h : GN N A B) (hm : M ≤ N) : GN M A B := ⟨h.os, h.tape, h.output, h.size, fun i o h1 h2 => h.block i o h1 (h2.imp (fun h => by omega) id)⟩
theorem Grew.gn {A B : World} (g : Grew A B) (N : Nat) : GN N A B := ⟨g.1.os, g.1.tape, g.1.output, g.2, fun k o h _ => g.other h⟩
theorem GN.put {N : Nat} {A : World} {l : Nat} {o : Obj} (h : A.heap[l]? = some o) (ho : o.isCells = false) (hl : N ≤ l) (o' : Obj) : GN N A (A.putObj l o') :=
  ⟨rfl, rfl, rfl, by simp, fun k u h1 h2 => (World.putObj_heap_other (fun e => by
    subst e
    rw [h] at h1
    injection h1 with h1
    subst h1
    rcases h2 with h2 | h2
    · omega
    · rw [ho] at h2; cases h2)).trans h1⟩
theorem KC.refl (ob : Nat) (A : World) : KC ob A A := ⟨fun _ _ _ h _ => h, fun v tv iv h => ⟨iv, h⟩⟩
theorem KC.trans {ob : Nat} {A B C : World} (h : KC ob A B) (k : KC ob B C) : KC ob A C :=
  ⟨fun i o h0 h1 h2 => k.1 i o h0 (h.1 i o h0 h1 h2) h2, fun v tv iv h1 => by
    obtain ⟨iv', h2⟩ := h.2 v tv iv h1
    exact k.2 v tv iv' h2⟩
theorem GN.kc {N : Nat} {A B : World} (h : GN N A B) (ob : Nat) : KC ob A B := ⟨fun i o _ h1 h2 => h.block i o h1 (Or.inr h2), fun v tv iv h1 => ⟨iv, h.block _ _ h1 (Or.inr rfl)⟩⟩
theorem Grew.kc {A B : World} (g : Grew A B) (ob : Nat) : KC ob A B := (g.gn 0).kc ob
/- The contract of an iterator: what comes, one by one. -/
def SeqO (ob gf : Nat) (lb : Array Value) (xs : List Int) (w : World) : Prop :=
  ∀ (l : Nat) (X : Nat → Prop) (J Jx : List Int → World → Prop) (W : World), Grew w W → (∀ k, X k → k < W.heap.size) → (∀ s A B, J s A → GN W.heap.size A B → J s B) → (∀ s A B, Jx s A → GN W.heap.size A B → Jx s B) →
    (∀ pre x A, J pre A → (pre ++ [x]) <+: xs → YieldAt Fence.wide 0 Tryz.prog l #[.int .i64 x] A fun e B =>
      (e = .returned (.bool true) ∧ J (pre ++ [x]) B ∧ KC ob A B ∧ KX X A B) ∨ (e = .returned (.bool false) ∧ Jx (pre ++ [x]) B ∧ KX X A B)) →
    J [] W → Calls Tryz.prog gf (#[.func (.yield l) #[] #[]] ++ lb) W fun e B => (∃ v, e = .returned v) ∧ (J xs B ∨ ∃ pre, pre <+: xs ∧ Jx pre B)
/- How a body may be left. -/
def bpost (ob : Nat) (X : Nat → Prop) (I Ix : List Int → World → Prop) (xs : List Int) (A : World) : Exit → Act → World → Prop
  | .normal, _, B => KX X A B ∧ KC ob A B ∧ I xs B
  | .ret, _, B => KX X A B ∧ Ix xs B
  | _, _, _ => False
theorem range_core {ob gf l dv : Nat} {fn : FuncId} {lb : Array Value} {xs : List Int} {tmps : Array Value} {p : Tmp} {assign body : Code} {W1 : World} {X : Nat → Prop} {I Ix : List Int → World → Prop}
    (hl : W1.heap.size = l + 1) (hL : W1.heap[l]? = some (.loop { state := .ready, pending := none, fn := fn, tmps := tmps, params := #[p], assign := assign, body := body, defers := dv })) (hX : ∀ k, X k → k < l)
    (hseq : SeqO ob gf lb xs W1) (hI : ∀ s A B, I s A → GN l A B → I s B) (hIx : ∀ s A B, Ix s A → GN l A B → Ix s B) (h0 : I [] W1) (a1 : Int → Act)
    (ha : ∀ (x : Int) (W : World) (K : Act → World → Prop), K (a1 x) W → assign.wpIn (Fence.wide.inRound l) 0 Tryz.prog (Exit.then K (fun _ _ _ => False)) { tmps := tmps.setIfInBounds p (.int .i64 x), defers := [] } W)
    (hb : ∀ (pre : List Int) (x : Int) (A : World), I pre A → (pre ++ [x]) <+: xs → (∃ r, A.heap[l]? = some (.loop r)) → body.wpIn (Fence.wide.inRound l) 0 Tryz.prog (bpost ob X I Ix (pre ++ [x]) A) (a1 x) A) :
    Calls Tryz.prog gf (#[.func (.yield l) #[] #[]] ++ lb) W1 fun e B => (∃ v, e = .returned v) ∧ (∃ r c, B.heap[l]? = some (.loop r) ∧ r.state ≠ .busy ∧ r.pending = c ∧ ((c = none ∧ I xs B) ∨ ∃ pre, pre <+: xs ∧ c = some .ret ∧ Ix pre B)) := by
  obtain ⟨rec, hrec⟩ : ∃ rec : LoopState → Option Code → Loop, rec = fun st pe => { state := st, pending := pe, fn := fn, tmps := tmps, params := #[p], assign := assign, body := body, defers := dv } := ⟨_, rfl⟩
  have hL' : W1.heap[l]? = some (.loop (rec .ready none)) := by rw [hrec]; exact hL
  refine (hseq l (fun k => k = l ∨ X k) (fun pre A => I pre A ∧ A.heap[l]? = some (.loop (rec .ready none))) (fun pre A => Ix pre A ∧ A.heap[l]? = some (.loop (rec .done (some .ret)))) W1 (Grew.refl _) ?_ ?_ ?_ ?_ ⟨h0, hL'⟩).mono ?_
  · intro k hk
    rcases hk with rfl | hk
    · omega
    · have := hX k hk; omega
  · intro s A B hs hg
    exact ⟨hI s A B hs.1 (hg.mono (by omega)), hg.block _ _ hs.2 (Or.inl (by omega))⟩
  · intro s A B hs hg
    exact ⟨hIx s A B hs.1 (hg.mono (by omega)), hg.block _ _ hs.2 (Or.inl (by omega))⟩
  · rintro pre x A ⟨hi, hA⟩ hp
    have hy := run_yield (P := Tryz.prog) (args := #[.int .i64 x]) hA (by rw [hrec]; rfl)
    rw [hrec] at hy
    have hf : ((#[p] : Array Tmp).zip #[Value.int .i64 x]).foldl (fun t (q : Tmp × Value) => t.setIfInBounds q.1 q.2) tmps = tmps.setIfInBounds p (.int .i64 x) := by simp
    have hy' : (Instr.yield l #[.int .i64 x]).run Tryz.prog A = .ok (.round l fn (tmps.setIfInBounds p (.int .i64 x)) assign body) A := by rw [← hf]; exact hy
    refine ⟨fn, _, assign, body, hy', roundIn_of_wpIn trivial ?_⟩
    refine ha x A _ ?_
    refine ⟨_, run_beginRound hA (by rw [hrec]), ?_⟩
    have hlt := (Array.getElem?_eq_some_iff.1 hA).1
    have hB0 : ∀ o, (A.putObj l o).heap[l]? = some o := fun o => World.putObj_heap_same hlt
    have hg0 : ∀ o, GN l A (A.putObj l o) := fun o => GN.put hA rfl (Nat.le_refl _) o
    have hk0 : ∀ o, KX (fun k => k = l ∨ X k) A (A.putObj l o) := fun o => KX.put A o (Or.inl rfl)
    refine wpIn_mono (hb pre x _ (hI _ _ _ hi (hg0 _)) hp ⟨_, hB0 _⟩) ?_
    intro e a3 B hq
    cases e with
    | normal =>
      obtain ⟨h1, h2, h3⟩ := hq
      have hBl := h1.2 l _ (hB0 _) rfl (fun hx => by have := hX l hx; omega)
      have hE := run_endRound (P := Tryz.prog) none hBl
      refine ⟨_, _, hE, Or.inl ⟨rfl, ⟨hI _ _ _ h3 (GN.put hBl rfl (Nat.le_refl _) _), ?_⟩, ?_, ?_⟩⟩
      · rw [hrec]
        exact World.putObj_heap_same (Array.getElem?_eq_some_iff.1 hBl).1
      · exact (((hg0 _).kc ob).trans h2).trans ((GN.put (N := l) hBl rfl (Nat.le_refl _) _).kc ob)
      · exact ((hk0 _).trans (h1.mono (fun k hk => Or.inr hk))).trans (KX.put B _ (Or.inl rfl))
    | ret =>
      obtain ⟨h1, h3⟩ := hq
      have hBl := h1.2 l _ (hB0 _) rfl (fun hx => by have := hX l hx; omega)
      have hE := run_endRound (P := Tryz.prog) (some .ret) hBl
      refine ⟨_, _, hE, Or.inr ⟨rfl, ⟨hIx _ _ _ h3 (GN.put hBl rfl (Nat.le_refl _) _), ?_⟩, ?_⟩⟩
      · rw [hrec]
        exact World.putObj_heap_same (Array.getElem?_eq_some_iff.1 hBl).1
      · exact ((hk0 _).trans (h1.mono (fun k hk => Or.inr hk))).trans (KX.put B _ (Or.inl rfl))
    | exit id => exact hq.elim
    | goto t => exact hq.elim
    | panic c => exact hq.elim
    | outgrown => exact hq.elim
  · rintro e B ⟨hv, ⟨h1, h2⟩ | ⟨pre, hp, h1, h2⟩⟩
    · exact ⟨hv, _, _, h2, by rw [hrec]; simp, rfl, Or.inl ⟨by rw [hrec], h1⟩⟩
    · exact ⟨hv, _, _, h2, by rw [hrec]; simp, rfl, Or.inr ⟨pre, hp, by rw [hrec], h1⟩⟩
/- The statement, at an outermost loop. -/
theorem wp_rangeO {ob gf : Nat} {lb : Array Value} {xs : List Int} {g : Operand} {p : Tmp} {assign body : Code} {Q : Exit → Act → World → Prop} {a : Act} {w : World} {X : Nat → Prop} {I Ix : List Int → World → Prop}
    (hX : ∀ k, X k → k < w.heap.size) (hg : a.eval g = .func (.func gf) #[] lb) (eg : ∀ args w, (callFunc gf args).run Tryz.prog w = .ok (.enter gf args) w) (hseq : ∀ W, Grew w W → SeqO ob gf lb xs W)
    (hI : ∀ s A B, I s A → GN w.heap.size A B → I s B) (hIx : ∀ s A B, Ix s A → GN w.heap.size A B → Ix s B) (h0 : I [] w) (a1 : Int → Act)
    (ha : ∀ (l : Nat) (x : Int) (W : World) (K : Act → World → Prop), K (a1 x) W → assign.wpIn (Fence.wide.inRound l) 0 Tryz.prog (Exit.then K (fun _ _ _ => False)) { tmps := a.tmps.setIfInBounds p (.int .i64 x), defers := [] } W)
    (hb : ∀ (l : Nat) (pre : List Int) (x : Int) (A : World), w.heap.size ≤ l → I pre A → (pre ++ [x]) <+: xs → (∃ r, A.heap[l]? = some (.loop r)) → body.wpIn (Fence.wide.inRound l) 0 Tryz.prog (bpost ob X I Ix (pre ++ [x]) A) (a1 x) A)
    (hdone : ∀ (D : Nat) (W : World), w.heap.size ≤ D → I xs W → W.heap[D]? = some (.deferred (some [])) → Q .normal { a with defers := { target := .collected D, args := #[] } :: a.defers } W)
    (hstop : ∀ (D : Nat) (pre : List Int) (W : World), w.heap.size ≤ D → pre <+: xs → Ix pre W → W.heap[D]? = some (.deferred (some [])) → Code.ret.wpIn Fence.wide 0 Tryz.prog Q { a with defers := { target := .collected D, args := #[] } :: a.defers } W) :
    (Code.rangeFunc g #[p] assign body).wpIn Fence.wide 0 Tryz.prog Q a w := by
  refine wpIn_rangeFunc ?_
  intro fn hfn
  obtain ⟨W1, hW1⟩ : ∃ W1, (w.alloc (.deferred (some []))).alloc (.loop { state := .ready, pending := none, fn := fn, tmps := a.tmps, params := #[p], assign := assign, body := body, defers := w.heap.size }) = W1 := ⟨_, rfl⟩
  have hz : W1.heap.size = w.heap.size + 1 + 1 := by rw [← hW1]; simp
  have hL1 : W1.heap[w.heap.size + 1]? = some (.loop { state := .ready, pending := none, fn := fn, tmps := a.tmps, params := #[p], assign := assign, body := body, defers := w.heap.size }) := by
    rw [← hW1]
    have := World.alloc_heap_new (w.alloc (.deferred (some []))) (.loop { state := .ready, pending := none, fn := fn, tmps := a.tmps, params := #[p], assign := assign, body := body, defers := w.heap.size })
    rwa [World.size_alloc] at this
  have hD1 : W1.heap[w.heap.size]? = some (.deferred (some [])) := by
    rw [← hW1]; exact heap_alloc (World.alloc_heap_new w _) _
  have hG1 : Grew w W1 := by rw [← hW1]; exact ((Grew.refl w).alloc _).alloc _
  refine ⟨w.heap.size + 1, [{ target := .collected w.heap.size, args := #[] }], W1, { target := .fn (.func gf) lb, args := #[.func (.yield (w.heap.size + 1)) #[] #[]] }, W1, gf, #[.func (.yield (w.heap.size + 1)) #[] #[]] ++ lb, W1, ?_, ?_, ?_, ?_, fun h => (by cases h), ?_⟩
  · rw [← hW1]; exact run_enterLoop_outer _ _ _ _ _
  · simp only [resolve, hg]
    simp [go_sem]
  · intro f' hf'; trivial
  · simp [invoke, go_sem, eg]
  · refine callsIn_wide.2 ((range_core (X := X) (I := fun s A => I s A ∧ A.heap[w.heap.size]? = some (.deferred (some []))) (Ix := fun s A => Ix s A ∧ A.heap[w.heap.size]? = some (.deferred (some []))) hz hL1 (fun k hk => by have := hX k hk; omega) (hseq W1 hG1) ?_ ?_ ⟨hI _ _ _ h0 (hG1.gn _), hD1⟩ a1 (ha _) ?_).mono ?_)
    · intro s A B hs hg
      exact ⟨hI s A B hs.1 (hg.mono (by omega)), hg.block _ _ hs.2 (Or.inl (by omega))⟩
    · intro s A B hs hg
      exact ⟨hIx s A B hs.1 (hg.mono (by omega)), hg.block _ _ hs.2 (Or.inl (by omega))⟩
    · intro pre x A hi hp hr
      refine wpIn_mono (hb _ pre x A (by omega) hi.1 hp hr) ?_
      intro e a3 B hq
      cases e with
      | normal => exact ⟨hq.1, hq.2.1, hq.2.2, hq.1.2 _ _ hi.2 rfl (fun h => by have := hX _ h; omega)⟩
      | ret => exact ⟨hq.1, hq.2, hq.1.2 _ _ hi.2 rfl (fun h => by have := hX _ h; omega)⟩
      | exit id => exact hq.elim
      | goto t => exact hq.elim
      | panic c => exact hq.elim
      | outgrown => exact hq.elim
    · rintro e B ⟨⟨v, rfl⟩, r, c, hl, hs, hc, h⟩
      refine ⟨_, _, run_endLoop (P := Tryz.prog) hl hs, ?_⟩
      rw [hc]
      rcases h with ⟨rfl, h1, h2⟩ | ⟨pre, hp, rfl, h1, h2⟩
      · exact hdone _ _ (Nat.le_refl _) (hI _ _ _ h1 (GN.put hl rfl (by omega) _)) ((World.putObj_heap_other (by omega)).trans h2)
      · exact hstop _ pre _ (Nat.le_refl _) hp (hIx _ _ _ h1 (GN.put hl rfl (by omega) _)) ((World.putObj_heap_other (by omega)).trans h2)
/- The statement, in a round of another loop. -/
theorem wp_rangeI {ob gf l0 : Nat} {r0 : Loop} {lb : Array Value} {xs : List Int} {g : Operand} {p : Tmp} {assign body : Code} {Q : Exit → Act → World → Prop} {a : Act} {w : World} {X : Nat → Prop} {I Ix : List Int → World → Prop}
    (hl0 : w.heap[l0]? = some (.loop r0)) (hX : ∀ k, X k → k < w.heap.size) (hg : a.eval g = .func (.func gf) #[] lb) (eg : ∀ args w, (callFunc gf args).run Tryz.prog w = .ok (.enter gf args) w) (hseq : ∀ W, Grew w W → SeqO ob gf lb xs W)
    (hI : ∀ s A B, I s A → GN w.heap.size A B → I s B) (hIx : ∀ s A B, Ix s A → GN w.heap.size A B → Ix s B) (h0 : I [] w) (a1 : Int → Act)
    (ha : ∀ (l : Nat) (x : Int) (W : World) (K : Act → World → Prop), K (a1 x) W → assign.wpIn (Fence.wide.inRound l) 0 Tryz.prog (Exit.then K (fun _ _ _ => False)) { tmps := a.tmps.setIfInBounds p (.int .i64 x), defers := [] } W)
    (hb : ∀ (l : Nat) (pre : List Int) (x : Int) (A : World), w.heap.size ≤ l → I pre A → (pre ++ [x]) <+: xs → (∃ r, A.heap[l]? = some (.loop r)) → body.wpIn (Fence.wide.inRound l) 0 Tryz.prog (bpost ob X I Ix (pre ++ [x]) A) (a1 x) A)
    (hdone : ∀ (W : World), I xs W → Q .normal a W)
    (hstop : ∀ (pre : List Int) (W : World), pre <+: xs → Ix pre W → Code.ret.wpIn (Fence.wide.inRound l0) 0 Tryz.prog Q a W) :
    (Code.rangeFunc g #[p] assign body).wpIn (Fence.wide.inRound l0) 0 Tryz.prog Q a w := by
  refine wpIn_rangeFunc ?_
  intro fn hfn
  obtain ⟨W1, hW1⟩ : ∃ W1, w.alloc (.loop { state := .ready, pending := none, fn := fn, tmps := a.tmps, params := #[p], assign := assign, body := body, defers := r0.defers }) = W1 := ⟨_, rfl⟩
  have hz : W1.heap.size = w.heap.size + 1 := by rw [← hW1]; simp
  have hL1 : W1.heap[w.heap.size]? = some (.loop { state := .ready, pending := none, fn := fn, tmps := a.tmps, params := #[p], assign := assign, body := body, defers := r0.defers }) := by
    rw [← hW1]; exact World.alloc_heap_new w _
  have hG1 : Grew w W1 := by rw [← hW1]; exact (Grew.refl w).alloc _
  refine ⟨w.heap.size, [], W1, { target := .fn (.func gf) lb, args := #[.func (.yield w.heap.size) #[] #[]] }, W1, gf, #[.func (.yield w.heap.size) #[] #[]] ++ lb, W1, ?_, ?_, ?_, ?_, fun h => (by cases h), ?_⟩
  · rw [← hW1]; exact run_enterLoop_inner hl0 _ _ _ _ _
  · simp only [resolve, hg]
    simp [go_sem]
  · intro f' hf'; trivial
  · simp [invoke, go_sem, eg]
  · refine CallsIn.inRound l0 (callsIn_wide.2 ((range_core (X := X) (I := I) (Ix := Ix) hz hL1 hX (hseq W1 hG1) hI hIx (hI _ _ _ h0 (hG1.gn _)) a1 (ha _) (fun pre x A hi hp hr => hb _ pre x A (Nat.le_refl _) hi hp hr)).mono ?_))
    rintro e B ⟨⟨v, rfl⟩, r, c, hl, hs, hc, h⟩
    refine ⟨_, _, run_endLoop (P := Tryz.prog) hl hs, ?_⟩
    rw [hc]
    rcases h with ⟨rfl, h1⟩ | ⟨pre, hp, rfl, h1⟩
    · exact hdone _ (hI _ _ _ h1 (GN.put hl rfl (Nat.le_refl _) _))
    · exact hstop pre _ hp (hIx _ _ _ h1 (GN.put hl rfl (Nat.le_refl _) _))
end Go.Proofs.YtnmbniojejckpaaGreatDoor
