/-
  The reader of instructions: its block; the walks of fail, octet, below; no statement is proved here.
-/
import Derived.Test.YtohapnninjdlfaaGreatDoorRowM
import Derived.BigQuiet
import Derived.Test.YtohapnninjdlfaaGreatDoorInM
import Derived.Test.YtohapnninjdlfaaGreatDoorReadB
import Derived.Test.YtohapnninjdlfaaGreatDoorReaders
namespace Go.Proofs.YtohapnninjdlfaaGreatDoor
open Go.RowKit
set_option linter.unusedVariables false
set_option linter.unusedSimpArgs false

/- The cells (block, place, value) lie in blocks of W and are so in w'. -/
def Held (W w' : World) : List (Nat × Nat × Value) → Prop
  | [] => True
  | (b, j, v) :: l => (b < W.heap.size ∧ w'.cell? ⟨b, j, none⟩ = some v) ∧ Held W w' l
theorem Held.step {W w' w'' : World} (g0 : Grew W w') (g : Grew w' w'') : ∀ {l : List (Nat × Nat × Value)}, Held W w' l → Held W w'' l
  | [], _ => trivial
  | (b, j, v) :: l, ⟨⟨hb, hc⟩, h⟩ => ⟨⟨hb, by rw [g.1.cell (Nat.lt_of_lt_of_le hb g0.2)]; exact hc⟩, Held.step g0 g h⟩
def Ck (W : World) (l : List (Nat × Nat × Value)) (w' : World) : Prop := Grew W w' ∧ Held W w' l
theorem Ck.step {W : World} {l : List (Nat × Nat × Value)} {w' w'' : World} (h : Ck W l w') (g : Grew w' w'') : Ck W l w'' := ⟨h.1.trans g, Held.step h.1 g h.2⟩
theorem Ck.call {P : Program} {f : FuncId} {args : Array Value} {W : World} {l : List (Nat × Nat × Value)} {v : Value} {w' : World} (hc : Ck W l w')
    (h : Calls P f args w' fun e w'' => e = .returned v ∧ Grew w' w'') : Calls P f args w' fun e w'' => e = .returned v ∧ Ck W l w'' :=
  h.mono fun _ _ ⟨he, hg⟩ => ⟨he, hc.step hg⟩
theorem Ck.same {P : Program} {f : FuncId} {args : Array Value} {W : World} {l : List (Nat × Nat × Value)} {v : Value} {w' : World} (hc : Ck W l w')
    (h : Calls P f args w' fun e w'' => e = .returned v ∧ w'' = w') : Calls P f args w' fun e w'' => e = .returned v ∧ Ck W l w'' :=
  h.mono fun _ _ ⟨he, hg⟩ => ⟨he, by rw [hg]; exact hc⟩
theorem Held.drew {W : World} : ∀ {l : List (Nat × Nat × Value)}, Held W W l → Held W { W with drawn := W.drawn + 1 } l
  | [], _ => trivial
  | (b, j, v) :: l, ⟨⟨hb, hc⟩, h⟩ => ⟨⟨hb, hc⟩, Held.drew h⟩
theorem wp_region_ck {P : Program} {id : Nat} {Q : Exit → Act → World → Prop} {a : Act} {w : World} {l : List Oper} (c : List (Nat × Nat × Value)) (hm : P.follows .mixedOrders = true) (hB : Region.lexB .any l.toArray = true)
    (hc : Held w w c) (h : wpQuiet P l.toArray (Ck w c) (fun a' => ∀ w', Ck w c w' → Q .normal a' w') l a) : (Code.region id l.toArray true).wp P Q a w :=
  wp_region_quiet (C := Ck w c) hm hB ⟨(Grew.refl w).drew, hc.drew⟩ (by simpa using h)
end Go.Proofs.YtohapnninjdlfaaGreatDoor

namespace Go.Proofs.YtohapnninjdlfaaGreatDoor
open Go.RowKit
set_option linter.unusedVariables false
set_option linter.unusedSimpArgs false
set_option linter.constructorNameAsVariable false

/- The reader's block: where it stands and 0, or the place of the first fault and the fault. -/
def rdI (v : Value) (a e : Int) : Obj := .cells #[v, .int .i64 a, .int .i64 e] 47 (0, 0)
def StI (w : World) (b : Nat) (v : Value) (l : List Int) : Except (Nat × Nat) Nat → Prop
  | .ok p => w.heap[b]? = some (rdI v p 0) ∧ p ≤ l.length
  | .error (f, e) => w.heap[b]? = some (rdI v f e) ∧ e ≠ 0
structure DI (w : World) (b : Nat) (v : Value) (l : List Int) (st : Except (Nat × Nat) Nat) : Prop where
  st : StI w b v l st
  rd : Reads w v l
  byt : Byt l
  len : l.length ≤ 140737488351232
  tab : Tab w
  ne : 1 ≠ b
theorem DI.obj {w : World} {b : Nat} {v : Value} {l : List Int} {st : Except (Nat × Nat) Nat} (h : DI w b v l st) : ∃ a e, w.heap[b]? = some (rdI v a e) := by
  cases st with
  | ok p => exact ⟨_, _, h.st.1⟩
  | error x => obtain ⟨f, e⟩ := x; exact ⟨_, _, h.st.1⟩
theorem DI.lt {w : World} {b : Nat} {v : Value} {l : List Int} {st : Except (Nat × Nat) Nat} (h : DI w b v l st) : b < w.heap.size := by
  obtain ⟨a, e, ho⟩ := h.obj
  exact lt_of_obj ho
theorem DI.nob {w : World} {b : Nat} {v : Value} {l : List Int} {st : Except (Nat × Nat) Nat} (h : DI w b v l st) : NoB w b := by
  obtain ⟨a, e, ho⟩ := h.obj
  obtain ⟨sa, cap, rfl⟩ := h.rd.len
  intro j m
  rw [cell_of ho]
  rcases j with _ | _ | _ | j <;> simp
theorem DI.of {w0 w : World} {b : Nat} {v : Value} {l : List Int} {st0 st : Except (Nat × Nat) Nat} (h : DI w0 b v l st0) (t : Turn [b] w0 w) (hs : StI w b v l st) : DI w b v l st :=
  ⟨hs, h.rd.turn t (by intro x hx; simp at hx; subst hx; exact h.nob), h.byt, h.len, h.tab.turn t (by simp; exact h.ne), h.ne⟩
theorem StI.same {w w' : World} {b : Nat} {v : Value} {l : List Int} {st : Except (Nat × Nat) Nat} (h : StI w b v l st) (he : w'.heap[b]? = w.heap[b]?) : StI w' b v l st := by
  cases st with
  | ok p => exact ⟨he.trans h.1, h.2⟩
  | error x => obtain ⟨f, e⟩ := x; exact ⟨he.trans h.1, h.2⟩
theorem DI.grew {w w' : World} {b : Nat} {v : Value} {l : List Int} {st : Except (Nat × Nat) Nat} (h : DI w b v l st) (g : Grew w w') : DI w' b v l st :=
  h.of (g.turn [b]) (h.st.same (g.1.block b h.lt))
theorem DI.setN {w0 w : World} {b : Nat} {v : Value} {l : List Int} {st0 st : Except (Nat × Nat) Nat} (h0 : DI w0 b v l st0) (t : Turn [b] w0 w) (h : DI w b v l st) (N j : Nat) (hN : w0.heap.size ≤ N) (x : Value) : DI (w.setCell ⟨N, j, none⟩ x) b v l st :=
  h0.of (t.set (p := ⟨N, j, none⟩) (Or.inr hN) x) (h.st.same (Below.heap_setCell _ _ _ _ (by have := h0.lt; simp; omega)))
/- Only the reader has turned, and it stands so. -/
def FinI (b : Nat) (v : Value) (l : List Int) (w w' : World) (st : Except (Nat × Nat) Nat) : Prop := Turn [b] w w' ∧ DI w' b v l st
theorem FinI.mk_ {b : Nat} {v : Value} {l : List Int} {w w' : World} {st : Except (Nat × Nat) Nat} (t : Turn [b] w w') (u : DI w' b v l st) : FinI b v l w w' st := ⟨t, u⟩
theorem FinI.set {b : Nat} {v : Value} {l : List Int} {w w' : World} {st0 st : Except (Nat × Nat) Nat} (h : FinI b v l w w' st) (h0 : DI w b v l st0) {N j : Nat} (hN : w.heap.size ≤ N) {x : Value} : FinI b v l w (w'.setCell ⟨N, j, none⟩ x) st :=
  ⟨h.1.set (p := ⟨N, j, none⟩) (Or.inr hN) x, h0.setN h.1 h.2 N j hN x⟩
/- What a call answers of a reading; on a fault the answer may be any. -/
def AnI {α : Type} (enc : α → Value) (b : Nat) (v : Value) (l : List Int) (w : World) (r : RS α) (en : Ending) (w' : World) : Prop := match r with
  | .ok (x, q) => en = .returned (enc x) ∧ FinI b v l w w' (.ok q)
  | .error (f, e) => (∃ y, en = .returned (enc y)) ∧ FinI b v l w w' (.error (f, e))
def runI {α : Type} (R : Nat → RS α) : Except (Nat × Nat) Nat → RS α
  | .ok p => R p
  | .error e => .error e
theorem Calls.ier {α : Type} {enc : α → Value} {b : Nat} {v : Value} {l : List Int} {w : World} {r : RS α} {f e : Nat} {n : FuncId} {args : Array Value} (h : Calls Tryz.prog n args w (AnI enc b v l w r)) (hr : r = .error (f, e)) : Calls Tryz.prog n args w fun en w' => (∃ y, en = .returned (enc y)) ∧ FinI b v l w w' (.error (f, e)) := by subst hr; exact h
theorem Calls.iok {α : Type} {enc : α → Value} {b : Nat} {v : Value} {l : List Int} {w : World} {r : RS α} {x : α} {q : Nat} {n : FuncId} {args : Array Value} (h : Calls Tryz.prog n args w (AnI enc b v l w r)) (hr : r = .ok (x, q)) : Calls Tryz.prog n args w fun en w' => en = .returned (enc x) ∧ FinI b v l w w' (.ok q) := by subst hr; exact h
def failI (st : Except (Nat × Nat) Nat) (pl e : Nat) : Except (Nat × Nat) Nat := match st with
  | .ok _ => .error (pl, e)
  | .error x => .error x
set_option maxRecDepth 100000 in
theorem ifail_any {w : World} {b : Nat} {v : Value} {l : List Int} {st : Except (Nat × Nat) Nat} (h : DI w b v l st) (pl e : Nat) (he : e ≠ 0) :
    Calls Tryz.prog 39 #[.pointer (some ⟨b, 0, none⟩), .int .i64 (pl : Int), .int .i64 (e : Int)] w fun en w' => en = .returned (.tuple #[]) ∧ FinI b v l w w' (failI st pl e) := by
  have H : Hid (DI w b v l st) := h
  cases st with
  | ok p =>
    have c1 := cell_of h.st.1 1
    have c2 := cell_of h.st.1 2
    have z1 := free_of h.st.1 1
    have z2 := free_of h.st.1 2
    simp at c1 c2
    clear h
    go_enter Tryz.func39, Tryz.ntmps39
    go_wp2_with fail
    go_end0
    have t : Turn [b] w ((w.setCell ⟨b, 1, none⟩ (.int .i64 (pl : Int))).setCell ⟨b, 2, none⟩ (.int .i64 (e : Int))) := ((Turn.refl [b] w).set (Or.inl (by simp)) _).set (Or.inl (by simp)) _
    refine ⟨rfl, t, H.out.of t ⟨?_, he⟩⟩
    rw [heap_set (heap_set H.out.st.1 1 _) 2 _]
    simp [rdI]
  | error x =>
    obtain ⟨f, e0⟩ := x
    have c2 := cell_of h.st.1 2
    simp at c2
    have d : ((e0 : Int) == 0) = false := by have := h.st.2; simp; exact this
    clear h
    go_enter Tryz.func39, Tryz.ntmps39
    go_wp2_with fail
    go_end0
    exact ⟨rfl, Turn.refl _ _, H.out⟩
/- The same; on a fault the answer is the one of 0. -/
def AnZ (enc : Int → Value) (b : Nat) (v : Value) (l : List Int) (w : World) (r : RS Int) (en : Ending) (w' : World) : Prop := match r with
  | .ok (x, q) => en = .returned (enc x) ∧ FinI b v l w w' (.ok q)
  | .error (f, e) => en = .returned (enc 0) ∧ FinI b v l w w' (.error (f, e))
theorem Calls.zer {enc : Int → Value} {b : Nat} {v : Value} {l : List Int} {w : World} {r : RS Int} {f e : Nat} {n : FuncId} {args : Array Value} (h : Calls Tryz.prog n args w (AnZ enc b v l w r)) (hr : r = .error (f, e)) : Calls Tryz.prog n args w fun en w' => en = .returned (enc 0) ∧ FinI b v l w w' (.error (f, e)) := by subst hr; exact h
theorem Calls.zok {enc : Int → Value} {b : Nat} {v : Value} {l : List Int} {w : World} {r : RS Int} {x : Int} {q : Nat} {n : FuncId} {args : Array Value} (h : Calls Tryz.prog n args w (AnZ enc b v l w r)) (hr : r = .ok (x, q)) : Calls Tryz.prog n args w fun en w' => en = .returned (enc x) ∧ FinI b v l w w' (.ok q) := by subst hr; exact h
/- A byte. -/
def byteR (l : List Int) (p : Nat) : RS Int := atR l p fun c => .ok (c, p + 1)
theorem atI_in {α : Type} {l : List Int} {p : Nat} {k : Int → RS α} (h : p < l.length) : atR l p k = k (l.getD p 0) := by unfold atR; rw [if_pos h]
theorem atI_no {α : Type} {l : List Int} {p : Nat} {k : Int → RS α} (h : ¬ p < l.length) : atR l p k = .error (p, 3) := by unfold atR; rw [if_neg h]
set_option maxRecDepth 100000 in
set_option maxHeartbeats 1000000 in
theorem octet_any {w : World} {b : Nat} {v : Value} {l : List Int} {st : Except (Nat × Nat) Nat} (h : DI w b v l st) :
    Calls Tryz.prog 38 #[.pointer (some ⟨b, 0, none⟩)] w (AnZ (fun c => .int .u8 c) b v l w (runI (byteR l) st)) := by
  have H : Hid (DI w b v l st) := h
  have hb : b < w.heap.size := h.lt
  have hl := h.len
  cases st with
  | ok p =>
    have c0 := cell_of h.st.1 0
    have c1 := cell_of h.st.1 1
    have c2 := cell_of h.st.1 2
    have z1 := free_of h.st.1 1
    have hle := h.st.2
    simp at c0 c1 c2
    show Calls _ _ _ _ (AnZ _ _ _ _ _ (byteR l p))
    unfold byteR
    obtain ⟨a, cap, rfl, hlc, hm, _, h4⟩ := h.rd
    by_cases hp : p < l.length
    · rw [atI_in hp]
      show Calls _ _ _ _ (AnZ _ _ _ _ _ (.ok (l.getD p 0, p + 1)))
      obtain ⟨c, hcv⟩ : ∃ c, l.getD p 0 = c := ⟨_, rfl⟩
      rw [hcv]
      have HCV : Hid (l.getD p 0 = c) := hcv
      clear hcv
      obtain rfl | ⟨bb, off, rfl, hc⟩ := h4
      · simp at hp
      have hcell := hc p hp
      have hbb : b ≠ bb := by
        rintro rfl
        have := h.nob (off + p) (l.getD p 0)
        rw [hcell] at this
        exact this rfl
      have hd : ((p : Int) == (l.length : Int)) = false := by simp; omega
      have d2 : decide (p < l.length) = true := by simpa using hp
      clear h hc hcell
      go_enter Tryz.func38, Tryz.ntmps38
      go_wp2_with fail
      go_quiet (fail)
      go_wp2_with fail
      generalize hw2 : World.setCell _ _ _ = w2
      have t2 : Turn [b] w w2 := by rw [← hw2]; exact ((Turn.refl _ _).drewN _).set (Or.inl (by simp)) _
      have o2 : w2.heap[b]? = some (rdI (.slice (some ⟨bb, off, none⟩) l.length cap) ((p + 1 : Nat) : Int) 0) := by
        rw [← hw2, heap_set (heap_drewN H.out.st.1 _)]
        simp [rdI]
      have F2 : Hid (FinI b (.slice (some ⟨bb, off, none⟩) l.length cap) l w w2 (.ok (p + 1))) := ⟨t2, H.out.of t2 ⟨o2, by omega⟩⟩
      have hcell : w2.cell? ⟨bb, off + p, none⟩ = some (.int .u8 c) := by
        rw [← HCV.out]
        obtain ⟨a2, cap2, hv, _, _, _, h4⟩ := F2.out.2.rd
        injection hv with e1 e2 e3
        subst e1 e3
        obtain rfl | ⟨b2, off2, ha, hc2⟩ := h4
        · simp at hp
        · injection ha with ha
          injection ha with e4 e5 e6
          subst e4 e5
          exact hc2 p hp
      have e0 := cell_of o2 0
      have e1 := cell_of o2 1
      simp at e0 e1
      clear hw2 t2 o2
      go_quiet (fail)
      go_wp2_with fail
      go_ret
      exact ⟨rfl, F2.out.1.drewN _, F2.out.2.grew ((Grew.refl _).drewN _)⟩
    · rw [atI_no hp]
      obtain rfl : p = l.length := by omega
      clear h h4
      go_enter Tryz.func38, Tryz.ntmps38
      go_wp2_with fail
      go_quiet (fail)
      go_wp2_with fail
      refine (ifail_any (H.out.grew ((Grew.refl w).drewN _)) l.length 3 (by decide)).mono ?_
      rintro en w1 ⟨rfl, t1, s1⟩
      have F1 : Hid (FinI b (.slice a l.length cap) l w w1 (.error (l.length, 3))) := ⟨((Turn.refl _ _).drewN _).trans t1, s1⟩
      have k2 := cell_of s1.st.1 2
      simp at k2
      clear t1 s1
      go_wp2_with fail
      go_ret
      exact ⟨rfl, F1.out⟩
  | error x =>
    obtain ⟨f, e⟩ := x
    have c0 := cell_of h.st.1 0
    have c1 := cell_of h.st.1 1
    have c2 := cell_of h.st.1 2
    simp at c0 c1 c2
    have dn : ((e : Int) != 0) = true := by have := h.st.2; simp; exact this
    have de : ((e : Int) == 0) = false := by have := h.st.2; simp; exact this
    obtain ⟨a, cap, rfl⟩ := h.rd.len
    clear h
    by_cases hp : f = l.length
    · subst hp
      go_enter Tryz.func38, Tryz.ntmps38
      go_wp2_with fail
      go_quiet (fail)
      go_wp2_with fail
      refine (ifail_any (H.out.grew ((Grew.refl w).drewN _)) l.length 3 (by decide)).mono ?_
      rintro en w1 ⟨rfl, t1, s1⟩
      have F1 : Hid (FinI b (.slice a l.length cap) l w w1 (.error (l.length, e))) := ⟨((Turn.refl _ _).drewN _).trans t1, s1⟩
      have k2 := cell_of s1.st.1 2
      simp at k2
      clear t1 s1
      go_wp2_with fail
      go_ret
      exact ⟨rfl, F1.out⟩
    · have hd : ((f : Int) == (l.length : Int)) = false := by simp; omega
      go_enter Tryz.func38, Tryz.ntmps38
      go_wp2_with fail
      go_quiet (fail)
      go_wp2_with fail
      go_ret
      exact ⟨rfl, (Turn.refl _ _).drewN _, H.out.grew ((Grew.refl w).drewN _)⟩
end Go.Proofs.YtohapnninjdlfaaGreatDoor
