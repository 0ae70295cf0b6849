/-
  The document's reading of instructions: numbers, heap types, blocks, value types; no statement is proved here.
-/
import Derived.Test.YtohapnninjdlfaaGreatDoorInT
import Derived.Test.YtohapnninjdlfaaGreatDoorDBlk
import Derived.Test.YtohapnninjdlfaaGreatDoorDTop
namespace Go.Proofs.YtohapnninjdlfaaGreatDoor
open Go.RowKit
set_option linter.unusedVariables false
set_option linter.unusedSimpArgs false
set_option linter.constructorNameAsVariable false

/- The reading's block. -/
def rdg9 (v : Value) (a pl e : Int) : Obj := .cells #[v, .int .i64 a, .int .i64 pl, .int .i64 e] 51 (0, 0)
def St9 (w : World) (b : Nat) (v : Value) (l : List Int) : Except (Nat × Nat) Nat → Prop
  | .ok p => w.heap[b]? = some (rdg9 v p 0 0) ∧ p ≤ l.length
  | .error (f, e) => ∃ a : Nat, w.heap[b]? = some (rdg9 v a f e) ∧ a ≤ l.length ∧ e ≠ 0
structure D9 (w : World) (b : Nat) (v : Value) (l : List Int) (st : Except (Nat × Nat) Nat) : Prop where
  st : St9 w b v l st
  rd : Reads w v l
  byt : Byt l
  len : l.length ≤ 140737488351232
theorem D9.obj {w : World} {b : Nat} {v : Value} {l : List Int} {st : Except (Nat × Nat) Nat} (h : D9 w b v l st) : ∃ a pl e, w.heap[b]? = some (rdg9 v a pl e) := by
  cases st with
  | ok p => exact ⟨_, _, _, h.st.1⟩
  | error x => obtain ⟨f, e⟩ := x; obtain ⟨a, h1, _⟩ := h.st; exact ⟨_, _, _, h1⟩
theorem D9.lt {w : World} {b : Nat} {v : Value} {l : List Int} {st : Except (Nat × Nat) Nat} (h : D9 w b v l st) : b < w.heap.size := by
  obtain ⟨a, pl, e, ho⟩ := h.obj
  exact lt_of_obj ho
theorem D9.nob {w : World} {b : Nat} {v : Value} {l : List Int} {st : Except (Nat × Nat) Nat} (h : D9 w b v l st) : NoB w b := by
  obtain ⟨a, pl, e, ho⟩ := h.obj
  obtain ⟨sa, cap, rfl⟩ := h.rd.len
  intro j m
  rw [cell_of ho]
  rcases j with _ | _ | _ | _ | j <;> simp
theorem D9.no {w : World} {b : Nat} {v : Value} {l : List Int} {st : Except (Nat × Nat) Nat} (h : D9 w b v l st) {e : TypeId} (he : 51 ≠ e) : ∀ x ∈ [b], NoT w x e := by
  intro x hx
  obtain ⟨a, pl, e', ho⟩ := h.obj
  simp at hx
  subst hx
  exact NoT.of ho he
theorem D9.of {w0 w : World} {b : Nat} {v : Value} {l : List Int} {st0 st : Except (Nat × Nat) Nat} (h : D9 w0 b v l st0) (t : Turn [b] w0 w) (hs : St9 w b v l st) : D9 w b v l st :=
  ⟨hs, h.rd.turn t (by intro x hx; simp at hx; subst hx; exact h.nob), h.byt, h.len⟩
theorem St9.same {w w' : World} {b : Nat} {v : Value} {l : List Int} {st : Except (Nat × Nat) Nat} (h : St9 w b v l st) (he : w'.heap[b]? = w.heap[b]?) : St9 w' b v l st := by
  cases st with
  | ok p => exact ⟨he.trans h.1, h.2⟩
  | error x => obtain ⟨f, e⟩ := x; obtain ⟨a, h1, h2⟩ := h; exact ⟨a, he.trans h1, h2⟩
theorem D9.grew {w w' : World} {b : Nat} {v : Value} {l : List Int} {st : Except (Nat × Nat) Nat} (h : D9 w b v l st) (g : Grew w w') : D9 w' b v l st :=
  h.of (g.turn [b]) (h.st.same (g.1.block b h.lt))
theorem D9.setN {w0 w : World} {b : Nat} {v : Value} {l : List Int} {st0 st : Except (Nat × Nat) Nat} (h0 : D9 w0 b v l st0) (t : Turn [b] w0 w) (h : D9 w b v l st) (N j : Nat) (hN : w0.heap.size ≤ N) (x : Value) : D9 (w.setCell ⟨N, j, none⟩ x) b v l st :=
  h0.of (t.set (p := ⟨N, j, none⟩) (Or.inr hN) x) (h.st.same (Below.heap_setCell _ _ _ _ (by have := h0.lt; simp; omega)))
/- Only the reading has turned, and it stands so. -/
def Fin9 (b : Nat) (v : Value) (l : List Int) (w w' : World) (st : Except (Nat × Nat) Nat) : Prop := Turn [b] w w' ∧ D9 w' b v l st
theorem Fin9.mk_ {b : Nat} {v : Value} {l : List Int} {w w' : World} {st : Except (Nat × Nat) Nat} (t : Turn [b] w w') (u : D9 w' b v l st) : Fin9 b v l w w' st := ⟨t, u⟩
theorem Fin9.set {b : Nat} {v : Value} {l : List Int} {w w' : World} {st0 st : Except (Nat × Nat) Nat} (h : Fin9 b v l w w' st) (h0 : D9 w b v l st0) {N j : Nat} (hN : w.heap.size ≤ N) {x : Value} : Fin9 b v l w (w'.setCell ⟨N, j, none⟩ x) st :=
  ⟨h.1.set (p := ⟨N, j, none⟩) (Or.inr hN) x, h0.setN h.1 h.2 N j hN x⟩
set_option maxRecDepth 100000 in
theorem fail9_any {w : World} {b : Nat} {v : Value} {l : List Int} {st : Except (Nat × Nat) Nat} (h : D9 w b v l st) (pl e : Nat) (he : e ≠ 0) :
    Calls Tryz.prog 33 #[.pointer (some ⟨b, 0, none⟩), .int .i64 (pl : Int), .int .i64 (e : Int)] w fun en w' => en = .returned (.tuple #[]) ∧ Fin9 b v l w w' (failI st pl e) := by
  have H : Hid (D9 w b v l st) := h
  cases st with
  | ok p =>
    have c3 := cell_of h.st.1 3
    have c2 := cell_of h.st.1 2
    have z2 := free_of h.st.1 2
    have z3 := free_of h.st.1 3
    simp at c2 c3
    clear h
    go_enter Tryz.func33, Tryz.ntmps33
    go_wp2_with fail
    go_end0
    have t : Turn [b] w ((w.setCell ⟨b, 2, none⟩ (.int .i64 (pl : Int))).setCell ⟨b, 3, none⟩ (.int .i64 (e : Int))) := ((Turn.refl [b] w).set (Or.inl (by simp)) _).set (Or.inl (by simp)) _
    refine ⟨rfl, t, H.out.of t ⟨p, ?_, H.out.st.2, he⟩⟩
    rw [heap_set (heap_set H.out.st.1 2 _) 3 _]
    simp [rdg9]
  | error x =>
    obtain ⟨f, e0⟩ := x
    obtain ⟨a, ho, ha, he0⟩ := h.st
    have c3 := cell_of ho 3
    simp at c3
    have d : ((e0 : Int) == 0) = false := by simp; exact he0
    clear h ho
    go_enter Tryz.func33, Tryz.ntmps33
    go_wp2_with fail
    go_end0
    exact ⟨rfl, Turn.refl _ _, H.out⟩
/- What a call of the reading answers: one fact for both ends. -/
def An9 {α : Type} (enc : α → Value) (b : Nat) (v : Value) (l : List Int) (w : World) (r : RS α) (en : Ending) (w' : World) : Prop := ∃ y st, en = .returned (enc y) ∧ Fin9 b v l w w' st ∧ TieI r y st
theorem St9.made {w : World} {b : Nat} {v : Value} {l : List Int} {f : Nat} (ho : w.heap[b]? = some (rdg9 v (f : Int) 0 0)) (h : f ≤ l.length) : St9 w b v l (.ok f) := ⟨ho, h⟩
end Go.Proofs.YtohapnninjdlfaaGreatDoor

namespace Go.Proofs.YtohapnninjdlfaaGreatDoor
open Go.RowKit
set_option linter.unusedVariables false
set_option linter.unusedSimpArgs false
set_option linter.constructorNameAsVariable false

theorem num_ways {b : Nat} {sg : Bool} {l : List Int} {p : Nat} (hp : p ≤ l.length) : ∃ (y : Int) (f e : Nat) (st : Except (Nat × Nat) Nat), rd b sg l p l.length = (y, (f : Int), (e : Int)) ∧ TieI (numR b sg l p) y st ∧ ((st = .ok f ∧ e = 0 ∧ f ≤ l.length) ∨ (st = .error (f, e) ∧ e ≠ 0)) := by
  rcases numR_ways (b := b) (sg := sg) hp with ⟨n, q, hr, h1, h2, h3⟩ | ⟨n, f, e, hr, h1, h2, h3, h4⟩
  · exact ⟨n, q, 0, .ok q, hr, h3, Or.inl ⟨rfl, rfl, h2⟩⟩
  · exact ⟨n, f, e, .error (f, e), hr, h4, Or.inr ⟨rfl, by omega⟩⟩
theorem fix_ways {k : Nat} {l : List Int} {p : Nat} (hp : p ≤ l.length) : ∃ (y : Int) (f e : Nat) (st : Except (Nat × Nat) Nat), fx k l p l.length = (y, (f : Int), (e : Int)) ∧ TieI (fixR k l p) y st ∧ ((st = .ok f ∧ e = 0 ∧ f ≤ l.length) ∨ (st = .error (f, e) ∧ e ≠ 0)) := by
  rcases fixR_ways (k := k) hp with ⟨n, q, hr, h1, h2, h3⟩ | ⟨n, f, e, hr, h1, h2, h3, h4⟩
  · exact ⟨n, q, 0, .ok q, hr, h3, Or.inl ⟨rfl, rfl, h2⟩⟩
  · exact ⟨n, f, e, .error (f, e), hr, h4, Or.inr ⟨rfl, by omega⟩⟩
set_option maxRecDepth 100000 in
set_option maxHeartbeats 2000000 in
theorem d9u32_any {w : World} {b : Nat} {v : Value} {l : List Int} {st : Except (Nat × Nat) Nat} (h : D9 w b v l st) :
    Calls Tryz.prog 24 #[.pointer (some ⟨b, 0, none⟩)] w (An9 (fun y => .int .u32 y) b v l w (runI (u32R l) st)) := by
  have H : Hid (D9 w b v l st) := h
  have hb : b < w.heap.size := h.lt
  have hl := h.len
  cases st with
  | error x =>
    obtain ⟨f, e⟩ := x
    obtain ⟨a0, ho, ha, he0⟩ := h.st
    have c3 := cell_of ho 3
    simp at c3
    have de : ((e : Int) != 0) = true := by simp; exact he0
    clear h ho
    go_enter Tryz.func24, Tryz.ntmps24
    go_wp2_with fail
    go_ret
    exact ⟨0, .error (f, e), rfl, ⟨Turn.refl _ _, H.out⟩, rfl⟩
  | ok p =>
    have c0 := cell_of h.st.1 0
    have c1 := cell_of h.st.1 1
    have c3 := cell_of h.st.1 3
    have z1 := free_of h.st.1 1
    have hle := h.st.2
    have hB := h.byt
    simp at c0 c1 c3
    have HC : Hid (∀ w1, Grew w w1 → Calls Tryz.prog 58 #[v, .int .i64 (p : Int), .int .i64 (l.length : Int), .int .i64 32, .bool false] w1 fun en w' => en = .returned (.tuple #[.int .u64 (rd 32 false l p l.length).1, .int .i64 (rd 32 false l p l.length).2.1, .int .i64 (rd 32 false l p l.length).2.2]) ∧ Grew w1 w') := fun w1 g => (num32u_any v l (p : Int) (l.length : Int) w1 (g.reads h.rd) hB hl).mono fun en w2 ⟨h1, h2⟩ => ⟨h1, by rw [h2]; exact Grew.refl _⟩
    obtain ⟨y, f, e, st', ht, hti, hw⟩ := num_ways (b := 32) (sg := false) hle
    rw [ht] at HC
    
    simp only at HC
    have HT : Hid (TieI (u32R l p) y st') := hti
    obtain ⟨a, cap, rfl⟩ := h.rd.len
    rcases hw with ⟨rfl, rfl, hq⟩ | ⟨rfl, he⟩
    · have hen : IntKind.u32.wrap y = y := by have := u32_bd hB hle (show u32R l p = .ok (y, f) from HT.out); rw [IntKind.wrap_u32]; omega
      clear h ht hti
      go_enter Tryz.func24, Tryz.ntmps24
      go_wp2_with fail
      refine wp_region_ck [(b, 0, .slice a l.length cap), (b, 1, .int .i64 p)] (by kernel_rfl) (by kernel_rfl) ⟨⟨hb, c0⟩, ⟨hb, c1⟩, trivial⟩ ?_
      repeat (first
        | go_big_quiet_skip
        | (go_big_quiet_want
           go_big_quiet_op
           first
           | go_big_quiet_on
           | (refine ⟨_, fun _ _ => rfl, ?_⟩; go_big_quiet_on)
           | (refine ⟨.slice a l.length cap, fun w' hw' => ?_, ?_⟩
              · (obtain ⟨_, ⟨_, hc0⟩, ⟨_, hc1⟩, _⟩ := hw'; go_simp; done)
              go_big_quiet_on)
           | (refine ⟨.int .i64 p, fun w' hw' => ?_, ?_⟩
              · (obtain ⟨_, ⟨_, hc0⟩, ⟨_, hc1⟩, _⟩ := hw'; go_simp; done)
              go_big_quiet_on)
           | (apply Exists.intro
              refine ⟨fun w' hw' => ?_, ?_⟩
              · exact hw'.call (HC.out _ hw'.1)
              go_big_quiet_on)))
      refine wpQuiet_nil ?_
      rintro w3 ⟨g3, _⟩
      have G3 : Hid (Grew w w3) := g3
      have hBb := (G3.out.turn []).other H.out.st.1 (by simp)
      have m1 := cell_of hBb 1
      have n1 := free_of hBb 1
      simp at m1
      have HB : Hid (w3.heap[b]? = some (rdg9 (.slice a l.length cap) (p : Int) 0 0)) := hBb
      clear g3 hBb c0 c1
      go_wp2_with fail
      go_ret
      refine ⟨y, .ok f, ?_, ?_, HT.out⟩
      · first | rfl | (rw [hen]; done) | (rw [hen])
      refine (fun t => ⟨t, H.out.of t ⟨by rw [heap_set HB.out 1 _]; simp [rdg9], hq⟩⟩) ?_
      exact (G3.out.turn _).set (Or.inl (by simp)) _
    · have de : ((e : Int) != 0) = true := by simp; exact he
      clear h ht hti
      go_enter Tryz.func24, Tryz.ntmps24
      go_wp2_with fail
      refine wp_region_ck [(b, 0, .slice a l.length cap), (b, 1, .int .i64 p)] (by kernel_rfl) (by kernel_rfl) ⟨⟨hb, c0⟩, ⟨hb, c1⟩, trivial⟩ ?_
      repeat (first
        | go_big_quiet_skip
        | (go_big_quiet_want
           go_big_quiet_op
           first
           | go_big_quiet_on
           | (refine ⟨_, fun _ _ => rfl, ?_⟩; go_big_quiet_on)
           | (refine ⟨.slice a l.length cap, fun w' hw' => ?_, ?_⟩
              · (obtain ⟨_, ⟨_, hc0⟩, ⟨_, hc1⟩, _⟩ := hw'; go_simp; done)
              go_big_quiet_on)
           | (refine ⟨.int .i64 p, fun w' hw' => ?_, ?_⟩
              · (obtain ⟨_, ⟨_, hc0⟩, ⟨_, hc1⟩, _⟩ := hw'; go_simp; done)
              go_big_quiet_on)
           | (apply Exists.intro
              refine ⟨fun w' hw' => ?_, ?_⟩
              · exact hw'.call (HC.out _ hw'.1)
              go_big_quiet_on)))
      refine wpQuiet_nil ?_
      rintro w3 ⟨g3, _⟩
      have G3 : Hid (Grew w w3) := g3
      have D3 : Hid (D9 w3 b (.slice a l.length cap) l (.ok p)) := H.out.grew G3.out
      clear g3 c0 c1
      go_wp2_with fail
      refine (fail9_any D3.out f e he).mono ?_
      rintro en w4 ⟨rfl, t4, s4⟩
      have F4 : Hid (Fin9 b (.slice a l.length cap) l w w4 (.error (f, e))) := ⟨(G3.out.turn _).trans t4, s4⟩
      clear t4 s4
      go_wp2_with fail
      go_ret
      exact ⟨0, .error (f, e), rfl, F4.out, HT.out⟩
set_option maxRecDepth 100000 in
set_option maxHeartbeats 2000000 in
theorem d9numI_any {w : World} {b : Nat} {v : Value} {l : List Int} {st : Except (Nat × Nat) Nat} (h : D9 w b v l st) :
    Calls Tryz.prog 28 #[.pointer (some ⟨b, 0, none⟩), .int .i64 32, .bool true] w (An9 (fun y => .int .u64 y) b v l w (runI (numR 32 true l) st)) := by
  have H : Hid (D9 w b v l st) := h
  have hb : b < w.heap.size := h.lt
  have hl := h.len
  cases st with
  | error x =>
    obtain ⟨f, e⟩ := x
    obtain ⟨a0, ho, ha, he0⟩ := h.st
    have c3 := cell_of ho 3
    simp at c3
    have de : ((e : Int) != 0) = true := by simp; exact he0
    clear h ho
    go_enter Tryz.func28, Tryz.ntmps28
    go_wp2_with fail
    go_ret
    exact ⟨0, .error (f, e), rfl, ⟨Turn.refl _ _, H.out⟩, rfl⟩
  | ok p =>
    have c0 := cell_of h.st.1 0
    have c1 := cell_of h.st.1 1
    have c3 := cell_of h.st.1 3
    have z1 := free_of h.st.1 1
    have hle := h.st.2
    have hB := h.byt
    simp at c0 c1 c3
    have HC : Hid (∀ w1, Grew w w1 → Calls Tryz.prog 58 #[v, .int .i64 (p : Int), .int .i64 (l.length : Int), .int .i64 32, .bool true] w1 fun en w' => en = .returned (.tuple #[.int .u64 (rd 32 true l p l.length).1, .int .i64 (rd 32 true l p l.length).2.1, .int .i64 (rd 32 true l p l.length).2.2]) ∧ Grew w1 w') := fun w1 g => (num32s_any v l (p : Int) (l.length : Int) w1 (g.reads h.rd) hB hl).mono fun en w2 ⟨h1, h2⟩ => ⟨h1, by rw [h2]; exact Grew.refl _⟩
    obtain ⟨y, f, e, st', ht, hti, hw⟩ := num_ways (b := 32) (sg := true) hle
    rw [ht] at HC
    
    simp only at HC
    have HT : Hid (TieI (numR 32 true l p) y st') := hti
    obtain ⟨a, cap, rfl⟩ := h.rd.len
    rcases hw with ⟨rfl, rfl, hq⟩ | ⟨rfl, he⟩
    · skip
      clear h ht hti
      go_enter Tryz.func28, Tryz.ntmps28
      go_wp2_with fail
      refine wp_region_ck [(b, 0, .slice a l.length cap), (b, 1, .int .i64 p)] (by kernel_rfl) (by kernel_rfl) ⟨⟨hb, c0⟩, ⟨hb, c1⟩, trivial⟩ ?_
      repeat (first
        | go_big_quiet_skip
        | (go_big_quiet_want
           go_big_quiet_op
           first
           | go_big_quiet_on
           | (refine ⟨_, fun _ _ => rfl, ?_⟩; go_big_quiet_on)
           | (refine ⟨.slice a l.length cap, fun w' hw' => ?_, ?_⟩
              · (obtain ⟨_, ⟨_, hc0⟩, ⟨_, hc1⟩, _⟩ := hw'; go_simp; done)
              go_big_quiet_on)
           | (refine ⟨.int .i64 p, fun w' hw' => ?_, ?_⟩
              · (obtain ⟨_, ⟨_, hc0⟩, ⟨_, hc1⟩, _⟩ := hw'; go_simp; done)
              go_big_quiet_on)
           | (apply Exists.intro
              refine ⟨fun w' hw' => ?_, ?_⟩
              · exact hw'.call (HC.out _ hw'.1)
              go_big_quiet_on)))
      refine wpQuiet_nil ?_
      rintro w3 ⟨g3, _⟩
      have G3 : Hid (Grew w w3) := g3
      have hBb := (G3.out.turn []).other H.out.st.1 (by simp)
      have m1 := cell_of hBb 1
      have n1 := free_of hBb 1
      simp at m1
      have HB : Hid (w3.heap[b]? = some (rdg9 (.slice a l.length cap) (p : Int) 0 0)) := hBb
      clear g3 hBb c0 c1
      go_wp2_with fail
      go_ret
      refine ⟨y, .ok f, ?_, ?_, HT.out⟩
      · first | rfl | (rw [hen]; done) | (rw [hen])
      refine (fun t => ⟨t, H.out.of t ⟨by rw [heap_set HB.out 1 _]; simp [rdg9], hq⟩⟩) ?_
      exact (G3.out.turn _).set (Or.inl (by simp)) _
    · have de : ((e : Int) != 0) = true := by simp; exact he
      clear h ht hti
      go_enter Tryz.func28, Tryz.ntmps28
      go_wp2_with fail
      refine wp_region_ck [(b, 0, .slice a l.length cap), (b, 1, .int .i64 p)] (by kernel_rfl) (by kernel_rfl) ⟨⟨hb, c0⟩, ⟨hb, c1⟩, trivial⟩ ?_
      repeat (first
        | go_big_quiet_skip
        | (go_big_quiet_want
           go_big_quiet_op
           first
           | go_big_quiet_on
           | (refine ⟨_, fun _ _ => rfl, ?_⟩; go_big_quiet_on)
           | (refine ⟨.slice a l.length cap, fun w' hw' => ?_, ?_⟩
              · (obtain ⟨_, ⟨_, hc0⟩, ⟨_, hc1⟩, _⟩ := hw'; go_simp; done)
              go_big_quiet_on)
           | (refine ⟨.int .i64 p, fun w' hw' => ?_, ?_⟩
              · (obtain ⟨_, ⟨_, hc0⟩, ⟨_, hc1⟩, _⟩ := hw'; go_simp; done)
              go_big_quiet_on)
           | (apply Exists.intro
              refine ⟨fun w' hw' => ?_, ?_⟩
              · exact hw'.call (HC.out _ hw'.1)
              go_big_quiet_on)))
      refine wpQuiet_nil ?_
      rintro w3 ⟨g3, _⟩
      have G3 : Hid (Grew w w3) := g3
      have D3 : Hid (D9 w3 b (.slice a l.length cap) l (.ok p)) := H.out.grew G3.out
      clear g3 c0 c1
      go_wp2_with fail
      refine (fail9_any D3.out f e he).mono ?_
      rintro en w4 ⟨rfl, t4, s4⟩
      have F4 : Hid (Fin9 b (.slice a l.length cap) l w w4 (.error (f, e))) := ⟨(G3.out.turn _).trans t4, s4⟩
      clear t4 s4
      go_wp2_with fail
      go_ret
      exact ⟨0, .error (f, e), rfl, F4.out, HT.out⟩
set_option maxRecDepth 100000 in
set_option maxHeartbeats 2000000 in
theorem d9numL_any {w : World} {b : Nat} {v : Value} {l : List Int} {st : Except (Nat × Nat) Nat} (h : D9 w b v l st) :
    Calls Tryz.prog 28 #[.pointer (some ⟨b, 0, none⟩), .int .i64 64, .bool true] w (An9 (fun y => .int .u64 y) b v l w (runI (numR 64 true l) st)) := by
  have H : Hid (D9 w b v l st) := h
  have hb : b < w.heap.size := h.lt
  have hl := h.len
  cases st with
  | error x =>
    obtain ⟨f, e⟩ := x
    obtain ⟨a0, ho, ha, he0⟩ := h.st
    have c3 := cell_of ho 3
    simp at c3
    have de : ((e : Int) != 0) = true := by simp; exact he0
    clear h ho
    go_enter Tryz.func28, Tryz.ntmps28
    go_wp2_with fail
    go_ret
    exact ⟨0, .error (f, e), rfl, ⟨Turn.refl _ _, H.out⟩, rfl⟩
  | ok p =>
    have c0 := cell_of h.st.1 0
    have c1 := cell_of h.st.1 1
    have c3 := cell_of h.st.1 3
    have z1 := free_of h.st.1 1
    have hle := h.st.2
    have hB := h.byt
    simp at c0 c1 c3
    have HC : Hid (∀ w1, Grew w w1 → Calls Tryz.prog 58 #[v, .int .i64 (p : Int), .int .i64 (l.length : Int), .int .i64 64, .bool true] w1 fun en w' => en = .returned (.tuple #[.int .u64 (rd 64 true l p l.length).1, .int .i64 (rd 64 true l p l.length).2.1, .int .i64 (rd 64 true l p l.length).2.2]) ∧ Grew w1 w') := fun w1 g => (num64s_any v l (p : Int) (l.length : Int) w1 (g.reads h.rd) hB hl).mono fun en w2 ⟨h1, h2⟩ => ⟨h1, by rw [h2]; exact Grew.refl _⟩
    obtain ⟨y, f, e, st', ht, hti, hw⟩ := num_ways (b := 64) (sg := true) hle
    rw [ht] at HC
    
    simp only at HC
    have HT : Hid (TieI (numR 64 true l p) y st') := hti
    obtain ⟨a, cap, rfl⟩ := h.rd.len
    rcases hw with ⟨rfl, rfl, hq⟩ | ⟨rfl, he⟩
    · skip
      clear h ht hti
      go_enter Tryz.func28, Tryz.ntmps28
      go_wp2_with fail
      refine wp_region_ck [(b, 0, .slice a l.length cap), (b, 1, .int .i64 p)] (by kernel_rfl) (by kernel_rfl) ⟨⟨hb, c0⟩, ⟨hb, c1⟩, trivial⟩ ?_
      repeat (first
        | go_big_quiet_skip
        | (go_big_quiet_want
           go_big_quiet_op
           first
           | go_big_quiet_on
           | (refine ⟨_, fun _ _ => rfl, ?_⟩; go_big_quiet_on)
           | (refine ⟨.slice a l.length cap, fun w' hw' => ?_, ?_⟩
              · (obtain ⟨_, ⟨_, hc0⟩, ⟨_, hc1⟩, _⟩ := hw'; go_simp; done)
              go_big_quiet_on)
           | (refine ⟨.int .i64 p, fun w' hw' => ?_, ?_⟩
              · (obtain ⟨_, ⟨_, hc0⟩, ⟨_, hc1⟩, _⟩ := hw'; go_simp; done)
              go_big_quiet_on)
           | (apply Exists.intro
              refine ⟨fun w' hw' => ?_, ?_⟩
              · exact hw'.call (HC.out _ hw'.1)
              go_big_quiet_on)))
      refine wpQuiet_nil ?_
      rintro w3 ⟨g3, _⟩
      have G3 : Hid (Grew w w3) := g3
      have hBb := (G3.out.turn []).other H.out.st.1 (by simp)
      have m1 := cell_of hBb 1
      have n1 := free_of hBb 1
      simp at m1
      have HB : Hid (w3.heap[b]? = some (rdg9 (.slice a l.length cap) (p : Int) 0 0)) := hBb
      clear g3 hBb c0 c1
      go_wp2_with fail
      go_ret
      refine ⟨y, .ok f, ?_, ?_, HT.out⟩
      · first | rfl | (rw [hen]; done) | (rw [hen])
      refine (fun t => ⟨t, H.out.of t ⟨by rw [heap_set HB.out 1 _]; simp [rdg9], hq⟩⟩) ?_
      exact (G3.out.turn _).set (Or.inl (by simp)) _
    · have de : ((e : Int) != 0) = true := by simp; exact he
      clear h ht hti
      go_enter Tryz.func28, Tryz.ntmps28
      go_wp2_with fail
      refine wp_region_ck [(b, 0, .slice a l.length cap), (b, 1, .int .i64 p)] (by kernel_rfl) (by kernel_rfl) ⟨⟨hb, c0⟩, ⟨hb, c1⟩, trivial⟩ ?_
      repeat (first
        | go_big_quiet_skip
        | (go_big_quiet_want
           go_big_quiet_op
           first
           | go_big_quiet_on
           | (refine ⟨_, fun _ _ => rfl, ?_⟩; go_big_quiet_on)
           | (refine ⟨.slice a l.length cap, fun w' hw' => ?_, ?_⟩
              · (obtain ⟨_, ⟨_, hc0⟩, ⟨_, hc1⟩, _⟩ := hw'; go_simp; done)
              go_big_quiet_on)
           | (refine ⟨.int .i64 p, fun w' hw' => ?_, ?_⟩
              · (obtain ⟨_, ⟨_, hc0⟩, ⟨_, hc1⟩, _⟩ := hw'; go_simp; done)
              go_big_quiet_on)
           | (apply Exists.intro
              refine ⟨fun w' hw' => ?_, ?_⟩
              · exact hw'.call (HC.out _ hw'.1)
              go_big_quiet_on)))
      refine wpQuiet_nil ?_
      rintro w3 ⟨g3, _⟩
      have G3 : Hid (Grew w w3) := g3
      have D3 : Hid (D9 w3 b (.slice a l.length cap) l (.ok p)) := H.out.grew G3.out
      clear g3 c0 c1
      go_wp2_with fail
      refine (fail9_any D3.out f e he).mono ?_
      rintro en w4 ⟨rfl, t4, s4⟩
      have F4 : Hid (Fin9 b (.slice a l.length cap) l w w4 (.error (f, e))) := ⟨(G3.out.turn _).trans t4, s4⟩
      clear t4 s4
      go_wp2_with fail
      go_ret
      exact ⟨0, .error (f, e), rfl, F4.out, HT.out⟩
set_option maxRecDepth 100000 in
set_option maxHeartbeats 2000000 in
theorem d9numW_any {w : World} {b : Nat} {v : Value} {l : List Int} {st : Except (Nat × Nat) Nat} (h : D9 w b v l st) :
    Calls Tryz.prog 28 #[.pointer (some ⟨b, 0, none⟩), .int .i64 64, .bool false] w (An9 (fun y => .int .u64 y) b v l w (runI (numR 64 false l) st)) := by
  have H : Hid (D9 w b v l st) := h
  have hb : b < w.heap.size := h.lt
  have hl := h.len
  cases st with
  | error x =>
    obtain ⟨f, e⟩ := x
    obtain ⟨a0, ho, ha, he0⟩ := h.st
    have c3 := cell_of ho 3
    simp at c3
    have de : ((e : Int) != 0) = true := by simp; exact he0
    clear h ho
    go_enter Tryz.func28, Tryz.ntmps28
    go_wp2_with fail
    go_ret
    exact ⟨0, .error (f, e), rfl, ⟨Turn.refl _ _, H.out⟩, rfl⟩
  | ok p =>
    have c0 := cell_of h.st.1 0
    have c1 := cell_of h.st.1 1
    have c3 := cell_of h.st.1 3
    have z1 := free_of h.st.1 1
    have hle := h.st.2
    have hB := h.byt
    simp at c0 c1 c3
    have HC : Hid (∀ w1, Grew w w1 → Calls Tryz.prog 58 #[v, .int .i64 (p : Int), .int .i64 (l.length : Int), .int .i64 64, .bool false] w1 fun en w' => en = .returned (.tuple #[.int .u64 (rd 64 false l p l.length).1, .int .i64 (rd 64 false l p l.length).2.1, .int .i64 (rd 64 false l p l.length).2.2]) ∧ Grew w1 w') := fun w1 g => (num64u_any v l (p : Int) (l.length : Int) w1 (g.reads h.rd) hB hl).mono fun en w2 ⟨h1, h2⟩ => ⟨h1, by rw [h2]; exact Grew.refl _⟩
    obtain ⟨y, f, e, st', ht, hti, hw⟩ := num_ways (b := 64) (sg := false) hle
    rw [ht] at HC
    
    simp only at HC
    have HT : Hid (TieI (numR 64 false l p) y st') := hti
    obtain ⟨a, cap, rfl⟩ := h.rd.len
    rcases hw with ⟨rfl, rfl, hq⟩ | ⟨rfl, he⟩
    · skip
      clear h ht hti
      go_enter Tryz.func28, Tryz.ntmps28
      go_wp2_with fail
      refine wp_region_ck [(b, 0, .slice a l.length cap), (b, 1, .int .i64 p)] (by kernel_rfl) (by kernel_rfl) ⟨⟨hb, c0⟩, ⟨hb, c1⟩, trivial⟩ ?_
      repeat (first
        | go_big_quiet_skip
        | (go_big_quiet_want
           go_big_quiet_op
           first
           | go_big_quiet_on
           | (refine ⟨_, fun _ _ => rfl, ?_⟩; go_big_quiet_on)
           | (refine ⟨.slice a l.length cap, fun w' hw' => ?_, ?_⟩
              · (obtain ⟨_, ⟨_, hc0⟩, ⟨_, hc1⟩, _⟩ := hw'; go_simp; done)
              go_big_quiet_on)
           | (refine ⟨.int .i64 p, fun w' hw' => ?_, ?_⟩
              · (obtain ⟨_, ⟨_, hc0⟩, ⟨_, hc1⟩, _⟩ := hw'; go_simp; done)
              go_big_quiet_on)
           | (apply Exists.intro
              refine ⟨fun w' hw' => ?_, ?_⟩
              · exact hw'.call (HC.out _ hw'.1)
              go_big_quiet_on)))
      refine wpQuiet_nil ?_
      rintro w3 ⟨g3, _⟩
      have G3 : Hid (Grew w w3) := g3
      have hBb := (G3.out.turn []).other H.out.st.1 (by simp)
      have m1 := cell_of hBb 1
      have n1 := free_of hBb 1
      simp at m1
      have HB : Hid (w3.heap[b]? = some (rdg9 (.slice a l.length cap) (p : Int) 0 0)) := hBb
      clear g3 hBb c0 c1
      go_wp2_with fail
      go_ret
      refine ⟨y, .ok f, ?_, ?_, HT.out⟩
      · first | rfl | (rw [hen]; done) | (rw [hen])
      refine (fun t => ⟨t, H.out.of t ⟨by rw [heap_set HB.out 1 _]; simp [rdg9], hq⟩⟩) ?_
      exact (G3.out.turn _).set (Or.inl (by simp)) _
    · have de : ((e : Int) != 0) = true := by simp; exact he
      clear h ht hti
      go_enter Tryz.func28, Tryz.ntmps28
      go_wp2_with fail
      refine wp_region_ck [(b, 0, .slice a l.length cap), (b, 1, .int .i64 p)] (by kernel_rfl) (by kernel_rfl) ⟨⟨hb, c0⟩, ⟨hb, c1⟩, trivial⟩ ?_
      repeat (first
        | go_big_quiet_skip
        | (go_big_quiet_want
           go_big_quiet_op
           first
           | go_big_quiet_on
           | (refine ⟨_, fun _ _ => rfl, ?_⟩; go_big_quiet_on)
           | (refine ⟨.slice a l.length cap, fun w' hw' => ?_, ?_⟩
              · (obtain ⟨_, ⟨_, hc0⟩, ⟨_, hc1⟩, _⟩ := hw'; go_simp; done)
              go_big_quiet_on)
           | (refine ⟨.int .i64 p, fun w' hw' => ?_, ?_⟩
              · (obtain ⟨_, ⟨_, hc0⟩, ⟨_, hc1⟩, _⟩ := hw'; go_simp; done)
              go_big_quiet_on)
           | (apply Exists.intro
              refine ⟨fun w' hw' => ?_, ?_⟩
              · exact hw'.call (HC.out _ hw'.1)
              go_big_quiet_on)))
      refine wpQuiet_nil ?_
      rintro w3 ⟨g3, _⟩
      have G3 : Hid (Grew w w3) := g3
      have D3 : Hid (D9 w3 b (.slice a l.length cap) l (.ok p)) := H.out.grew G3.out
      clear g3 c0 c1
      go_wp2_with fail
      refine (fail9_any D3.out f e he).mono ?_
      rintro en w4 ⟨rfl, t4, s4⟩
      have F4 : Hid (Fin9 b (.slice a l.length cap) l w w4 (.error (f, e))) := ⟨(G3.out.turn _).trans t4, s4⟩
      clear t4 s4
      go_wp2_with fail
      go_ret
      exact ⟨0, .error (f, e), rfl, F4.out, HT.out⟩
set_option maxRecDepth 100000 in
set_option maxHeartbeats 2000000 in
theorem d9fix1_any {w : World} {b : Nat} {v : Value} {l : List Int} {st : Except (Nat × Nat) Nat} (h : D9 w b v l st) :
    Calls Tryz.prog 29 #[.pointer (some ⟨b, 0, none⟩), .int .i64 1] w (An9 (fun y => .int .u64 y) b v l w (runI (fixR 1 l) st)) := by
  have H : Hid (D9 w b v l st) := h
  have hb : b < w.heap.size := h.lt
  have hl := h.len
  cases st with
  | error x =>
    obtain ⟨f, e⟩ := x
    obtain ⟨a0, ho, ha, he0⟩ := h.st
    have c3 := cell_of ho 3
    simp at c3
    have de : ((e : Int) != 0) = true := by simp; exact he0
    clear h ho
    go_enter Tryz.func29, Tryz.ntmps29
    go_wp2_with fail
    go_ret
    exact ⟨0, .error (f, e), rfl, ⟨Turn.refl _ _, H.out⟩, rfl⟩
  | ok p =>
    have c0 := cell_of h.st.1 0
    have c1 := cell_of h.st.1 1
    have c3 := cell_of h.st.1 3
    have z1 := free_of h.st.1 1
    have hle := h.st.2
    have hB := h.byt
    simp at c0 c1 c3
    have HC : Hid (∀ w1, Grew w w1 → Calls Tryz.prog 60 #[v, .int .i64 (p : Int), .int .i64 (l.length : Int), .int .i64 1] w1 fun en w' => en = .returned (.tuple #[.int .u64 (fx 1 l p l.length).1, .int .i64 (fx 1 l p l.length).2.1, .int .i64 (fx 1 l p l.length).2.2]) ∧ Grew w1 w') := fun w1 g => (fixed1_any v l (p : Int) (l.length : Int) w1 (g.reads h.rd) hB hl).mono fun en w2 ⟨h1, h2⟩ => ⟨h1, by rw [h2]; exact Grew.refl _⟩
    obtain ⟨y, f, e, st', ht, hti, hw⟩ := fix_ways (k := 1) hle
    rw [ht] at HC
    
    simp only at HC
    have HT : Hid (TieI (fixR 1 l p) y st') := hti
    obtain ⟨a, cap, rfl⟩ := h.rd.len
    rcases hw with ⟨rfl, rfl, hq⟩ | ⟨rfl, he⟩
    · skip
      clear h ht hti
      go_enter Tryz.func29, Tryz.ntmps29
      go_wp2_with fail
      refine wp_region_ck [(b, 0, .slice a l.length cap), (b, 1, .int .i64 p)] (by kernel_rfl) (by kernel_rfl) ⟨⟨hb, c0⟩, ⟨hb, c1⟩, trivial⟩ ?_
      repeat (first
        | go_big_quiet_skip
        | (go_big_quiet_want
           go_big_quiet_op
           first
           | go_big_quiet_on
           | (refine ⟨_, fun _ _ => rfl, ?_⟩; go_big_quiet_on)
           | (refine ⟨.slice a l.length cap, fun w' hw' => ?_, ?_⟩
              · (obtain ⟨_, ⟨_, hc0⟩, ⟨_, hc1⟩, _⟩ := hw'; go_simp; done)
              go_big_quiet_on)
           | (refine ⟨.int .i64 p, fun w' hw' => ?_, ?_⟩
              · (obtain ⟨_, ⟨_, hc0⟩, ⟨_, hc1⟩, _⟩ := hw'; go_simp; done)
              go_big_quiet_on)
           | (apply Exists.intro
              refine ⟨fun w' hw' => ?_, ?_⟩
              · exact hw'.call (HC.out _ hw'.1)
              go_big_quiet_on)))
      refine wpQuiet_nil ?_
      rintro w3 ⟨g3, _⟩
      have G3 : Hid (Grew w w3) := g3
      have hBb := (G3.out.turn []).other H.out.st.1 (by simp)
      have m1 := cell_of hBb 1
      have n1 := free_of hBb 1
      simp at m1
      have HB : Hid (w3.heap[b]? = some (rdg9 (.slice a l.length cap) (p : Int) 0 0)) := hBb
      clear g3 hBb c0 c1
      go_wp2_with fail
      go_ret
      refine ⟨y, .ok f, ?_, ?_, HT.out⟩
      · first | rfl | (rw [hen]; done) | (rw [hen])
      refine (fun t => ⟨t, H.out.of t ⟨by rw [heap_set HB.out 1 _]; simp [rdg9], hq⟩⟩) ?_
      exact (G3.out.turn _).set (Or.inl (by simp)) _
    · have de : ((e : Int) != 0) = true := by simp; exact he
      clear h ht hti
      go_enter Tryz.func29, Tryz.ntmps29
      go_wp2_with fail
      refine wp_region_ck [(b, 0, .slice a l.length cap), (b, 1, .int .i64 p)] (by kernel_rfl) (by kernel_rfl) ⟨⟨hb, c0⟩, ⟨hb, c1⟩, trivial⟩ ?_
      repeat (first
        | go_big_quiet_skip
        | (go_big_quiet_want
           go_big_quiet_op
           first
           | go_big_quiet_on
           | (refine ⟨_, fun _ _ => rfl, ?_⟩; go_big_quiet_on)
           | (refine ⟨.slice a l.length cap, fun w' hw' => ?_, ?_⟩
              · (obtain ⟨_, ⟨_, hc0⟩, ⟨_, hc1⟩, _⟩ := hw'; go_simp; done)
              go_big_quiet_on)
           | (refine ⟨.int .i64 p, fun w' hw' => ?_, ?_⟩
              · (obtain ⟨_, ⟨_, hc0⟩, ⟨_, hc1⟩, _⟩ := hw'; go_simp; done)
              go_big_quiet_on)
           | (apply Exists.intro
              refine ⟨fun w' hw' => ?_, ?_⟩
              · exact hw'.call (HC.out _ hw'.1)
              go_big_quiet_on)))
      refine wpQuiet_nil ?_
      rintro w3 ⟨g3, _⟩
      have G3 : Hid (Grew w w3) := g3
      have D3 : Hid (D9 w3 b (.slice a l.length cap) l (.ok p)) := H.out.grew G3.out
      clear g3 c0 c1
      go_wp2_with fail
      refine (fail9_any D3.out f e he).mono ?_
      rintro en w4 ⟨rfl, t4, s4⟩
      have F4 : Hid (Fin9 b (.slice a l.length cap) l w w4 (.error (f, e))) := ⟨(G3.out.turn _).trans t4, s4⟩
      clear t4 s4
      go_wp2_with fail
      go_ret
      exact ⟨0, .error (f, e), rfl, F4.out, HT.out⟩
set_option maxRecDepth 100000 in
set_option maxHeartbeats 2000000 in
theorem d9fix4_any {w : World} {b : Nat} {v : Value} {l : List Int} {st : Except (Nat × Nat) Nat} (h : D9 w b v l st) :
    Calls Tryz.prog 29 #[.pointer (some ⟨b, 0, none⟩), .int .i64 4] w (An9 (fun y => .int .u64 y) b v l w (runI (fixR 4 l) st)) := by
  have H : Hid (D9 w b v l st) := h
  have hb : b < w.heap.size := h.lt
  have hl := h.len
  cases st with
  | error x =>
    obtain ⟨f, e⟩ := x
    obtain ⟨a0, ho, ha, he0⟩ := h.st
    have c3 := cell_of ho 3
    simp at c3
    have de : ((e : Int) != 0) = true := by simp; exact he0
    clear h ho
    go_enter Tryz.func29, Tryz.ntmps29
    go_wp2_with fail
    go_ret
    exact ⟨0, .error (f, e), rfl, ⟨Turn.refl _ _, H.out⟩, rfl⟩
  | ok p =>
    have c0 := cell_of h.st.1 0
    have c1 := cell_of h.st.1 1
    have c3 := cell_of h.st.1 3
    have z1 := free_of h.st.1 1
    have hle := h.st.2
    have hB := h.byt
    simp at c0 c1 c3
    have HC : Hid (∀ w1, Grew w w1 → Calls Tryz.prog 60 #[v, .int .i64 (p : Int), .int .i64 (l.length : Int), .int .i64 4] w1 fun en w' => en = .returned (.tuple #[.int .u64 (fx 4 l p l.length).1, .int .i64 (fx 4 l p l.length).2.1, .int .i64 (fx 4 l p l.length).2.2]) ∧ Grew w1 w') := fun w1 g => (fixed4_any v l (p : Int) (l.length : Int) w1 (g.reads h.rd) hB hl).mono fun en w2 ⟨h1, h2⟩ => ⟨h1, by rw [h2]; exact Grew.refl _⟩
    obtain ⟨y, f, e, st', ht, hti, hw⟩ := fix_ways (k := 4) hle
    rw [ht] at HC
    
    simp only at HC
    have HT : Hid (TieI (fixR 4 l p) y st') := hti
    obtain ⟨a, cap, rfl⟩ := h.rd.len
    rcases hw with ⟨rfl, rfl, hq⟩ | ⟨rfl, he⟩
    · skip
      clear h ht hti
      go_enter Tryz.func29, Tryz.ntmps29
      go_wp2_with fail
      refine wp_region_ck [(b, 0, .slice a l.length cap), (b, 1, .int .i64 p)] (by kernel_rfl) (by kernel_rfl) ⟨⟨hb, c0⟩, ⟨hb, c1⟩, trivial⟩ ?_
      repeat (first
        | go_big_quiet_skip
        | (go_big_quiet_want
           go_big_quiet_op
           first
           | go_big_quiet_on
           | (refine ⟨_, fun _ _ => rfl, ?_⟩; go_big_quiet_on)
           | (refine ⟨.slice a l.length cap, fun w' hw' => ?_, ?_⟩
              · (obtain ⟨_, ⟨_, hc0⟩, ⟨_, hc1⟩, _⟩ := hw'; go_simp; done)
              go_big_quiet_on)
           | (refine ⟨.int .i64 p, fun w' hw' => ?_, ?_⟩
              · (obtain ⟨_, ⟨_, hc0⟩, ⟨_, hc1⟩, _⟩ := hw'; go_simp; done)
              go_big_quiet_on)
           | (apply Exists.intro
              refine ⟨fun w' hw' => ?_, ?_⟩
              · exact hw'.call (HC.out _ hw'.1)
              go_big_quiet_on)))
      refine wpQuiet_nil ?_
      rintro w3 ⟨g3, _⟩
      have G3 : Hid (Grew w w3) := g3
      have hBb := (G3.out.turn []).other H.out.st.1 (by simp)
      have m1 := cell_of hBb 1
      have n1 := free_of hBb 1
      simp at m1
      have HB : Hid (w3.heap[b]? = some (rdg9 (.slice a l.length cap) (p : Int) 0 0)) := hBb
      clear g3 hBb c0 c1
      go_wp2_with fail
      go_ret
      refine ⟨y, .ok f, ?_, ?_, HT.out⟩
      · first | rfl | (rw [hen]; done) | (rw [hen])
      refine (fun t => ⟨t, H.out.of t ⟨by rw [heap_set HB.out 1 _]; simp [rdg9], hq⟩⟩) ?_
      exact (G3.out.turn _).set (Or.inl (by simp)) _
    · have de : ((e : Int) != 0) = true := by simp; exact he
      clear h ht hti
      go_enter Tryz.func29, Tryz.ntmps29
      go_wp2_with fail
      refine wp_region_ck [(b, 0, .slice a l.length cap), (b, 1, .int .i64 p)] (by kernel_rfl) (by kernel_rfl) ⟨⟨hb, c0⟩, ⟨hb, c1⟩, trivial⟩ ?_
      repeat (first
        | go_big_quiet_skip
        | (go_big_quiet_want
           go_big_quiet_op
           first
           | go_big_quiet_on
           | (refine ⟨_, fun _ _ => rfl, ?_⟩; go_big_quiet_on)
           | (refine ⟨.slice a l.length cap, fun w' hw' => ?_, ?_⟩
              · (obtain ⟨_, ⟨_, hc0⟩, ⟨_, hc1⟩, _⟩ := hw'; go_simp; done)
              go_big_quiet_on)
           | (refine ⟨.int .i64 p, fun w' hw' => ?_, ?_⟩
              · (obtain ⟨_, ⟨_, hc0⟩, ⟨_, hc1⟩, _⟩ := hw'; go_simp; done)
              go_big_quiet_on)
           | (apply Exists.intro
              refine ⟨fun w' hw' => ?_, ?_⟩
              · exact hw'.call (HC.out _ hw'.1)
              go_big_quiet_on)))
      refine wpQuiet_nil ?_
      rintro w3 ⟨g3, _⟩
      have G3 : Hid (Grew w w3) := g3
      have D3 : Hid (D9 w3 b (.slice a l.length cap) l (.ok p)) := H.out.grew G3.out
      clear g3 c0 c1
      go_wp2_with fail
      refine (fail9_any D3.out f e he).mono ?_
      rintro en w4 ⟨rfl, t4, s4⟩
      have F4 : Hid (Fin9 b (.slice a l.length cap) l w w4 (.error (f, e))) := ⟨(G3.out.turn _).trans t4, s4⟩
      clear t4 s4
      go_wp2_with fail
      go_ret
      exact ⟨0, .error (f, e), rfl, F4.out, HT.out⟩
set_option maxRecDepth 100000 in
set_option maxHeartbeats 2000000 in
theorem d9fix8_any {w : World} {b : Nat} {v : Value} {l : List Int} {st : Except (Nat × Nat) Nat} (h : D9 w b v l st) :
    Calls Tryz.prog 29 #[.pointer (some ⟨b, 0, none⟩), .int .i64 8] w (An9 (fun y => .int .u64 y) b v l w (runI (fixR 8 l) st)) := by
  have H : Hid (D9 w b v l st) := h
  have hb : b < w.heap.size := h.lt
  have hl := h.len
  cases st with
  | error x =>
    obtain ⟨f, e⟩ := x
    obtain ⟨a0, ho, ha, he0⟩ := h.st
    have c3 := cell_of ho 3
    simp at c3
    have de : ((e : Int) != 0) = true := by simp; exact he0
    clear h ho
    go_enter Tryz.func29, Tryz.ntmps29
    go_wp2_with fail
    go_ret
    exact ⟨0, .error (f, e), rfl, ⟨Turn.refl _ _, H.out⟩, rfl⟩
  | ok p =>
    have c0 := cell_of h.st.1 0
    have c1 := cell_of h.st.1 1
    have c3 := cell_of h.st.1 3
    have z1 := free_of h.st.1 1
    have hle := h.st.2
    have hB := h.byt
    simp at c0 c1 c3
    have HC : Hid (∀ w1, Grew w w1 → Calls Tryz.prog 60 #[v, .int .i64 (p : Int), .int .i64 (l.length : Int), .int .i64 8] w1 fun en w' => en = .returned (.tuple #[.int .u64 (fx 8 l p l.length).1, .int .i64 (fx 8 l p l.length).2.1, .int .i64 (fx 8 l p l.length).2.2]) ∧ Grew w1 w') := fun w1 g => (fixed8_any v l (p : Int) (l.length : Int) w1 (g.reads h.rd) hB hl).mono fun en w2 ⟨h1, h2⟩ => ⟨h1, by rw [h2]; exact Grew.refl _⟩
    obtain ⟨y, f, e, st', ht, hti, hw⟩ := fix_ways (k := 8) hle
    rw [ht] at HC
    
    simp only at HC
    have HT : Hid (TieI (fixR 8 l p) y st') := hti
    obtain ⟨a, cap, rfl⟩ := h.rd.len
    rcases hw with ⟨rfl, rfl, hq⟩ | ⟨rfl, he⟩
    · skip
      clear h ht hti
      go_enter Tryz.func29, Tryz.ntmps29
      go_wp2_with fail
      refine wp_region_ck [(b, 0, .slice a l.length cap), (b, 1, .int .i64 p)] (by kernel_rfl) (by kernel_rfl) ⟨⟨hb, c0⟩, ⟨hb, c1⟩, trivial⟩ ?_
      repeat (first
        | go_big_quiet_skip
        | (go_big_quiet_want
           go_big_quiet_op
           first
           | go_big_quiet_on
           | (refine ⟨_, fun _ _ => rfl, ?_⟩; go_big_quiet_on)
           | (refine ⟨.slice a l.length cap, fun w' hw' => ?_, ?_⟩
              · (obtain ⟨_, ⟨_, hc0⟩, ⟨_, hc1⟩, _⟩ := hw'; go_simp; done)
              go_big_quiet_on)
           | (refine ⟨.int .i64 p, fun w' hw' => ?_, ?_⟩
              · (obtain ⟨_, ⟨_, hc0⟩, ⟨_, hc1⟩, _⟩ := hw'; go_simp; done)
              go_big_quiet_on)
           | (apply Exists.intro
              refine ⟨fun w' hw' => ?_, ?_⟩
              · exact hw'.call (HC.out _ hw'.1)
              go_big_quiet_on)))
      refine wpQuiet_nil ?_
      rintro w3 ⟨g3, _⟩
      have G3 : Hid (Grew w w3) := g3
      have hBb := (G3.out.turn []).other H.out.st.1 (by simp)
      have m1 := cell_of hBb 1
      have n1 := free_of hBb 1
      simp at m1
      have HB : Hid (w3.heap[b]? = some (rdg9 (.slice a l.length cap) (p : Int) 0 0)) := hBb
      clear g3 hBb c0 c1
      go_wp2_with fail
      go_ret
      refine ⟨y, .ok f, ?_, ?_, HT.out⟩
      · first | rfl | (rw [hen]; done) | (rw [hen])
      refine (fun t => ⟨t, H.out.of t ⟨by rw [heap_set HB.out 1 _]; simp [rdg9], hq⟩⟩) ?_
      exact (G3.out.turn _).set (Or.inl (by simp)) _
    · have de : ((e : Int) != 0) = true := by simp; exact he
      clear h ht hti
      go_enter Tryz.func29, Tryz.ntmps29
      go_wp2_with fail
      refine wp_region_ck [(b, 0, .slice a l.length cap), (b, 1, .int .i64 p)] (by kernel_rfl) (by kernel_rfl) ⟨⟨hb, c0⟩, ⟨hb, c1⟩, trivial⟩ ?_
      repeat (first
        | go_big_quiet_skip
        | (go_big_quiet_want
           go_big_quiet_op
           first
           | go_big_quiet_on
           | (refine ⟨_, fun _ _ => rfl, ?_⟩; go_big_quiet_on)
           | (refine ⟨.slice a l.length cap, fun w' hw' => ?_, ?_⟩
              · (obtain ⟨_, ⟨_, hc0⟩, ⟨_, hc1⟩, _⟩ := hw'; go_simp; done)
              go_big_quiet_on)
           | (refine ⟨.int .i64 p, fun w' hw' => ?_, ?_⟩
              · (obtain ⟨_, ⟨_, hc0⟩, ⟨_, hc1⟩, _⟩ := hw'; go_simp; done)
              go_big_quiet_on)
           | (apply Exists.intro
              refine ⟨fun w' hw' => ?_, ?_⟩
              · exact hw'.call (HC.out _ hw'.1)
              go_big_quiet_on)))
      refine wpQuiet_nil ?_
      rintro w3 ⟨g3, _⟩
      have G3 : Hid (Grew w w3) := g3
      have D3 : Hid (D9 w3 b (.slice a l.length cap) l (.ok p)) := H.out.grew G3.out
      clear g3 c0 c1
      go_wp2_with fail
      refine (fail9_any D3.out f e he).mono ?_
      rintro en w4 ⟨rfl, t4, s4⟩
      have F4 : Hid (Fin9 b (.slice a l.length cap) l w w4 (.error (f, e))) := ⟨(G3.out.turn _).trans t4, s4⟩
      clear t4 s4
      go_wp2_with fail
      go_ret
      exact ⟨0, .error (f, e), rfl, F4.out, HT.out⟩
set_option maxRecDepth 100000 in
set_option maxHeartbeats 2000000 in
theorem d9heap_any {w : World} {b : Nat} {v : Value} {l : List Int} {st : Except (Nat × Nat) Nat} (h : D9 w b v l st) :
    Calls Tryz.prog 31 #[.pointer (some ⟨b, 0, none⟩)] w (An9 (fun y => .int .i64 y) b v l w (runI (heapR l) st)) := by
  have H : Hid (D9 w b v l st) := h
  have hb : b < w.heap.size := h.lt
  have hl := h.len
  cases st with
  | error x =>
    obtain ⟨f, e⟩ := x
    obtain ⟨a0, ho, ha, he0⟩ := h.st
    have c3 := cell_of ho 3
    simp at c3
    have de : ((e : Int) != 0) = true := by simp; exact he0
    clear h ho
    go_enter Tryz.func31, Tryz.ntmps31
    go_wp2_with fail
    go_ret
    exact ⟨0, .error (f, e), rfl, ⟨Turn.refl _ _, H.out⟩, rfl⟩
  | ok p =>
    have c0 := cell_of h.st.1 0
    have c1 := cell_of h.st.1 1
    have c3 := cell_of h.st.1 3
    have z1 := free_of h.st.1 1
    have hle := h.st.2
    have hB := h.byt
    simp at c0 c1 c3
    have HC : Hid (∀ w1, Grew w w1 → Calls Tryz.prog 61 #[v, .int .i64 (p : Int)] w1 fun en w' => en = .returned (ansH (topR (heapR l) 0 l p)) ∧ Grew w1 w') := fun w1 g => dtopH_any v l p w1 (g.reads h.rd) hB hl
    obtain ⟨y, f, e, st', ht, hti, hw⟩ := top_ways (z := (0 : Int)) (heap_adv l) hle
    rw [ht] at HC
    unfold ansH at HC
    simp only at HC
    have HT : Hid (TieI (heapR l p) y st') := hti
    obtain ⟨a, cap, rfl⟩ := h.rd.len
    rcases hw with ⟨rfl, rfl, hq⟩ | ⟨rfl, he⟩
    · skip
      clear h ht hti
      go_enter Tryz.func31, Tryz.ntmps31
      go_wp2_with fail
      refine wp_region_ck [(b, 0, .slice a l.length cap), (b, 1, .int .i64 p)] (by kernel_rfl) (by kernel_rfl) ⟨⟨hb, c0⟩, ⟨hb, c1⟩, trivial⟩ ?_
      repeat (first
        | go_big_quiet_skip
        | (go_big_quiet_want
           go_big_quiet_op
           first
           | go_big_quiet_on
           | (refine ⟨_, fun _ _ => rfl, ?_⟩; go_big_quiet_on)
           | (refine ⟨.slice a l.length cap, fun w' hw' => ?_, ?_⟩
              · (obtain ⟨_, ⟨_, hc0⟩, ⟨_, hc1⟩, _⟩ := hw'; go_simp; done)
              go_big_quiet_on)
           | (refine ⟨.int .i64 p, fun w' hw' => ?_, ?_⟩
              · (obtain ⟨_, ⟨_, hc0⟩, ⟨_, hc1⟩, _⟩ := hw'; go_simp; done)
              go_big_quiet_on)
           | (apply Exists.intro
              refine ⟨fun w' hw' => ?_, ?_⟩
              · exact hw'.call (HC.out _ hw'.1)
              go_big_quiet_on)))
      refine wpQuiet_nil ?_
      rintro w3 ⟨g3, _⟩
      have G3 : Hid (Grew w w3) := g3
      have hBb := (G3.out.turn []).other H.out.st.1 (by simp)
      have m1 := cell_of hBb 1
      have n1 := free_of hBb 1
      simp at m1
      have HB : Hid (w3.heap[b]? = some (rdg9 (.slice a l.length cap) (p : Int) 0 0)) := hBb
      clear g3 hBb c0 c1
      go_wp2_with fail
      go_ret
      refine ⟨y, .ok f, ?_, ?_, HT.out⟩
      · first | rfl | (rw [hen]; done) | (rw [hen])
      refine (fun t => ⟨t, H.out.of t ⟨by rw [heap_set HB.out 1 _]; simp [rdg9], hq⟩⟩) ?_
      exact (G3.out.turn _).set (Or.inl (by simp)) _
    · have de : ((e : Int) != 0) = true := by simp; exact he
      clear h ht hti
      go_enter Tryz.func31, Tryz.ntmps31
      go_wp2_with fail
      refine wp_region_ck [(b, 0, .slice a l.length cap), (b, 1, .int .i64 p)] (by kernel_rfl) (by kernel_rfl) ⟨⟨hb, c0⟩, ⟨hb, c1⟩, trivial⟩ ?_
      repeat (first
        | go_big_quiet_skip
        | (go_big_quiet_want
           go_big_quiet_op
           first
           | go_big_quiet_on
           | (refine ⟨_, fun _ _ => rfl, ?_⟩; go_big_quiet_on)
           | (refine ⟨.slice a l.length cap, fun w' hw' => ?_, ?_⟩
              · (obtain ⟨_, ⟨_, hc0⟩, ⟨_, hc1⟩, _⟩ := hw'; go_simp; done)
              go_big_quiet_on)
           | (refine ⟨.int .i64 p, fun w' hw' => ?_, ?_⟩
              · (obtain ⟨_, ⟨_, hc0⟩, ⟨_, hc1⟩, _⟩ := hw'; go_simp; done)
              go_big_quiet_on)
           | (apply Exists.intro
              refine ⟨fun w' hw' => ?_, ?_⟩
              · exact hw'.call (HC.out _ hw'.1)
              go_big_quiet_on)))
      refine wpQuiet_nil ?_
      rintro w3 ⟨g3, _⟩
      have G3 : Hid (Grew w w3) := g3
      have D3 : Hid (D9 w3 b (.slice a l.length cap) l (.ok p)) := H.out.grew G3.out
      clear g3 c0 c1
      go_wp2_with fail
      refine (fail9_any D3.out f e he).mono ?_
      rintro en w4 ⟨rfl, t4, s4⟩
      have F4 : Hid (Fin9 b (.slice a l.length cap) l w w4 (.error (f, e))) := ⟨(G3.out.turn _).trans t4, s4⟩
      clear t4 s4
      go_wp2_with fail
      go_ret
      exact ⟨0, .error (f, e), rfl, F4.out, HT.out⟩
end Go.Proofs.YtohapnninjdlfaaGreatDoor
