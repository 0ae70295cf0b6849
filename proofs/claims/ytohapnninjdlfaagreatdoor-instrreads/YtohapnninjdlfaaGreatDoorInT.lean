/-
  The reader of instructions: both ends in one fact; what entry reads, typed; no statement is proved here.
-/
import Derived.Test.YtohapnninjdlfaaGreatDoorInO
import Derived.Test.YtohapnninjdlfaaGreatDoorTopL
import Derived.Laws.Rows
import Derived.Laws.Tables
namespace Go.Proofs.YtohapnninjdlfaaGreatDoor
open Go.RowKit
set_option linter.unusedVariables false
set_option linter.unusedSimpArgs false
set_option linter.constructorNameAsVariable false

/- One fact for both ends of a reading. -/
def TieI {α : Type} (r : RS α) (x : α) : Except (Nat × Nat) Nat → Prop
  | .ok q => r = .ok (x, q)
  | .error e => r = .error e
theorem AnI.tie {α : Type} {enc : α → Value} {b : Nat} {v : Value} {l : List Int} {w : World} {r : RS α} {en : Ending} {w' : World} (h : AnI enc b v l w r en w') : ∃ y st, en = .returned (enc y) ∧ FinI b v l w w' st ∧ TieI r y st := by
  cases r with
  | ok x => obtain ⟨x, q⟩ := x; exact ⟨x, .ok q, h.1, h.2, rfl⟩
  | error x => obtain ⟨f, e⟩ := x; obtain ⟨⟨y, h1⟩, h2⟩ := h; exact ⟨y, .error (f, e), h1, h2, rfl⟩
theorem TieI.map {α β : Type} {r : RS α} {x : α} {st : Except (Nat × Nat) Nat} (f : α → β) (h : TieI r x st) : TieI (mapR f r) (f x) st := by
  cases st with
  | ok q => unfold TieI at *; rw [h]; rfl
  | error e => unfold TieI at *; rw [h]; rfl
theorem TieI.seq {α β : Type} {R : Nat → RS α} {st st1 st2 : Except (Nat × Nat) Nat} {x : α} {K : α → Nat → RS β} {y : β} (h : TieI (runI R st) x st1) (k : TieI (runI (K x) st1) y st2) : TieI (runI (fun p => thenR (R p) K) st) y st2 := by
  cases st with
  | error e =>
    cases st1 with
    | ok q => cases h
    | error e1 =>
      cases st2 with
      | ok q => cases k
      | error e2 => unfold TieI runI at *; injection h with h; injection k with k; subst h; subst k; rfl
  | ok p =>
    cases st1 with
    | ok q =>
      have h' : R p = .ok (x, q) := h
      have : runI (fun p => thenR (R p) K) (.ok p) = runI (K x) (.ok q) := by show thenR (R p) K = K x q; rw [h']; rfl
      rw [this]; exact k
    | error e1 =>
      have h' : R p = .error e1 := h
      have h2 : runI (fun p => thenR (R p) K) (.ok p) = .error e1 := by show thenR (R p) K = _; rw [h']; rfl
      rw [h2]
      cases st2 with
      | ok q => cases k
      | error e2 => unfold TieI runI at *; exact k
theorem runI_map {α β : Type} (f : α → β) (R : Nat → RS α) (st : Except (Nat × Nat) Nat) : runI (fun p => mapR f (R p)) st = mapR f (runI R st) := by cases st <;> rfl
theorem TieI.bad {α β : Type} {R : Nat → RS α} {e : Nat × Nat} {x : α} {st : Except (Nat × Nat) Nat} (h : TieI (runI R (.error e)) x st) : st = .error e := by
  cases st with
  | ok q => cases h
  | error e1 => unfold TieI runI at h; injection h with h; rw [h]
/- A call of entry at a place within. -/
theorem top_ways {α : Type} {R : Nat → RS α} {z : α} {l : List Int} {p : Nat} (ha : Adv l R) (hp : p ≤ l.length) : ∃ (y : α) (f e : Nat) (st : Except (Nat × Nat) Nat), topR R z l p = (y, (f : Int), (e : Int)) ∧ TieI (R p) y st ∧ ((st = .ok f ∧ e = 0 ∧ f ≤ l.length) ∨ (st = .error (f, e) ∧ e ≠ 0)) := by
  rw [topR_in hp]
  obtain ⟨h1, h2⟩ := ha p hp
  cases hx : R p with
  | ok x => obtain ⟨a, q⟩ := x; exact ⟨a, q, 0, .ok q, rfl, rfl, Or.inl ⟨rfl, rfl, (h1 a q hx).2⟩⟩
  | error x => obtain ⟨f, e⟩ := x; exact ⟨z, f, e, .error (f, e), rfl, rfl, Or.inr ⟨rfl, by have := (h2 f e hx).2.1; omega⟩⟩
theorem StI.made {w : World} {b : Nat} {v : Value} {l : List Int} {f e : Nat} {st : Except (Nat × Nat) Nat} (ho : w.heap[b]? = some (rdI v (f : Int) (e : Int))) (h : (st = .ok f ∧ e = 0 ∧ f ≤ l.length) ∨ (st = .error (f, e) ∧ e ≠ 0)) : StI w b v l st := by
  rcases h with ⟨rfl, rfl, h⟩ | ⟨rfl, h⟩
  · exact ⟨ho, h⟩
  · exact ⟨ho, h⟩
/- Where a reading stands. -/
def plc : Except (Nat × Nat) Nat → Nat
  | .ok p => p
  | .error (f, _) => f
theorem StI.plc {w : World} {b : Nat} {v : Value} {l : List Int} {st : Except (Nat × Nat) Nat} (h : StI w b v l st) : ∃ e : Nat, w.heap[b]? = some (rdI v (plc st : Int) (e : Int)) := by
  cases st with
  | ok p => exact ⟨0, h.1⟩
  | error x => obtain ⟨f, e⟩ := x; exact ⟨e, h.1⟩
theorem TieI.seqP {α β : Type} {R : Nat → RS α} {st st1 st2 : Except (Nat × Nat) Nat} {x : α} {K : Nat → α → Nat → RS β} {y : β} (h : TieI (runI R st) x st1) (k : TieI (runI (K (plc st) x) st1) y st2) : TieI (runI (fun p => thenR (R p) (K p)) st) y st2 := by
  cases st with
  | error e =>
    have := TieI.seq (K := K (plc (.error e))) h k
    exact this
  | ok p =>
    have := TieI.seq (st := .ok p) (K := K p) h k
    exact this
theorem TieI.fail {α : Type} (y : α) (st : Except (Nat × Nat) Nat) (pl e : Nat) : TieI (runI (fun _ => (.error (pl, e) : RS α)) st) y (failI st pl e) := by
  cases st <;> rfl
theorem failI_bad (st : Except (Nat × Nat) Nat) (pl e : Nat) : ∃ x, failI st pl e = .error x := by
  cases st <;> exact ⟨_, rfl⟩
theorem TieI.keep {α : Type} {R : Nat → RS α} {st st' : Except (Nat × Nat) Nat} {pl e : Nat} {x : α} (h : TieI (runI R (failI st pl e)) x st') : st' = failI st pl e := by
  obtain ⟨z, hz⟩ := failI_bad st pl e
  rw [hz] at h ⊢
  cases st' with
  | ok q => cases h
  | error e1 => unfold TieI runI at h; injection h with h; rw [h]
theorem TieI.was {α : Type} {R : Nat → RS α} {st : Except (Nat × Nat) Nat} {x : α} {q : Nat} (h : TieI (runI R st) x (.ok q)) : ∃ p, st = .ok p ∧ R p = .ok (x, q) := by
  cases st with
  | ok p => exact ⟨p, rfl, h⟩
  | error e => cases h
/- A number of 32 bits, within its bounds. -/
theorem idx_t {w : World} {b : Nat} {v : Value} {l : List Int} {st : Except (Nat × Nat) Nat} (h : DI w b v l st) :
    Calls Tryz.prog 40 #[.pointer (some ⟨b, 0, none⟩)] w fun en w' => ∃ y st', en = .returned (.int .u32 y) ∧ (0 ≤ y ∧ y ≤ 4294967295) ∧ FinI b v l w w' st' ∧ TieI (runI (u32R l) st) y st' := by
  have hB := h.byt
  refine (iindex_any h).mono ?_
  intro en w1 ha
  obtain ⟨y, st1, rfl, f1, t1⟩ := ha.tie
  cases st1 with
  | ok q =>
    obtain ⟨p, rfl, hp⟩ := t1.was
    have hbd := u32_bd hB h.st.2 hp
    have he : encU y = y := by unfold encU; omega
    exact ⟨y, _, by rw [he], hbd, f1, t1⟩
  | error e => exact ⟨encU y, _, rfl, by unfold encU; omega, f1, t1⟩
theorem numU_t {w : World} {b : Nat} {v : Value} {l : List Int} {st : Except (Nat × Nat) Nat} (h : DI w b v l st) :
    Calls Tryz.prog 66 #[.pointer (some ⟨b, 0, none⟩), .func (.func 67) #[] #[]] w fun en w' => ∃ y st', en = .returned (.int .u32 y) ∧ (0 ≤ y ∧ y ≤ 4294967295) ∧ FinI b v l w w' st' ∧ TieI (runI (u32R l) st) y st' := by
  have hB := h.byt
  refine (numUI h).mono ?_
  intro en w1 ha
  obtain ⟨y, st1, rfl, f1, t1⟩ := ha.tie
  cases st1 with
  | ok q =>
    obtain ⟨p, rfl, hp⟩ := t1.was
    have hbd := u32_bd hB h.st.2 hp
    have he : encU y = y := by unfold encU; omega
    exact ⟨y, _, by rw [he], hbd, f1, t1⟩
  | error e => exact ⟨encU y, _, rfl, by unfold encU; omega, f1, t1⟩
theorem heap_set_ne {w : World} {N j b : Nat} {x : Value} (h : b ≠ N) : (w.setCell ⟨N, j, none⟩ x).heap[b]? = w.heap[b]? := by
  simp only [World.setCell, Array.getElem?_modify]
  rw [if_neg (fun hh => h hh.symm)]
set_option maxRecDepth 100000 in
set_option maxHeartbeats 2000000 in
theorem typedB_any {w : World} {b : Nat} {v : Value} {l : List Int} {st : Except (Nat × Nat) Nat} (h : DI w b v l st) :
    Calls Tryz.prog 68 #[.pointer (some ⟨b, 0, none⟩), .func (.func 69) #[] #[]] w fun en w' => ∃ y st', en = .returned (BK.v y) ∧ FinI b v l w w' st' ∧ TieI (runI (blockR l) st) y st' := by
  have H : Hid (DI w b v l st) := h
  have hb : b < w.heap.size := h.lt
  have hl := h.len
  cases st with
  | error x =>
    obtain ⟨f, e⟩ := x
    have c2 := cell_of h.st.1 2
    simp at c2
    have de : ((e : Int) == 0) = false := by have := h.st.2; simp; exact this
    clear h
    go_enter Tryz.func68, Tryz.ntmps68
    go_wp2_with fail
    refine bodyPost_ret (v := BK.v ⟨0, ⟨0, false, 0⟩⟩) (by simp [results, Tryz.results68, go_sem, BK.v]) rfl ?_
    exact ⟨_, .error (f, e), rfl, ⟨(Turn.refl _ _).alloc _, H.out.grew ((Grew.refl _).alloc _)⟩, rfl⟩
  | ok p =>
    have c0 := cell_of h.st.1 0
    have c1 := cell_of h.st.1 1
    have c2 := cell_of h.st.1 2
    have z1 := free_of h.st.1 1
    have z2 := free_of h.st.1 2
    have hle := h.st.2
    simp at c0 c1 c2
    have HC : Hid (∀ w1, Grew w w1 → Calls Tryz.prog 69 #[v, .int .i64 (p : Int)] w1 fun en w' => en = .returned (ansB (topR (blockR l) ⟨0, ⟨0, false, 0⟩⟩ l p)) ∧ Grew w1 w') := fun w1 g => topB_any v l p w1 (g.reads h.rd) h.byt h.len (h.tab.grew g)
    obtain ⟨⟨y0, ⟨y1, y2, y3⟩⟩, f, e, st', ht, hti, hw⟩ := top_ways (z := (⟨0, ⟨0, false, 0⟩⟩ : BK)) (block_adv l) hle
    rw [ht] at HC
    unfold ansB at HC
    unfold BK.v at HC
    simp only at HC
    have HT : Hid (TieI (blockR l p) ⟨y0, ⟨y1, y2, y3⟩⟩ st') := hti
    have HW : Hid ((st' = .ok f ∧ e = 0 ∧ f ≤ l.length) ∨ (st' = .error (f, e) ∧ e ≠ 0)) := hw
    obtain ⟨a, cap, rfl⟩ := h.rd.len
    clear h ht hti hw
    have hne : b ≠ w.heap.size := by omega
    go_enter Tryz.func68, Tryz.ntmps68
    go_wp2_with fail
    go_region_with (first
      | (go_at_call 69
         refine (HC.out _ (by first | exact Grew.refl _ | exact (Grew.refl _).drew | exact (Grew.refl _).drewN _ | exact (Grew.refl _).alloc _ | exact ((Grew.refl _).alloc _).drew | exact ((Grew.refl _).alloc _).drewN _)).mono ?_
         rintro en w3 ⟨rfl, g3⟩
         have G3 : Hid (Grew w w3) := (by first | exact Grew.refl _ | exact (Grew.refl _).drew | exact (Grew.refl _).drewN _ | exact (Grew.refl _).alloc _ | exact ((Grew.refl _).alloc _).drew | exact ((Grew.refl _).alloc _).drewN _ : Grew w _).trans g3
         have hN := (g3.turn []).other (heap_alloc_last w _) (by simp)
         have k0 := cell_of hN 0
         have x0 := free_of hN 0
         have k1 := cell_of hN 1
         have x1 := free_of hN 1
         have k2 := cell_of hN 2
         have x2 := free_of hN 2
         have k3 := cell_of hN 3
         have x3 := free_of hN 3
         have hB := (G3.out.turn []).other H.out.st.1 (by simp)
         have m1 := cell_of hB 1
         have n1 := free_of hB 1
         have m2 := cell_of hB 2
         have n2 := free_of hB 2
         simp at k0 k1 k2 k3 m1 m2
         have HB : Hid (w3.heap[b]? = some (rdI (.slice a l.length cap) (p : Int) 0)) := hB
         have HN : Hid (w3.heap[w.heap.size]? = some (.cells #[.int .i64 0, .int .i64 0, .bool false, .int .i64 0] 30 (0, 0))) := hN
         clear g3 hN hB))
    all_goals
      go_wp2_with fail
      have o1 := heap_set (heap_set (heap_set (heap_set HN.out 0 (.int .i64 y0)) 1 (.int .i64 y1)) 2 (.bool y2)) 3 (.int .i64 y3)
      have o2 := (heap_set_ne (x := .int .i64 (e : Int)) (j := 2) (Ne.symm hne)).trans ((heap_set_ne (x := .int .i64 (f : Int)) (j := 1) (Ne.symm hne)).trans o1)
      have o3 := heap_set (heap_set (heap_set (heap_set o2 0 (.int .i64 y0)) 1 (.int .i64 y1)) 2 (.bool y2)) 3 (.int .i64 y3)
      refine bodyPost_ret (v := BK.v ⟨y0, ⟨y1, y2, y3⟩⟩) ?_ rfl ?_
      · exact results_cell_row Tryz.results68 _ _ w.heap.size 30 _ (0, 0) _ rfl o3 Tryz.underlying30 rfl (by kernel_rfl)
      clear o1 o2 o3
      refine ⟨_, st', rfl, ?_, HT.out⟩
      refine (fun t => ⟨t, H.out.of t (StI.made (by simp only [heap_set_ne hne]; rw [heap_set (heap_set (by simp only [heap_set_ne hne]; exact HB.out) 1 _) 2 _]; simp [rdI]) HW.out)⟩) ?_
      refine Turn.set (Turn.set (Turn.set (Turn.set (Turn.set (Turn.set (Turn.set (Turn.set (Turn.set (Turn.set ?_ (Or.inr (by simp)) _) (Or.inr (by simp)) _) (Or.inr (by simp)) _) (Or.inr (by simp)) _) (Or.inl (by simp)) _) (Or.inl (by simp)) _) (Or.inr (by simp)) _) (Or.inr (by simp)) _) (Or.inr (by simp)) _) (Or.inr (by simp)) _
      exact G3.out.turn _
set_option maxRecDepth 100000 in
set_option maxHeartbeats 2000000 in
theorem typedH_any {w : World} {b : Nat} {v : Value} {l : List Int} {st : Except (Nat × Nat) Nat} (h : DI w b v l st) :
    Calls Tryz.prog 84 #[.pointer (some ⟨b, 0, none⟩), .func (.func 85) #[] #[]] w fun en w' => ∃ y st', en = .returned (.int .i64 y) ∧ FinI b v l w w' st' ∧ TieI (runI (heapR l) st) y st' := by
  have H : Hid (DI w b v l st) := h
  have hb : b < w.heap.size := h.lt
  have hl := h.len
  cases st with
  | error x =>
    obtain ⟨f, e⟩ := x
    have c2 := cell_of h.st.1 2
    simp at c2
    have de : ((e : Int) == 0) = false := by have := h.st.2; simp; exact this
    clear h
    go_enter Tryz.func84, Tryz.ntmps84
    go_wp2_with fail
    go_ret
    exact ⟨0, .error (f, e), rfl, ⟨Turn.refl _ _, H.out⟩, rfl⟩
  | ok p =>
    have c0 := cell_of h.st.1 0
    have c1 := cell_of h.st.1 1
    have c2 := cell_of h.st.1 2
    have z1 := free_of h.st.1 1
    have z2 := free_of h.st.1 2
    have hle := h.st.2
    simp at c0 c1 c2
    have HC : Hid (∀ w1, Grew w w1 → Calls Tryz.prog 85 #[v, .int .i64 (p : Int)] w1 fun en w' => en = .returned (ansH (topR (heapR l) 0 l p)) ∧ Grew w1 w') := fun w1 g => topH_any v l p w1 (g.reads h.rd) h.byt h.len (h.tab.grew g)
    obtain ⟨y, f, e, st', ht, hti, hw⟩ := top_ways (z := (0 : Int)) (heap_adv l) hle
    rw [ht] at HC
    unfold ansH at HC
    skip
    simp only at HC
    have HT : Hid (TieI (heapR l p) y st') := hti
    have HW : Hid ((st' = .ok f ∧ e = 0 ∧ f ≤ l.length) ∨ (st' = .error (f, e) ∧ e ≠ 0)) := hw
    obtain ⟨a, cap, rfl⟩ := h.rd.len
    clear h ht hti hw
    have hne : b ≠ w.heap.size := by omega
    go_enter Tryz.func84, Tryz.ntmps84
    go_wp2_with fail
    go_region_with (first
      | (go_at_call 85
         refine (HC.out _ (by first | exact Grew.refl _ | exact (Grew.refl _).drew | exact (Grew.refl _).drewN _ | exact (Grew.refl _).alloc _ | exact ((Grew.refl _).alloc _).drew | exact ((Grew.refl _).alloc _).drewN _)).mono ?_
         rintro en w3 ⟨rfl, g3⟩
         have G3 : Hid (Grew w w3) := (by first | exact Grew.refl _ | exact (Grew.refl _).drew | exact (Grew.refl _).drewN _ | exact (Grew.refl _).alloc _ | exact ((Grew.refl _).alloc _).drew | exact ((Grew.refl _).alloc _).drewN _ : Grew w _).trans g3
         have hB := (G3.out.turn []).other H.out.st.1 (by simp)
         have m1 := cell_of hB 1
         have n1 := free_of hB 1
         have m2 := cell_of hB 2
         have n2 := free_of hB 2
         simp at m1 m2
         have HB : Hid (w3.heap[b]? = some (rdI (.slice a l.length cap) (p : Int) 0)) := hB
         clear g3 hB))
    all_goals
      go_wp2_with fail
      go_ret
      refine ⟨y, st', rfl, ?_, HT.out⟩
      refine (fun t => ⟨t, H.out.of t (StI.made (by rw [heap_set (heap_set HB.out 1 _) 2 _]; simp [rdI]) HW.out)⟩) ?_
      exact ((G3.out.turn _).set (Or.inl (by simp)) _).set (Or.inl (by simp)) _
set_option maxRecDepth 100000 in
set_option maxHeartbeats 2000000 in
theorem typedR_any {w : World} {b : Nat} {v : Value} {l : List Int} {st : Except (Nat × Nat) Nat} (h : DI w b v l st) :
    Calls Tryz.prog 73 #[.pointer (some ⟨b, 0, none⟩), .func (.func 74) #[] #[]] w fun en w' => ∃ rv y st', en = .returned rv ∧ RowV w.heap.size w' rv y ∧ FinI b v l w w' st' ∧ TieI (runI (valsR l) st) y st' := by
  have H : Hid (DI w b v l st) := h
  have hb : b < w.heap.size := h.lt
  have hl := h.len
  cases st with
  | error x =>
    obtain ⟨f, e⟩ := x
    have c2 := cell_of h.st.1 2
    simp at c2
    have de : ((e : Int) == 0) = false := by have := h.st.2; simp; exact this
    clear h
    go_enter Tryz.func73, Tryz.ntmps73
    go_wp2_with fail
    go_ret
    exact ⟨_, [], .error (f, e), rfl, RowV.nil _ _, ⟨Turn.refl _ _, H.out⟩, rfl⟩
  | ok p =>
    have c0 := cell_of h.st.1 0
    have c1 := cell_of h.st.1 1
    have c2 := cell_of h.st.1 2
    have z1 := free_of h.st.1 1
    have z2 := free_of h.st.1 2
    have hle := h.st.2
    simp at c0 c1 c2
    have HC : Hid (∀ w1, Grew w w1 → Calls Tryz.prog 74 #[v, .int .i64 (p : Int)] w1 fun en w' => ∃ rv, en = .returned (.tuple #[rv, .int .i64 (topR (valsR l) [] l p).2.1, .int .i64 (topR (valsR l) [] l p).2.2]) ∧ RowV w1.heap.size w' rv (topR (valsR l) [] l p).1 ∧ Grew w1 w') := fun w1 g => topL_any v l p w1 (g.reads h.rd) h.byt h.len (h.tab.grew g)
    obtain ⟨y, f, e, st', ht, hti, hw⟩ := top_ways (z := ([] : List VT)) (vals_adv l) hle
    rw [ht] at HC
    simp only at HC
    have HT : Hid (TieI (valsR l p) y st') := hti
    have HW : Hid ((st' = .ok f ∧ e = 0 ∧ f ≤ l.length) ∨ (st' = .error (f, e) ∧ e ≠ 0)) := hw
    obtain ⟨a, cap, rfl⟩ := h.rd.len
    clear h ht hti hw
    go_enter Tryz.func73, Tryz.ntmps73
    go_wp2_with fail
    go_region_with (first
      | (go_at_call 74
         refine (HC.out _ (by first | exact Grew.refl _ | exact (Grew.refl _).drew | exact (Grew.refl _).drewN _ | exact (Grew.refl _).alloc _ | exact ((Grew.refl _).alloc _).drew | exact ((Grew.refl _).alloc _).drewN _)).mono ?_
         rintro en w3 ⟨rv, rfl, r3, g3⟩
         have G3 : Hid (Grew w w3) := (by first | exact Grew.refl _ | exact (Grew.refl _).drew | exact (Grew.refl _).drewN _ | exact (Grew.refl _).alloc _ | exact ((Grew.refl _).alloc _).drew | exact ((Grew.refl _).alloc _).drewN _ : Grew w _).trans g3
         have R3 : Hid (RowV w.heap.size w3 rv y) := r3
         obtain ⟨ra, rc, hrv⟩ := row_one r3
         subst hrv
         have hB := (G3.out.turn []).other H.out.st.1 (by simp)
         have m1 := cell_of hB 1
         have n1 := free_of hB 1
         have m2 := cell_of hB 2
         have n2 := free_of hB 2
         simp at m1 m2
         have HB : Hid (w3.heap[b]? = some (rdI (.slice a l.length cap) (p : Int) 0)) := hB
         clear g3 hB r3))
    all_goals
      go_wp2_with fail
      go_ret
      refine ⟨_, y, st', rfl, ?_, ?_, HT.out⟩
      · exact row_set (row_set R3.out (NoT.of HB.out (by decide)) _) (NoT.of (heap_set HB.out 1 _) (by decide)) _
      refine (fun t => ⟨t, H.out.of t (StI.made (by rw [heap_set (heap_set HB.out 1 _) 2 _]; simp [rdI]) HW.out)⟩) ?_
      exact ((G3.out.turn _).set (Or.inl (by simp)) _).set (Or.inl (by simp)) _
end Go.Proofs.YtohapnninjdlfaaGreatDoor
