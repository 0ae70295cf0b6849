/-
  The cursor's block; the walks of giveUp, peek, below, flag; no statement is proved here.
-/
import Derived.Test.YtchehejjdinifaaGreatDoorCod
import Derived.Test.YtchehejjdinifaaGreatDoorReaders
namespace Go.Proofs.YtchehejjdinifaaGreatDoor
open Go.RowKit
set_option linter.unusedVariables false
set_option linter.unusedSimpArgs false

theorem Reads.drewN {w : World} {v : Value} {l : List Int} (h : Reads w v l) (n : Nat) : Reads (w.drewN n) v l := ((Grew.refl w).drewN n).reads h
theorem q0_same {f : FuncId} {args : Array Value} {w : World} {x : Nat} {v : Value} (h : ∀ k, Calls Tryz.prog f args (w.drewN k) fun e w' => e = .returned v ∧ w' = w.drewN k) :
    Calls Tryz.prog f args (w.drewN x) fun e w'' => e = .returned v ∧ ∃ n, w'' = w.drewN n := (h x).mono fun _ _ ⟨he, hm⟩ => ⟨he, x, hm⟩
/- What cursors and writers give up with. -/
def flt (p e : Int) : List PanicEntry := [{ v := .iface 74 (.agg #[.int .i64 p, .int .i64 e]), recovered := false }]
theorem giveUp_any (p e : Int) (w : World) :
    Calls Tryz.prog 40 #[.int .i64 p, .int .i64 e] w fun en w' => en = .panicked (flt p e) ∧ w' = w := by
  go_enter Tryz.func40, Tryz.ntmps40
  go_wp2
  exact ⟨rfl, rfl, rfl⟩
/- The cursor's block. -/
def cur (v : Value) (p : Int) : Obj := .cells #[v, .int .i64 p] 82 (0, 0)
structure CU (w : World) (b : Nat) (v : Value) (l : List Int) (p : Nat) : Prop where
  obj : w.heap[b]? = some (cur v p)
  rd : Reads w v l
  byt : Byt l
  len : l.length ≤ 140737488351232
  le : p ≤ l.length
  tab : Tab w
  ne : 0 ≠ b
theorem CU.lt {w : World} {b : Nat} {v : Value} {l : List Int} {p : Nat} (h : CU w b v l p) : b < w.heap.size := lt_of_obj h.obj
theorem CU.nob {w : World} {b : Nat} {v : Value} {l : List Int} {p : Nat} (h : CU w b v l p) : NoB w b := by
  obtain ⟨a, cap, rfl⟩ := h.rd.len
  intro j m
  rw [cell_of h.obj]
  rcases j with _ | _ | j <;> simp
theorem CU.of {w0 w : World} {b : Nat} {v : Value} {l : List Int} {p0 q : Nat} (h : CU w0 b v l p0) (t : Turn [b] w0 w) (ho : w.heap[b]? = some (cur v q)) (hq : q ≤ l.length) : CU w b v l q :=
  ⟨ho, h.rd.turn t (by intro x hx; simp at hx; subst hx; exact h.nob), h.byt, h.len, hq, h.tab.turn t (by simp; exact h.ne), h.ne⟩
theorem CU.grew {w w' : World} {b : Nat} {v : Value} {l : List Int} {p : Nat} (h : CU w b v l p) (g : Grew w w') : CU w' b v l p :=
  h.of (g.turn [b]) ((g.turn []).other h.obj (by simp)) h.le
theorem CU.set1 {w : World} {b : Nat} {v : Value} {l : List Int} {p : Nat} (h : CU w b v l p) {q : Nat} (hq : q ≤ l.length) : CU (w.setCell ⟨b, 1, none⟩ (.int .i64 q)) b v l q :=
  h.of ((Turn.refl [b] w).set (Or.inl (by simp)) _) (by rw [heap_set h.obj]; rfl) hq
theorem CU.setN {w0 w : World} {b : Nat} {v : Value} {l : List Int} {p0 p : Nat} (h0 : CU w0 b v l p0) (t : Turn [b] w0 w) (h : CU w b v l p) (N j : Nat) (hN : w0.heap.size ≤ N) (x : Value) : CU (w.setCell ⟨N, j, none⟩ x) b v l p :=
  h0.of (t.set (p := ⟨N, j, none⟩) (Or.inr hN) x) (heap_other h.obj (by have := h0.lt; simp; omega) x) h.le
theorem CU.c0 {w : World} {b : Nat} {v : Value} {l : List Int} {p : Nat} (h : CU w b v l p) : w.cell? ⟨b, 0, none⟩ = some v := by rw [cell_of h.obj]; rfl
theorem CU.c1 {w : World} {b : Nat} {v : Value} {l : List Int} {p : Nat} (h : CU w b v l p) : w.cell? ⟨b, 1, none⟩ = some (.int .i64 p) := by rw [cell_of h.obj]; rfl
theorem CU.z1 {w : World} {b : Nat} {v : Value} {l : List Int} {p : Nat} (h : CU w b v l p) : w.frozen? ⟨b, 1, none⟩ = false := free_of h.obj 1
/- What a call answers of a reading. -/
def Ans {α : Type} (enc : α → Value) (b : Nat) (v : Value) (l : List Int) (w : World) (r : RS α) (en : Ending) (w' : World) : Prop := match r with
  | .ok (x, q) => en = .returned (enc x) ∧ Turn [b] w w' ∧ CU w' b v l q
  | .error (f, e) => en = .panicked (flt f e) ∧ Turn [b] w w'
theorem Ans.grew {α : Type} {enc : α → Value} {b : Nat} {v : Value} {l : List Int} {w0 w : World} {r : RS α} {en : Ending} {w' : World} (h : Ans enc b v l w r en w') (t : Turn [b] w0 w) : Ans enc b v l w0 r en w' := by
  cases r with
  | error e => exact ⟨h.1, t.trans h.2⟩
  | ok x => exact ⟨h.1, t.trans h.2.1, h.2.2⟩

set_option maxRecDepth 100000 in
theorem peek_ok {w : World} {b : Nat} {v : Value} {l : List Int} {p : Nat} (h : CU w b v l p) (hp : p < l.length) :
    Calls Tryz.prog 25 #[.pointer (some ⟨b, 0, none⟩)] w fun en w' => en = .returned (.int .u8 (l.getD p 0)) ∧ Grew w w' := by
  have c0 := h.c0
  have c1 := h.c1
  obtain ⟨a, cap, rfl, hlc, hm, _, h4⟩ := h.rd
  obtain rfl | ⟨bb, off, rfl, hc⟩ := h4
  · simp at hp
  have hcell := hc p hp
  have hd : ((p : Int) == (l.length : Int)) = false := by simp; omega
  have d2 : decide (p < l.length) = true := by simpa using hp
  clear h hc
  generalize l.getD p 0 = c at *
  go_enter Tryz.func25, Tryz.ntmps25
  go_wp2_with fail
  go_quiet (fail)
  go_wp2_with fail
  go_quiet (fail)
  go_wp2_with fail
  go_ret
  exact ⟨rfl, ((Grew.refl w).drewN _).drewN _⟩
set_option maxRecDepth 100000 in
theorem peek_no {w : World} {b : Nat} {v : Value} {l : List Int} {p : Nat} (h : CU w b v l p) (hp : ¬ p < l.length) :
    Calls Tryz.prog 25 #[.pointer (some ⟨b, 0, none⟩)] w fun en w' => en = .panicked (flt p 3) ∧ Grew w w' := by
  have c0 := h.c0
  have c1 := h.c1
  obtain ⟨a, cap, rfl⟩ := h.rd.len
  obtain rfl : p = l.length := by have := h.le; omega
  clear h hp
  go_enter Tryz.func25, Tryz.ntmps25
  go_wp2_with fail
  go_quiet (fail)
  go_wp2_with fail
  refine (giveUp_any _ 3 _).mono ?_
  rintro en w1 ⟨rfl, rfl⟩
  go_wp2_with fail
  exact ⟨rfl, rfl, (Grew.refl w).drewN _⟩
set_option maxRecDepth 100000 in
theorem below_any {w : World} {b : Nat} {v : Value} {l : List Int} {p : Nat} (h : CU w b v l p) (e : Int) (he : 0 ≤ e ∧ e ≤ 255) :
    Calls Tryz.prog 85 #[.pointer (some ⟨b, 0, none⟩), .int .u8 e] w (Ans (fun c => .int .u8 c) b v l w (belowR e l p)) := by
  by_cases hp : p < l.length
  · have hr : belowR e l p = if e ≤ l.getD p 0 then .error (p, 4) else .ok (l.getD p 0, p + 1) := by unfold belowR atR; rw [if_pos hp]
    rw [hr]
    have C := peek_ok h hp
    have H : Hid (CU w b v l p) := h
    have hl := h.len
    generalize l.getD p 0 = c at *
    clear h hr
    by_cases hc : e ≤ c
    · rw [if_pos hc]
      have d1 : decide (e ≤ c) = true := by simpa using hc
      go_enter Tryz.func85, Tryz.ntmps85
      go_wp2_with fail
      refine C.mono ?_
      rintro en w1 ⟨rfl, g1⟩
      have c1 := (H.out.grew g1).c1
      have G1 : Hid (Grew w w1) := g1
      clear C g1
      go_wp2_with fail
      refine (giveUp_any _ 4 _).mono ?_
      rintro en w2 ⟨rfl, h2⟩
      obtain rfl := h2.symm
      go_wp2_with fail
      exact ⟨rfl, rfl, G1.out.turn _⟩
    · rw [if_neg hc]
      have d1 : decide (e ≤ c) = false := by simpa using hc
      go_enter Tryz.func85, Tryz.ntmps85
      go_wp2_with fail
      refine C.mono ?_
      rintro en w1 ⟨rfl, g1⟩
      have c1 := (H.out.grew g1).c1
      have z1 := (H.out.grew g1).z1
      have G1 : Hid (Grew w w1) := g1
      clear C g1
      go_wp2_with fail
      go_ret
      exact ⟨rfl, (G1.out.turn _).set (Or.inl (by simp)) _, by have := (H.out.grew G1.out).set1 (q := p + 1) (by omega); simpa using this⟩
  · have hr : belowR e l p = .error (p, 3) := by unfold belowR atR; rw [if_neg hp]
    rw [hr]
    have C := peek_no h hp
    clear h hr
    go_enter Tryz.func85, Tryz.ntmps85
    go_wp2_with fail
    refine C.mono ?_
    rintro en w1 ⟨rfl, g1⟩
    go_wp2_with fail
    exact ⟨rfl, rfl, g1.turn _⟩
end Go.Proofs.YtchehejjdinifaaGreatDoor
