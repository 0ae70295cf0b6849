/-
  The walks of numeral, typeNumber, index; no statement is proved here.
-/
import Derived.Test.YtohapnninjdlfaaGreatDoorReadB
import Derived.Test.YtohapnninjdlfaaGreatDoorReaders
namespace Go.Proofs.YtohapnninjdlfaaGreatDoor
open Go.RowKit
set_option linter.unusedVariables false
set_option linter.unusedSimpArgs false

theorem Reads.drewN {w : World} {v : Value} {l : List Int} (h : Reads w v l) (n : Nat) : Reads (w.drewN n) v l := ((Grew.refl w).drewN n).reads h
theorem q0_same {f : FuncId} {args : Array Value} {w : World} {x : Nat} {v : Value} (h : ∀ k, Calls Tryz.prog f args (w.drewN k) fun e w' => e = .returned v ∧ w' = w.drewN k) :
    Calls Tryz.prog f args (w.drewN x) fun e w'' => e = .returned v ∧ ∃ n, w'' = w.drewN n := (h x).mono fun _ _ ⟨he, hm⟩ => ⟨he, x, hm⟩
/- What cursors and writers give up with. -/
def flt (p e : Int) : List PanicEntry := [{ v := .iface 175 (.agg #[.int .i64 p, .int .i64 e]), recovered := false }]
theorem giveUp_any (p e : Int) (w : World) :
    Calls Tryz.prog 132 #[.int .i64 p, .int .i64 e] w fun en w' => en = .panicked (flt p e) ∧ w' = w := by
  go_enter Tryz.func132, Tryz.ntmps132
  go_wp2
  exact ⟨rfl, rfl, rfl⟩
/- The cursor's block. -/
def cur (v : Value) (p : Int) : Obj := .cells #[v, .int .i64 p] 177 (0, 0)
structure CU (w : World) (b : Nat) (v : Value) (l : List Int) (p : Nat) : Prop where
  obj : w.heap[b]? = some (cur v p)
  rd : Reads w v l
  byt : Byt l
  len : l.length ≤ 140737488351232
  le : p ≤ l.length
  tab : Tab w
  ne : 1 ≠ b
theorem CU.lt {w : World} {b : Nat} {v : Value} {l : List Int} {p : Nat} (h : CU w b v l p) : b < w.heap.size := lt_of_obj h.obj
theorem CU.nob {w : World} {b : Nat} {v : Value} {l : List Int} {p : Nat} (h : CU w b v l p) : NoB w b := by
  obtain ⟨a, cap, rfl⟩ := h.rd.len
  intro j m
  rw [cell_of h.obj]
  rcases j with _ | _ | j <;> simp
theorem CU.of {w0 w : World} {b : Nat} {v : Value} {l : List Int} {p0 q : Nat} (h : CU w0 b v l p0) (t : Turn [b] w0 w) (ho : w.heap[b]? = some (cur v q)) (hq : q ≤ l.length) : CU w b v l q :=
  ⟨ho, h.rd.turn t (by intro x hx; simp at hx; subst hx; exact h.nob), h.byt, h.len, hq, h.tab.turn t (by simp; exact h.ne), h.ne⟩
theorem CU.grew {w w' : World} {b : Nat} {v : Value} {l : List Int} {p : Nat} (h : CU w b v l p) (g : Grew w w') : CU w' b v l p :=
  h.of (g.turn [b]) ((g.turn []).other h.obj (by simp)) h.le
theorem CU.set1 {w : World} {b : Nat} {v : Value} {l : List Int} {p : Nat} (h : CU w b v l p) {q : Nat} (hq : q ≤ l.length) : CU (w.setCell ⟨b, 1, none⟩ (.int .i64 q)) b v l q :=
  h.of ((Turn.refl [b] w).set (Or.inl (by simp)) _) (by rw [heap_set h.obj]; rfl) hq
theorem CU.setN {w0 w : World} {b : Nat} {v : Value} {l : List Int} {p0 p : Nat} (h0 : CU w0 b v l p0) (t : Turn [b] w0 w) (h : CU w b v l p) (N j : Nat) (hN : w0.heap.size ≤ N) (x : Value) : CU (w.setCell ⟨N, j, none⟩ x) b v l p :=
  h0.of (t.set (p := ⟨N, j, none⟩) (Or.inr hN) x) (heap_other h.obj (by have := h0.lt; simp; omega) x) h.le
theorem CU.c0 {w : World} {b : Nat} {v : Value} {l : List Int} {p : Nat} (h : CU w b v l p) : w.cell? ⟨b, 0, none⟩ = some v := by rw [cell_of h.obj]; rfl
theorem CU.c1 {w : World} {b : Nat} {v : Value} {l : List Int} {p : Nat} (h : CU w b v l p) : w.cell? ⟨b, 1, none⟩ = some (.int .i64 p) := by rw [cell_of h.obj]; rfl
theorem CU.z1 {w : World} {b : Nat} {v : Value} {l : List Int} {p : Nat} (h : CU w b v l p) : w.frozen? ⟨b, 1, none⟩ = false := free_of h.obj 1
/- What a call answers of a reading. -/
def Ans {α : Type} (enc : α → Value) (b : Nat) (v : Value) (l : List Int) (w : World) (r : RS α) (en : Ending) (w' : World) : Prop := match r with
  | .ok (x, q) => en = .returned (enc x) ∧ Turn [b] w w' ∧ CU w' b v l q
  | .error (f, e) => en = .panicked (flt f e) ∧ Turn [b] w w'
theorem Ans.grew {α : Type} {enc : α → Value} {b : Nat} {v : Value} {l : List Int} {w0 w : World} {r : RS α} {en : Ending} {w' : World} (h : Ans enc b v l w r en w') (t : Turn [b] w0 w) : Ans enc b v l w0 r en w' := by
  cases r with
  | error e => exact ⟨h.1, t.trans h.2⟩
  | ok x => exact ⟨h.1, t.trans h.2.1, h.2.2⟩

set_option maxRecDepth 100000 in
theorem peek_ok {w : World} {b : Nat} {v : Value} {l : List Int} {p : Nat} (h : CU w b v l p) (hp : p < l.length) :
    Calls Tryz.prog 124 #[.pointer (some ⟨b, 0, none⟩)] w fun en w' => en = .returned (.int .u8 (l.getD p 0)) ∧ Grew w w' := by
  have c0 := h.c0
  have c1 := h.c1
  obtain ⟨a, cap, rfl, hlc, hm, _, h4⟩ := h.rd
  obtain rfl | ⟨bb, off, rfl, hc⟩ := h4
  · simp at hp
  have hcell := hc p hp
  have hd : ((p : Int) == (l.length : Int)) = false := by simp; omega
  have d2 : decide (p < l.length) = true := by simpa using hp
  clear h hc
  generalize l.getD p 0 = c at *
  go_enter Tryz.func124, Tryz.ntmps124
  go_wp2_with fail
  go_quiet (fail)
  go_wp2_with fail
  go_quiet (fail)
  go_wp2_with fail
  go_ret
  exact ⟨rfl, ((Grew.refl w).drewN _).drewN _⟩
set_option maxRecDepth 100000 in
theorem peek_no {w : World} {b : Nat} {v : Value} {l : List Int} {p : Nat} (h : CU w b v l p) (hp : ¬ p < l.length) :
    Calls Tryz.prog 124 #[.pointer (some ⟨b, 0, none⟩)] w fun en w' => en = .panicked (flt p 3) ∧ Grew w w' := by
  have c0 := h.c0
  have c1 := h.c1
  obtain ⟨a, cap, rfl⟩ := h.rd.len
  obtain rfl : p = l.length := by have := h.le; omega
  clear h hp
  go_enter Tryz.func124, Tryz.ntmps124
  go_wp2_with fail
  go_quiet (fail)
  go_wp2_with fail
  refine (giveUp_any _ 3 _).mono ?_
  rintro en w1 ⟨rfl, rfl⟩
  go_wp2_with fail
  exact ⟨rfl, rfl, (Grew.refl w).drewN _⟩
end Go.Proofs.YtohapnninjdlfaaGreatDoor

namespace Go.Proofs.YtohapnninjdlfaaGreatDoor
open Go.RowKit
set_option linter.unusedVariables false
set_option linter.unusedSimpArgs false

theorem wrap64_sg (n : Int) : wrap64 n = sg64 n := by unfold wrap64 sg64; omega
set_option maxRecDepth 100000 in
set_option maxHeartbeats 1000000 in
theorem numU_any {w : World} {b : Nat} {v : Value} {l : List Int} {p : Nat} (h : CU w b v l p) :
    Calls Tryz.prog 135 #[.pointer (some ⟨b, 0, none⟩), .func (.func 67) #[] #[]] w (Ans (fun n => .int .u32 n) b v l w (numR 32 false l p)) := by
  have c0 := h.c0
  have c1 := h.c1
  have z1 := h.z1
  obtain ⟨a, cap, rfl⟩ := h.rd.len
  have H : Hid (CU w b (.slice a l.length cap) l p) := h
  have hl := h.len
  have HC : Hid (∀ k, Calls Tryz.prog 67 #[.slice a l.length cap, .int .i64 (p : Int), .int .i64 (l.length : Int)] (w.drewN k) fun e w' => e = .returned (.tuple #[.int .u32 ((rd 32 false l p l.length).1 % 4294967296), .int .i64 (rd 32 false l p l.length).2.1, .int .i64 (rd 32 false l p l.length).2.2]) ∧ w' = w.drewN k) := fun k => u32_any _ l p l.length _ (h.rd.drewN k) h.byt h.len
  rcases numR_ways (b := 32) (sg := false) h.le with ⟨n, q, hr, h1, h2, h3⟩ | ⟨n, f, e, hr, h1, h2, h3, h4⟩
  · rw [h3]
    have hb := rd_32 h.byt hr
    have hmod : n % 4294967296 = n := by omega
    rw [hr] at HC
    simp only [hmod] at HC
    clear h hr h3
    go_enter Tryz.func135, Tryz.ntmps135
    go_wp2_with fail
    go_quiet ((go_at_call 67; exact q0_same HC.out))
    go_wp2_with fail
    go_ret
    exact ⟨rfl, ((Turn.refl _ _).drewN _).set (Or.inl (by simp)) _, (H.out.grew ((Grew.refl w).drewN _)).set1 h2⟩
  · rw [h4]
    rw [hr] at HC
    simp only at HC
    have he : ((e : Int) != 0) = true := by
      rcases h3 with rfl | rfl <;> rfl
    clear h hr h4 h3
    go_enter Tryz.func135, Tryz.ntmps135
    go_wp2_with fail
    go_quiet ((go_at_call 67; exact q0_same HC.out))
    go_wp2_with fail
    refine (giveUp_any _ _ _).mono ?_
    rintro en w1 ⟨rfl, h1⟩
    obtain rfl := h1.symm
    go_wp2_with fail
    exact ⟨rfl, rfl, (Turn.refl _ _).drewN _⟩
set_option maxRecDepth 100000 in
set_option maxHeartbeats 1000000 in
theorem numS_any {w : World} {b : Nat} {v : Value} {l : List Int} {p : Nat} (h : CU w b v l p) :
    Calls Tryz.prog 134 #[.pointer (some ⟨b, 0, none⟩), .func (.func 128) #[] #[]] w (Ans (fun n => .int .i64 (sg64 n)) b v l w (numR 33 true l p)) := by
  have c0 := h.c0
  have c1 := h.c1
  have z1 := h.z1
  obtain ⟨a, cap, rfl⟩ := h.rd.len
  have H : Hid (CU w b (.slice a l.length cap) l p) := h
  have hl := h.len
  have HC : Hid (∀ k, Calls Tryz.prog 128 #[.slice a l.length cap, .int .i64 (p : Int), .int .i64 (l.length : Int)] (w.drewN k) fun e w' => e = .returned (.tuple #[.int .i64 (sg64 (rd 33 true l p l.length).1), .int .i64 (rd 33 true l p l.length).2.1, .int .i64 (rd 33 true l p l.length).2.2]) ∧ w' = w.drewN k) := fun k => by rw [← wrap64_sg]; exact s33_any _ l p l.length _ (h.rd.drewN k) h.byt h.len
  rcases numR_ways (b := 33) (sg := true) h.le with ⟨n, q, hr, h1, h2, h3⟩ | ⟨n, f, e, hr, h1, h2, h3, h4⟩
  · rw [h3]
    rw [hr] at HC
    simp only at HC
    clear h hr h3
    go_enter Tryz.func134, Tryz.ntmps134
    go_wp2_with fail
    go_quiet ((go_at_call 128; exact q0_same HC.out))
    go_wp2_with fail
    go_ret
    exact ⟨rfl, ((Turn.refl _ _).drewN _).set (Or.inl (by simp)) _, (H.out.grew ((Grew.refl w).drewN _)).set1 h2⟩
  · rw [h4]
    rw [hr] at HC
    simp only at HC
    have he : ((e : Int) != 0) = true := by
      rcases h3 with rfl | rfl <;> rfl
    clear h hr h4 h3
    go_enter Tryz.func134, Tryz.ntmps134
    go_wp2_with fail
    go_quiet ((go_at_call 128; exact q0_same HC.out))
    go_wp2_with fail
    refine (giveUp_any _ _ _).mono ?_
    rintro en w1 ⟨rfl, h1⟩
    obtain rfl := h1.symm
    go_wp2_with fail
    exact ⟨rfl, rfl, (Turn.refl _ _).drewN _⟩
set_option maxRecDepth 100000 in
set_option maxHeartbeats 1000000 in
theorem typeS_any {w : World} {b : Nat} {v : Value} {l : List Int} {p : Nat} (h : CU w b v l p) :
    Calls Tryz.prog 127 #[.pointer (some ⟨b, 0, none⟩), .func (.func 128) #[] #[]] w (Ans (fun n => .int .i64 n) b v l w (tyS l p)) := by
  have c1 := h.c1
  have C := numS_any h
  clear h
  unfold tyS
  cases hx : numR 33 true l p with
  | error y =>
    obtain ⟨f, e⟩ := y
    rw [hx] at C
    simp only
    clear hx
    go_enter Tryz.func127, Tryz.ntmps127
    go_wp2_with fail
    refine C.mono ?_
    rintro en w1 ⟨rfl, t1⟩
    go_wp2_with fail
    exact ⟨rfl, rfl, t1⟩
  | ok y =>
    obtain ⟨n, q⟩ := y
    rw [hx] at C
    simp only
    clear hx
    by_cases h0 : sg64 n < 0
    · rw [if_pos h0]
      have d0 : decide (sg64 n < 0) = true := by simpa using h0
      go_enter Tryz.func127, Tryz.ntmps127
      go_wp2_with fail
      refine C.mono ?_
      rintro en w1 ⟨rfl, t1, u1⟩
      have T1 : Hid (Turn [b] w w1) := t1
      clear C t1 u1
      go_wp2_with fail
      refine (giveUp_any _ 4 _).mono ?_
      rintro en w2 ⟨rfl, h2⟩
      obtain rfl := h2.symm
      go_wp2_with fail
      exact ⟨rfl, rfl, T1.out⟩
    · rw [if_neg h0]
      have d0 : decide (sg64 n < 0) = false := by simpa using h0
      by_cases h3 : 2147483647 < sg64 n
      · rw [if_pos h3]
        have d3 : decide (2147483647 < sg64 n) = true := by simpa using h3
        go_enter Tryz.func127, Tryz.ntmps127
        go_wp2_with fail
        refine C.mono ?_
        rintro en w1 ⟨rfl, t1, u1⟩
        have T1 : Hid (Turn [b] w w1) := t1
        clear C t1 u1
        go_wp2_with fail
        refine (giveUp_any _ 2 _).mono ?_
        rintro en w2 ⟨rfl, h2⟩
        obtain rfl := h2.symm
        go_wp2_with fail
        exact ⟨rfl, rfl, T1.out⟩
      · rw [if_neg h3]
        have d3 : decide (2147483647 < sg64 n) = false := by simpa using h3
        go_enter Tryz.func127, Tryz.ntmps127
        go_wp2_with fail
        refine C.mono ?_
        rintro en w1 ⟨rfl, t1, u1⟩
        have T1 : Hid (Turn [b] w w1) := t1
        have U1 : Hid (CU w1 b v l q) := u1
        clear C t1 u1
        go_wp2_with fail
        go_ret
        exact ⟨rfl, T1.out, U1.out⟩
theorem Calls.ans {α : Type} {enc : α → Value} {b : Nat} {v : Value} {l : List Int} {w : World} {r : RS α} {f : FuncId} {args : Array Value} {Q : Ending → World → Prop} (h : Calls Tryz.prog f args w (Ans enc b v l w r))
    (hok : ∀ x q w', r = .ok (x, q) → Turn [b] w w' → CU w' b v l q → Q (.returned (enc x)) w') (her : ∀ p e w', r = .error (p, e) → Turn [b] w w' → Q (.panicked (flt p e)) w') : Calls Tryz.prog f args w Q := by
  refine h.mono ?_
  intro en w' ha
  cases r with
  | error y => obtain ⟨p, e⟩ := y; obtain ⟨rfl, t⟩ := ha; exact her p e w' rfl t
  | ok y => obtain ⟨x, q⟩ := y; obtain ⟨rfl, t, u⟩ := ha; exact hok x q w' rfl t u
end Go.Proofs.YtohapnninjdlfaaGreatDoor
