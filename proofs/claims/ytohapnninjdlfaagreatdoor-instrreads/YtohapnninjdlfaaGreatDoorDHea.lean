/-
  The document's reading: the walks of heap and val; no statement is proved here.
-/
import Derived.Test.YtohapnninjdlfaaGreatDoorTopV
import Derived.Test.YtohapnninjdlfaaGreatDoorInB
namespace Go.Proofs.YtohapnninjdlfaaGreatDoor
open Go.RowKit
set_option linter.unusedVariables false
set_option linter.unusedSimpArgs false
set_option linter.constructorNameAsVariable false

/- The reading's block. -/
def rdg (v : Value) (a pl e : Int) : Obj := .cells #[v, .int .i64 a, .int .i64 pl, .int .i64 e] 167 (0, 0)
def StO (w : World) (b : Nat) (v : Value) (l : List Int) : Except (Nat × Nat) Nat → Prop
  | .ok p => w.heap[b]? = some (rdg v p 0 0) ∧ p ≤ l.length
  | .error (f, e) => ∃ a : Nat, w.heap[b]? = some (rdg v a f e) ∧ a ≤ l.length ∧ e ≠ 0
structure DR (w : World) (b : Nat) (v : Value) (l : List Int) (st : Except (Nat × Nat) Nat) : Prop where
  st : StO w b v l st
  rd : Reads w v l
  byt : Byt l
  len : l.length ≤ 140737488351232
theorem DR.obj {w : World} {b : Nat} {v : Value} {l : List Int} {st : Except (Nat × Nat) Nat} (h : DR w b v l st) : ∃ a pl e, w.heap[b]? = some (rdg v a pl e) := by
  cases st with
  | ok p => exact ⟨_, _, _, h.st.1⟩
  | error x => obtain ⟨f, e⟩ := x; obtain ⟨a, h1, _⟩ := h.st; exact ⟨_, _, _, h1⟩
theorem DR.lt {w : World} {b : Nat} {v : Value} {l : List Int} {st : Except (Nat × Nat) Nat} (h : DR w b v l st) : b < w.heap.size := by
  obtain ⟨a, pl, e, ho⟩ := h.obj
  exact lt_of_obj ho
theorem DR.nob {w : World} {b : Nat} {v : Value} {l : List Int} {st : Except (Nat × Nat) Nat} (h : DR w b v l st) : NoB w b := by
  obtain ⟨a, pl, e, ho⟩ := h.obj
  obtain ⟨sa, cap, rfl⟩ := h.rd.len
  intro j m
  rw [cell_of ho]
  rcases j with _ | _ | _ | _ | j <;> simp
theorem DR.no {w : World} {b : Nat} {v : Value} {l : List Int} {st : Except (Nat × Nat) Nat} (h : DR w b v l st) {e : TypeId} (he : 167 ≠ e) : ∀ x ∈ [b], NoT w x e := by
  intro x hx
  obtain ⟨a, pl, e', ho⟩ := h.obj
  simp at hx
  subst hx
  exact NoT.of ho he
theorem DR.of {w0 w : World} {b : Nat} {v : Value} {l : List Int} {st0 st : Except (Nat × Nat) Nat} (h : DR w0 b v l st0) (t : Turn [b] w0 w) (hs : StO w b v l st) : DR w b v l st :=
  ⟨hs, h.rd.turn t (by intro x hx; simp at hx; subst hx; exact h.nob), h.byt, h.len⟩
theorem StO.same {w w' : World} {b : Nat} {v : Value} {l : List Int} {st : Except (Nat × Nat) Nat} (h : StO w b v l st) (he : w'.heap[b]? = w.heap[b]?) : StO w' b v l st := by
  cases st with
  | ok p => exact ⟨he.trans h.1, h.2⟩
  | error x => obtain ⟨f, e⟩ := x; obtain ⟨a, h1, h2⟩ := h; exact ⟨a, he.trans h1, h2⟩
theorem DR.grew {w w' : World} {b : Nat} {v : Value} {l : List Int} {st : Except (Nat × Nat) Nat} (h : DR w b v l st) (g : Grew w w') : DR w' b v l st :=
  h.of (g.turn [b]) (h.st.same (g.1.block b h.lt))
theorem DR.setN {w0 w : World} {b : Nat} {v : Value} {l : List Int} {st0 st : Except (Nat × Nat) Nat} (h0 : DR w0 b v l st0) (t : Turn [b] w0 w) (h : DR w b v l st) (N j : Nat) (hN : w0.heap.size ≤ N) (x : Value) : DR (w.setCell ⟨N, j, none⟩ x) b v l st :=
  h0.of (t.set (p := ⟨N, j, none⟩) (Or.inr hN) x) (h.st.same (Below.heap_setCell _ _ _ _ (by have := h0.lt; simp; omega)))
/- Only the reading has turned, and it stands so. -/
def FinD (b : Nat) (v : Value) (l : List Int) (w w' : World) (st : Except (Nat × Nat) Nat) : Prop := Turn [b] w w' ∧ DR w' b v l st
theorem FinD.mk_ {b : Nat} {v : Value} {l : List Int} {w w' : World} {st : Except (Nat × Nat) Nat} (t : Turn [b] w w') (u : DR w' b v l st) : FinD b v l w w' st := ⟨t, u⟩
theorem FinD.set {b : Nat} {v : Value} {l : List Int} {w w' : World} {st0 st : Except (Nat × Nat) Nat} (h : FinD b v l w w' st) (h0 : DR w b v l st0) {N j : Nat} (hN : w.heap.size ≤ N) {x : Value} : FinD b v l w (w'.setCell ⟨N, j, none⟩ x) st :=
  ⟨h.1.set (p := ⟨N, j, none⟩) (Or.inr hN) x, h0.setN h.1 h.2 N j hN x⟩
theorem FinD.inc {b : Nat} {v : Value} {l : List Int} {w w' : World} {q : Nat} (h : FinD b v l w w' (.ok q)) (hq : q + 1 ≤ l.length) : FinD b v l w (w'.setCell ⟨b, 1, none⟩ (.int .i64 ((q : Int) + 1))) (.ok (q + 1)) :=
  ⟨h.1.set (Or.inl (by simp)) _, h.2.of ((Turn.refl [b] w').set (Or.inl (by simp)) _) ⟨by rw [heap_set h.2.st.1]; simp [rdg], hq⟩⟩
/- What a call answers of a reading; on a fault the answer may be any. -/
def DAns {α : Type} (enc : α → Value) (b : Nat) (v : Value) (l : List Int) (w : World) (r : RS α) (en : Ending) (w' : World) : Prop := match r with
  | .ok (x, q) => en = .returned (enc x) ∧ FinD b v l w w' (.ok q)
  | .error (f, e) => (∃ y, en = .returned (enc y)) ∧ FinD b v l w w' (.error (f, e))
/- A number: on a fault the answer is 0. -/
def DNum (b : Nat) (v : Value) (l : List Int) (w : World) (r : RS Int) (en : Ending) (w' : World) : Prop := match r with
  | .ok (x, q) => en = .returned (.int .u64 x) ∧ FinD b v l w w' (.ok q)
  | .error (f, e) => en = .returned (.int .u64 0) ∧ FinD b v l w w' (.error (f, e))
def runR {α : Type} (R : Nat → RS α) : Except (Nat × Nat) Nat → RS α
  | .ok p => R p
  | .error e => .error e
def failS (st : Except (Nat × Nat) Nat) (pl e : Nat) : Except (Nat × Nat) Nat := match st with
  | .ok _ => .error (pl, e)
  | .error x => .error x
set_option maxRecDepth 100000 in
theorem fail_any {w : World} {b : Nat} {v : Value} {l : List Int} {st : Except (Nat × Nat) Nat} (h : DR w b v l st) (pl e : Nat) (he : e ≠ 0) :
    Calls Tryz.prog 118 #[.pointer (some ⟨b, 0, none⟩), .int .i64 (pl : Int), .int .i64 (e : Int)] w fun en w' => en = .returned (.tuple #[]) ∧ FinD b v l w w' (failS st pl e) := by
  have H : Hid (DR w b v l st) := h
  cases st with
  | ok p =>
    have c3 := cell_of h.st.1 3
    have c2 := cell_of h.st.1 2
    have z2 := free_of h.st.1 2
    have z3 := free_of h.st.1 3
    simp at c2 c3
    clear h
    go_enter Tryz.func118, Tryz.ntmps118
    go_wp2_with fail
    go_end0
    have t : Turn [b] w ((w.setCell ⟨b, 2, none⟩ (.int .i64 (pl : Int))).setCell ⟨b, 3, none⟩ (.int .i64 (e : Int))) := ((Turn.refl [b] w).set (Or.inl (by simp)) _).set (Or.inl (by simp)) _
    refine ⟨rfl, t, H.out.of t ⟨p, ?_, H.out.st.2, he⟩⟩
    rw [heap_set (heap_set H.out.st.1 2 _) 3 _]
    simp [rdg]
  | error x =>
    obtain ⟨f, e0⟩ := x
    obtain ⟨a, ho, ha, he0⟩ := h.st
    have c3 := cell_of ho 3
    simp at c3
    have d : ((e0 : Int) == 0) = false := by simp; exact he0
    clear h ho
    go_enter Tryz.func118, Tryz.ntmps118
    go_wp2_with fail
    go_end0
    exact ⟨rfl, Turn.refl _ _, H.out⟩
def Ahead (l : List Int) (st : Except (Nat × Nat) Nat) : Prop := ∃ p, st = .ok p ∧ p < l.length
set_option maxRecDepth 100000 in
set_option maxHeartbeats 1000000 in
theorem dpeek_ok {w : World} {b : Nat} {v : Value} {l : List Int} {p : Nat} (h : DR w b v l (.ok p)) (hp : p < l.length) :
    Calls Tryz.prog 115 #[.pointer (some ⟨b, 0, none⟩)] w fun en w' => en = .returned (.tuple #[.int .u8 (l.getD p 0), .bool true]) ∧ Grew w w' := by
  have c0 := cell_of h.st.1 0
  have c1 := cell_of h.st.1 1
  have c3 := cell_of h.st.1 3
  simp at c0 c1 c3
  obtain ⟨a, cap, rfl, hlc, hm, _, h4⟩ := h.rd
  obtain rfl | ⟨bb, off, rfl, hc⟩ := h4
  · simp at hp
  have hcell := hc p hp
  have hd : decide ((l.length : Int) ≤ (p : Int)) = false := by simp; omega
  have d2 : decide (p < l.length) = true := by simpa using hp
  clear h hc
  generalize l.getD p 0 = c at *
  go_enter Tryz.func115, Tryz.ntmps115
  go_wp2_with fail
  go_quiet (fail)
  go_wp2_with fail
  go_quiet (fail)
  go_wp2_with fail
  go_ret2
  exact ⟨rfl, ((Grew.refl w).drewN _).drewN _⟩
set_option maxRecDepth 100000 in
set_option maxHeartbeats 1000000 in
theorem dpeek_no {w : World} {b : Nat} {v : Value} {l : List Int} {st : Except (Nat × Nat) Nat} (h : DR w b v l st) (hp : ¬ Ahead l st) :
    Calls Tryz.prog 115 #[.pointer (some ⟨b, 0, none⟩)] w fun en w' => en = .returned (.tuple #[.int .u8 0, .bool false]) ∧ Grew w w' := by
  obtain ⟨sa, cap, rfl⟩ := h.rd.len
  cases st with
  | ok p =>
    have c0 := cell_of h.st.1 0
    have c1 := cell_of h.st.1 1
    have c3 := cell_of h.st.1 3
    simp at c0 c1 c3
    have hd : decide ((l.length : Int) ≤ (p : Int)) = true := by
      simp
      rcases Nat.lt_or_ge p l.length with h' | h'
      · exact absurd ⟨p, rfl, h'⟩ hp
      · exact h'
    have hd2 : decide (l.length ≤ p) = true := by simpa using hd
    clear h hp
    go_enter Tryz.func115, Tryz.ntmps115
    go_wp2_with fail
    go_quiet (fail)
    go_wp2_with fail
    go_ret2
    exact ⟨rfl, (Grew.refl w).drewN _⟩
  | error x =>
    obtain ⟨f, e0⟩ := x
    obtain ⟨a, ho, ha, he0⟩ := h.st
    have c3 := cell_of ho 3
    simp at c3
    have d : ((e0 : Int) != 0) = true := by simp; exact he0
    have hb := h.lt
    clear h ho hp
    go_enter Tryz.func115, Tryz.ntmps115
    go_wp2_with fail
    refine wp_region_ck [(b, 3, .int .i64 (e0 : Int))] (by kernel_rfl) (by kernel_rfl) ⟨⟨hb, c3⟩, trivial⟩ ?_
    repeat (first
      | go_big_quiet_skip
      | (go_big_quiet_want
         go_big_quiet_op
         first
         | go_big_quiet_on
         | (refine ⟨_, fun _ _ => rfl, ?_⟩; go_big_quiet_on)
         | (refine ⟨.int .i64 (e0 : Int), fun w' hw' => ?_, ?_⟩
            · (obtain ⟨_, ⟨_, hc0⟩, _⟩ := hw'; go_simp; done)
            go_big_quiet_on)))
    refine wpQuiet_nil ?_
    rintro w6 ⟨g6, _⟩
    have G6 : Hid (Grew w w6) := g6
    clear g6
    go_wp2_with fail
    go_ret2
    exact ⟨rfl, G6.out⟩
set_option maxRecDepth 100000 in
set_option maxHeartbeats 1000000 in
theorem dnumU_z {w : World} {b : Nat} {v : Value} {l : List Int} {st : Except (Nat × Nat) Nat} (h : DR w b v l st) :
    Calls Tryz.prog 117 #[.pointer (some ⟨b, 0, none⟩), .int .i64 32, .bool false] w (DNum b v l w (runR (numR 32 false l) st)) := by
  have H : Hid (DR w b v l st) := h
  cases st with
  | error x =>
    obtain ⟨f, e0⟩ := x
    obtain ⟨a, ho, ha, he0⟩ := h.st
    have c3 := cell_of ho 3
    simp at c3
    have d : ((e0 : Int) != 0) = true := by simp; exact he0
    clear h ho
    go_enter Tryz.func117, Tryz.ntmps117
    go_wp2_with fail
    go_ret
    exact ⟨rfl, Turn.refl _ _, H.out⟩
  | ok p =>
    have c0 := cell_of h.st.1 0
    have c1 := cell_of h.st.1 1
    have c3 := cell_of h.st.1 3
    have z1 := free_of h.st.1 1
    simp at c0 c1 c3
    obtain ⟨a, cap, rfl⟩ := h.rd.len
    have HC : Hid (∀ k, Calls Tryz.prog 58 #[.slice a l.length cap, .int .i64 (p : Int), .int .i64 (l.length : Int), .int .i64 32, .bool false] (w.drewN k) fun e w' => e = .returned (.tuple #[.int .u64 (rd 32 false l p l.length).1, .int .i64 (rd 32 false l p l.length).2.1, .int .i64 (rd 32 false l p l.length).2.2]) ∧ w' = w.drewN k) := fun k => num32u_any _ l p l.length _ (h.rd.drewN k) h.byt h.len
    have hle := h.st.2
    clear h
    show Calls _ _ _ _ (DNum _ _ _ _ (numR 32 false l p))
    rcases numR_ways (b := 32) (sg := false) hle with ⟨n, q, hr, h1, h2, h3⟩ | ⟨n, f, e, hr, h1, h2, h3, h4⟩
    · rw [h3]
      rw [hr] at HC
      simp only at HC
      clear hr h3
      go_enter Tryz.func117, Tryz.ntmps117
      go_wp2_with fail
      go_quiet ((go_at_call 58; exact q0_same HC.out))
      go_wp2_with fail
      go_ret
      refine ⟨rfl, ((Turn.refl _ _).drewN _).set (Or.inl (by simp)) _, H.out.of (((Turn.refl _ _).drewN _).set (Or.inl (by simp)) _) ⟨?_, h2⟩⟩
      rw [heap_set (heap_drewN H.out.st.1 _)]
      simp [rdg]
    · rw [h4]
      rw [hr] at HC
      simp only at HC
      have he : ((e : Int) != 0) = true := by
        rcases h3 with rfl | rfl <;> rfl
      have he0 : e ≠ 0 := by omega
      clear hr h4 h3
      go_enter Tryz.func117, Tryz.ntmps117
      go_wp2_with fail
      go_quiet ((go_at_call 58; exact q0_same HC.out))
      go_wp2_with fail
      refine (fail_any (H.out.grew ((Grew.refl w).drewN _)) f e he0).mono ?_
      rintro en w1 ⟨rfl, t1, u1⟩
      have F1 : Hid (FinD b (.slice a l.length cap) l w w1 (.error (f, e))) := ⟨((Turn.refl _ _).drewN _).trans t1, u1⟩
      clear t1 u1
      go_wp2_with fail
      go_ret
      exact ⟨rfl, F1.out⟩
theorem dnumU_any {w : World} {b : Nat} {v : Value} {l : List Int} {st : Except (Nat × Nat) Nat} (h : DR w b v l st) :
    Calls Tryz.prog 117 #[.pointer (some ⟨b, 0, none⟩), .int .i64 32, .bool false] w (DAns (fun n => .int .u64 n) b v l w (runR (numR 32 false l) st)) := (dnumU_z h).mono fun en w' hh => by
  cases hx : runR (numR 32 false l) st with
  | error y => obtain ⟨f, e⟩ := y; rw [hx] at hh; exact ⟨⟨0, hh.1⟩, hh.2⟩
  | ok y => obtain ⟨n, q⟩ := y; rw [hx] at hh; exact hh
set_option maxRecDepth 100000 in
set_option maxHeartbeats 1000000 in
theorem dnumS_z {w : World} {b : Nat} {v : Value} {l : List Int} {st : Except (Nat × Nat) Nat} (h : DR w b v l st) :
    Calls Tryz.prog 117 #[.pointer (some ⟨b, 0, none⟩), .int .i64 33, .bool true] w (DNum b v l w (runR (numR 33 true l) st)) := by
  have H : Hid (DR w b v l st) := h
  cases st with
  | error x =>
    obtain ⟨f, e0⟩ := x
    obtain ⟨a, ho, ha, he0⟩ := h.st
    have c3 := cell_of ho 3
    simp at c3
    have d : ((e0 : Int) != 0) = true := by simp; exact he0
    clear h ho
    go_enter Tryz.func117, Tryz.ntmps117
    go_wp2_with fail
    go_ret
    exact ⟨rfl, Turn.refl _ _, H.out⟩
  | ok p =>
    have c0 := cell_of h.st.1 0
    have c1 := cell_of h.st.1 1
    have c3 := cell_of h.st.1 3
    have z1 := free_of h.st.1 1
    simp at c0 c1 c3
    obtain ⟨a, cap, rfl⟩ := h.rd.len
    have HC : Hid (∀ k, Calls Tryz.prog 58 #[.slice a l.length cap, .int .i64 (p : Int), .int .i64 (l.length : Int), .int .i64 33, .bool true] (w.drewN k) fun e w' => e = .returned (.tuple #[.int .u64 (rd 33 true l p l.length).1, .int .i64 (rd 33 true l p l.length).2.1, .int .i64 (rd 33 true l p l.length).2.2]) ∧ w' = w.drewN k) := fun k => num33s_any _ l p l.length _ (h.rd.drewN k) h.byt h.len
    have hle := h.st.2
    clear h
    show Calls _ _ _ _ (DNum _ _ _ _ (numR 33 true l p))
    rcases numR_ways (b := 33) (sg := true) hle with ⟨n, q, hr, h1, h2, h3⟩ | ⟨n, f, e, hr, h1, h2, h3, h4⟩
    · rw [h3]
      rw [hr] at HC
      simp only at HC
      clear hr h3
      go_enter Tryz.func117, Tryz.ntmps117
      go_wp2_with fail
      go_quiet ((go_at_call 58; exact q0_same HC.out))
      go_wp2_with fail
      go_ret
      refine ⟨rfl, ((Turn.refl _ _).drewN _).set (Or.inl (by simp)) _, H.out.of (((Turn.refl _ _).drewN _).set (Or.inl (by simp)) _) ⟨?_, h2⟩⟩
      rw [heap_set (heap_drewN H.out.st.1 _)]
      simp [rdg]
    · rw [h4]
      rw [hr] at HC
      simp only at HC
      have he : ((e : Int) != 0) = true := by
        rcases h3 with rfl | rfl <;> rfl
      have he0 : e ≠ 0 := by omega
      clear hr h4 h3
      go_enter Tryz.func117, Tryz.ntmps117
      go_wp2_with fail
      go_quiet ((go_at_call 58; exact q0_same HC.out))
      go_wp2_with fail
      refine (fail_any (H.out.grew ((Grew.refl w).drewN _)) f e he0).mono ?_
      rintro en w1 ⟨rfl, t1, u1⟩
      have F1 : Hid (FinD b (.slice a l.length cap) l w w1 (.error (f, e))) := ⟨((Turn.refl _ _).drewN _).trans t1, u1⟩
      clear t1 u1
      go_wp2_with fail
      go_ret
      exact ⟨rfl, F1.out⟩
theorem dnumS_any {w : World} {b : Nat} {v : Value} {l : List Int} {st : Except (Nat × Nat) Nat} (h : DR w b v l st) :
    Calls Tryz.prog 117 #[.pointer (some ⟨b, 0, none⟩), .int .i64 33, .bool true] w (DAns (fun n => .int .u64 n) b v l w (runR (numR 33 true l) st)) := (dnumS_z h).mono fun en w' hh => by
  cases hx : runR (numR 33 true l) st with
  | error y => obtain ⟨f, e⟩ := y; rw [hx] at hh; exact ⟨⟨0, hh.1⟩, hh.2⟩
  | ok y => obtain ⟨n, q⟩ := y; rw [hx] at hh; exact hh
set_option maxRecDepth 100000 in
set_option maxHeartbeats 1000000 in
theorem dnumW_z {w : World} {b : Nat} {v : Value} {l : List Int} {st : Except (Nat × Nat) Nat} (h : DR w b v l st) :
    Calls Tryz.prog 117 #[.pointer (some ⟨b, 0, none⟩), .int .i64 64, .bool false] w (DNum b v l w (runR (numR 64 false l) st)) := by
  have H : Hid (DR w b v l st) := h
  cases st with
  | error x =>
    obtain ⟨f, e0⟩ := x
    obtain ⟨a, ho, ha, he0⟩ := h.st
    have c3 := cell_of ho 3
    simp at c3
    have d : ((e0 : Int) != 0) = true := by simp; exact he0
    clear h ho
    go_enter Tryz.func117, Tryz.ntmps117
    go_wp2_with fail
    go_ret
    exact ⟨rfl, Turn.refl _ _, H.out⟩
  | ok p =>
    have c0 := cell_of h.st.1 0
    have c1 := cell_of h.st.1 1
    have c3 := cell_of h.st.1 3
    have z1 := free_of h.st.1 1
    simp at c0 c1 c3
    obtain ⟨a, cap, rfl⟩ := h.rd.len
    have HC : Hid (∀ k, Calls Tryz.prog 58 #[.slice a l.length cap, .int .i64 (p : Int), .int .i64 (l.length : Int), .int .i64 64, .bool false] (w.drewN k) fun e w' => e = .returned (.tuple #[.int .u64 (rd 64 false l p l.length).1, .int .i64 (rd 64 false l p l.length).2.1, .int .i64 (rd 64 false l p l.length).2.2]) ∧ w' = w.drewN k) := fun k => num64u_any _ l p l.length _ (h.rd.drewN k) h.byt h.len
    have hle := h.st.2
    clear h
    show Calls _ _ _ _ (DNum _ _ _ _ (numR 64 false l p))
    rcases numR_ways (b := 64) (sg := false) hle with ⟨n, q, hr, h1, h2, h3⟩ | ⟨n, f, e, hr, h1, h2, h3, h4⟩
    · rw [h3]
      rw [hr] at HC
      simp only at HC
      clear hr h3
      go_enter Tryz.func117, Tryz.ntmps117
      go_wp2_with fail
      go_quiet ((go_at_call 58; exact q0_same HC.out))
      go_wp2_with fail
      go_ret
      refine ⟨rfl, ((Turn.refl _ _).drewN _).set (Or.inl (by simp)) _, H.out.of (((Turn.refl _ _).drewN _).set (Or.inl (by simp)) _) ⟨?_, h2⟩⟩
      rw [heap_set (heap_drewN H.out.st.1 _)]
      simp [rdg]
    · rw [h4]
      rw [hr] at HC
      simp only at HC
      have he : ((e : Int) != 0) = true := by
        rcases h3 with rfl | rfl <;> rfl
      have he0 : e ≠ 0 := by omega
      clear hr h4 h3
      go_enter Tryz.func117, Tryz.ntmps117
      go_wp2_with fail
      go_quiet ((go_at_call 58; exact q0_same HC.out))
      go_wp2_with fail
      refine (fail_any (H.out.grew ((Grew.refl w).drewN _)) f e he0).mono ?_
      rintro en w1 ⟨rfl, t1, u1⟩
      have F1 : Hid (FinD b (.slice a l.length cap) l w w1 (.error (f, e))) := ⟨((Turn.refl _ _).drewN _).trans t1, u1⟩
      clear t1 u1
      go_wp2_with fail
      go_ret
      exact ⟨rfl, F1.out⟩
theorem dnumW_any {w : World} {b : Nat} {v : Value} {l : List Int} {st : Except (Nat × Nat) Nat} (h : DR w b v l st) :
    Calls Tryz.prog 117 #[.pointer (some ⟨b, 0, none⟩), .int .i64 64, .bool false] w (DAns (fun n => .int .u64 n) b v l w (runR (numR 64 false l) st)) := (dnumW_z h).mono fun en w' hh => by
  cases hx : runR (numR 64 false l) st with
  | error y => obtain ⟨f, e⟩ := y; rw [hx] at hh; exact ⟨⟨0, hh.1⟩, hh.2⟩
  | ok y => obtain ⟨n, q⟩ := y; rw [hx] at hh; exact hh
/- The heap type of a byte; 0: it is none. -/
def absH (c : Int) : Int := if (mean c).1 = 4 then (mean c).2 else 0
theorem absH_no : ∀ c : _root_.Fin 256, ((c.1 : Int) ≠ 115 ∧ (c.1 : Int) ≠ 114 ∧ (c.1 : Int) ≠ 113 ∧ (c.1 : Int) ≠ 112 ∧ (c.1 : Int) ≠ 111 ∧ (c.1 : Int) ≠ 110 ∧ (c.1 : Int) ≠ 109 ∧ (c.1 : Int) ≠ 108 ∧ (c.1 : Int) ≠ 107 ∧ (c.1 : Int) ≠ 106 ∧ (c.1 : Int) ≠ 105 ∧ (c.1 : Int) ≠ 116) → absH (c.1 : Int) = 0 := by decide +kernel
set_option maxRecDepth 100000 in
theorem abstract_any (c : Int) (hc : 0 ≤ c ∧ c ≤ 255) (w : World) :
    Calls Tryz.prog 119 #[.int .u8 c] w fun en w' => en = .returned (.int .i64 (absH c)) ∧ w' = w := by
  by_cases h115 : c = 115
  · subst h115
    rw [show absH 115 = -2 from by decide]
    go_enter Tryz.func119, Tryz.ntmps119
    go_wp2_with fail
    go_ret
    exact ⟨rfl, rfl⟩
  by_cases h114 : c = 114
  · subst h114
    rw [show absH 114 = -4 from by decide]
    go_enter Tryz.func119, Tryz.ntmps119
    go_wp2_with fail
    go_ret
    exact ⟨rfl, rfl⟩
  by_cases h113 : c = 113
  · subst h113
    rw [show absH 113 = -10 from by decide]
    go_enter Tryz.func119, Tryz.ntmps119
    go_wp2_with fail
    go_ret
    exact ⟨rfl, rfl⟩
  by_cases h112 : c = 112
  · subst h112
    rw [show absH 112 = -1 from by decide]
    go_enter Tryz.func119, Tryz.ntmps119
    go_wp2_with fail
    go_ret
    exact ⟨rfl, rfl⟩
  by_cases h111 : c = 111
  · subst h111
    rw [show absH 111 = -3 from by decide]
    go_enter Tryz.func119, Tryz.ntmps119
    go_wp2_with fail
    go_ret
    exact ⟨rfl, rfl⟩
  by_cases h110 : c = 110
  · subst h110
    rw [show absH 110 = -5 from by decide]
    go_enter Tryz.func119, Tryz.ntmps119
    go_wp2_with fail
    go_ret
    exact ⟨rfl, rfl⟩
  by_cases h109 : c = 109
  · subst h109
    rw [show absH 109 = -6 from by decide]
    go_enter Tryz.func119, Tryz.ntmps119
    go_wp2_with fail
    go_ret
    exact ⟨rfl, rfl⟩
  by_cases h108 : c = 108
  · subst h108
    rw [show absH 108 = -7 from by decide]
    go_enter Tryz.func119, Tryz.ntmps119
    go_wp2_with fail
    go_ret
    exact ⟨rfl, rfl⟩
  by_cases h107 : c = 107
  · subst h107
    rw [show absH 107 = -8 from by decide]
    go_enter Tryz.func119, Tryz.ntmps119
    go_wp2_with fail
    go_ret
    exact ⟨rfl, rfl⟩
  by_cases h106 : c = 106
  · subst h106
    rw [show absH 106 = -9 from by decide]
    go_enter Tryz.func119, Tryz.ntmps119
    go_wp2_with fail
    go_ret
    exact ⟨rfl, rfl⟩
  by_cases h105 : c = 105
  · subst h105
    rw [show absH 105 = -11 from by decide]
    go_enter Tryz.func119, Tryz.ntmps119
    go_wp2_with fail
    go_ret
    exact ⟨rfl, rfl⟩
  by_cases h116 : c = 116
  · subst h116
    rw [show absH 116 = -12 from by decide]
    go_enter Tryz.func119, Tryz.ntmps119
    go_wp2_with fail
    go_ret
    exact ⟨rfl, rfl⟩
  have e115 : (c == 115) = false := by simpa using h115
  have e114 : (c == 114) = false := by simpa using h114
  have e113 : (c == 113) = false := by simpa using h113
  have e112 : (c == 112) = false := by simpa using h112
  have e111 : (c == 111) = false := by simpa using h111
  have e110 : (c == 110) = false := by simpa using h110
  have e109 : (c == 109) = false := by simpa using h109
  have e108 : (c == 108) = false := by simpa using h108
  have e107 : (c == 107) = false := by simpa using h107
  have e106 : (c == 106) = false := by simpa using h106
  have e105 : (c == 105) = false := by simpa using h105
  have e116 : (c == 116) = false := by simpa using h116
  have e0 : absH c = 0 := by
    have := absH_no ⟨c.toNat, by omega⟩
    simp only at this
    rw [show ((c.toNat : Nat) : Int) = c by omega] at this
    exact this ⟨h115, h114, h113, h112, h111, h110, h109, h108, h107, h106, h105, h116⟩
  rw [e0]
  go_enter Tryz.func119, Tryz.ntmps119
  go_wp2_with fail
  go_ret
  exact ⟨rfl, rfl⟩
end Go.Proofs.YtohapnninjdlfaaGreatDoor

namespace Go.Proofs.YtohapnninjdlfaaGreatDoor
open Go.RowKit
set_option linter.unusedVariables false
set_option linter.unusedSimpArgs false
set_option linter.constructorNameAsVariable false

theorem Calls.der {α : Type} {enc : α → Value} {b : Nat} {v : Value} {l : List Int} {w : World} {r : RS α} {f e : Nat} {n : FuncId} {args : Array Value} (h : Calls Tryz.prog n args w (DAns enc b v l w r)) (hr : r = .error (f, e)) : Calls Tryz.prog n args w fun en w' => (∃ y, en = .returned (enc y)) ∧ FinD b v l w w' (.error (f, e)) := by subst hr; exact h
theorem Calls.dok {α : Type} {enc : α → Value} {b : Nat} {v : Value} {l : List Int} {w : World} {r : RS α} {x : α} {q : Nat} {n : FuncId} {args : Array Value} (h : Calls Tryz.prog n args w (DAns enc b v l w r)) (hr : r = .ok (x, q)) : Calls Tryz.prog n args w fun en w' => en = .returned (enc x) ∧ FinD b v l w w' (.ok q) := by subst hr; exact h
theorem numR_end (b : Nat) (sg : Bool) (l : List Int) : numR b sg l l.length = .error (l.length, 3) := by
  have h : rd b sg l ((l.length : Nat) : Int) l.length = (0, (l.length : Int) + 0, 3) := rd_in (Nat.le_refl _) (Nat.le_refl _) (by
    rw [show seg l l.length l.length = [] from by unfold seg; simp]
    rfl)
  unfold numR
  rw [h]
  simp
theorem absH_four (c : Int) : absH c ≠ 0 → (mean c).1 = 4 ∧ absH c = (mean c).2 := by
  unfold absH
  split
  · intro _; exact ⟨by assumption, rfl⟩
  · intro h; exact absurd rfl h
theorem byte_all {P : Int → Prop} (h : ∀ c : _root_.Fin 256, P (c.1 : Int)) {c : Int} (hc : 0 ≤ c ∧ c ≤ 255) : P c := by
  have := h ⟨c.toNat, by omega⟩
  simp only at this
  rwa [show ((c.toNat : Nat) : Int) = c by omega] at this
theorem mean_all : ∀ c : _root_.Fin 256, (((mean (c.1 : Int)).1 = 4) = (absH (c.1 : Int) ≠ 0)) ∧ (((mean (c.1 : Int)).1 = 5) = ((c.1 : Int) = 99 ∨ (c.1 : Int) = 100)) ∧ (((mean (c.1 : Int)).1 = 2) = ((c.1 : Int) = 123)) ∧ (((mean (c.1 : Int)).1 = 1) = (124 ≤ (c.1 : Int) ∧ (c.1 : Int) ≤ 127)) ∧ (((mean (c.1 : Int)).1 = 3) = ((c.1 : Int) = 120 ∨ (c.1 : Int) = 119)) := by
  have h : ∀ c : _root_.Fin 256, (((mean (c.1 : Int)).1 = 4) ↔ (absH (c.1 : Int) ≠ 0)) ∧ (((mean (c.1 : Int)).1 = 5) ↔ ((c.1 : Int) = 99 ∨ (c.1 : Int) = 100)) ∧ (((mean (c.1 : Int)).1 = 2) ↔ ((c.1 : Int) = 123)) ∧ (((mean (c.1 : Int)).1 = 1) ↔ (124 ≤ (c.1 : Int) ∧ (c.1 : Int) ≤ 127)) ∧ (((mean (c.1 : Int)).1 = 3) ↔ ((c.1 : Int) = 120 ∨ (c.1 : Int) = 119)) := by decide +kernel
  intro c
  obtain ⟨h1, h2, h3, h4, h5⟩ := h c
  exact ⟨propext h1, propext h2, propext h3, propext h4, propext h5⟩
theorem conv_sg (n : Int) : IntKind.i64.wrap n = sg64 n := by rw [IntKind.wrap_i64]; unfold sg64; omega
theorem mean_num : ∀ c : _root_.Fin 256, (124 ≤ (c.1 : Int) ∧ (c.1 : Int) ≤ 127) → (mean (c.1 : Int)).2 = 128 - (c.1 : Int) := by decide +kernel
set_option maxRecDepth 100000 in
set_option maxHeartbeats 1000000 in
theorem dheap_any {w : World} {b : Nat} {v : Value} {l : List Int} {st : Except (Nat × Nat) Nat} (h : DR w b v l st) :
    Calls Tryz.prog 94 #[.pointer (some ⟨b, 0, none⟩)] w (DAns (fun n => .int .i64 n) b v l w (runR (heapR l) st)) := by
  have H : Hid (DR w b v l st) := h
  have hb : b < w.heap.size := h.lt
  have hl := h.len
  have HB : Hid (Byt l) := h.byt
  by_cases hp : Ahead l st
  · obtain ⟨p, rfl, hp⟩ := hp
    have hc := h.byt p
    have P : Hid (∀ w', DR w' b v l (.ok p) → Calls Tryz.prog 115 #[.pointer (some ⟨b, 0, none⟩)] w' fun en w'' => en = .returned (.tuple #[.int .u8 (l.getD p 0), .bool true]) ∧ Grew w' w'') := fun w' u => dpeek_ok u hp
    show Calls _ _ _ _ (DAns _ _ _ _ _ (heapR l p))
    have hm := byte_all (P := fun c => ((mean c).1 = 4) = (absH c ≠ 0)) (fun c => (mean_all c).1) hc
    unfold heapR
    rw [atR_in hp]
    have A := abstract_any (l.getD p 0) hc
    clear h
    by_cases h4 : absH (l.getD p 0) ≠ 0
    · rw [if_pos (by rw [hm]; exact h4), ← (absH_four _ h4).2]
      have d4 : (absH (l.getD p 0) != 0) = true := by simpa using h4
      clear hm h4
      generalize l.getD p 0 = c at *
      have S0 : Hid (DR w b v l (.ok p)) := H.out
      have T0 : Hid (Turn [b] w w) := Turn.refl [b] w
      go_enter Tryz.func94, Tryz.ntmps94
      go_wp2_with fail
      refine (P.out _ S0.out).mono ?_
      rintro en w1 ⟨rfl, g1⟩
      have T1 : Hid (Turn [b] w w1) := T0.out.trans (g1.turn _)
      have S1 : Hid (DR w1 b v l (.ok p)) := S0.out.grew g1
      clear g1 T0 S0
      go_wp2_with fail
      refine (A _).mono ?_
      rintro en w9 ⟨rfl, h9⟩
      obtain rfl := h9.symm
      clear h9
      have c1_1 := cell_of S1.out.st.1 1
      have z1_1 := free_of S1.out.st.1 1
      simp at c1_1
      have hq2 : p + 1 ≤ l.length := by omega
      go_wp2_with fail
      generalize hw2 : w1.setCell { block := b, off := 1 } (Value.int IntKind.i64 ((p : Int) + 1)) = w2
      have f2 : FinD b v l w w2 (.ok (p + 1)) := by rw [← hw2]; exact (FinD.mk_ T1.out S1.out).inc hq2
      have T2 : Hid (Turn [b] w w2) := f2.1
      have S2 : Hid (DR w2 b v l (.ok (p + 1))) := f2.2
      clear f2 hw2 c1_1 z1_1 T1 S1
      refine (A _).mono ?_
      rintro en w9 ⟨rfl, h9⟩
      obtain rfl := h9.symm
      clear h9
      go_wp2_with fail
      go_ret
      exact ⟨rfl, (FinD.mk_ T2.out S2.out)⟩
    · rw [if_neg (by rw [hm]; exact h4)]
      have e0 : absH (l.getD p 0) = 0 := by simpa using h4
      have d4 : (absH (l.getD p 0) != 0) = false := by rw [e0]; rfl
      clear hm h4 e0
      generalize l.getD p 0 = c at *
      unfold tyS
      cases hx : numR 33 true l p with
      | error y =>
        obtain ⟨f, e⟩ := y
        have he := (num_adv 33 true l p (by omega)).2 f e hx
        simp only
        have S0 : Hid (DR w b v l (.ok p)) := H.out
        have T0 : Hid (Turn [b] w w) := Turn.refl [b] w
        go_enter Tryz.func94, Tryz.ntmps94
        go_wp2_with fail
        refine (P.out _ S0.out).mono ?_
        rintro en w1 ⟨rfl, g1⟩
        have T1 : Hid (Turn [b] w w1) := T0.out.trans (g1.turn _)
        have S1 : Hid (DR w1 b v l (.ok p)) := S0.out.grew g1
        clear g1 T0 S0
        go_wp2_with fail
        refine (A _).mono ?_
        rintro en w9 ⟨rfl, h9⟩
        obtain rfl := h9.symm
        clear h9
        have c1_1 := cell_of S1.out.st.1 1
        have c3_1 := cell_of S1.out.st.1 3
        simp at c1_1 c3_1
        go_wp2_with fail
        refine (Calls.der (dnumS_any S1.out) hx).mono ?_
        rintro en w2 ⟨⟨y, rfl⟩, t2, s2⟩
        have T2 : Hid (Turn [b] w w2) := T1.out.trans t2
        have S2 : Hid (DR w2 b v l (.error (f, e))) := s2
        clear t2 s2 T1 S1
        obtain ⟨a2, o2, ha2, he2⟩ := S2.out.st
        have c3_2 := cell_of o2 3
        simp at c3_2
        have dn2 : ((e : Int) != 0) = true := by first | (simp; done) | (simp; omega)
        have de2 : ((e : Int) == 0) = false := by first | (simp; done) | (simp; omega)
        clear o2
        go_wp2_with fail
        go_ret
        exact ⟨⟨0, rfl⟩, (FinD.mk_ T2.out S2.out)⟩
      | ok y =>
        obtain ⟨n, q⟩ := y
        simp only
        by_cases h0 : sg64 n < 0
        · rw [if_pos h0]
          have d0 : decide (sg64 n < 0) = true := by simpa using h0
          have S0 : Hid (DR w b v l (.ok p)) := H.out
          have T0 : Hid (Turn [b] w w) := Turn.refl [b] w
          go_enter Tryz.func94, Tryz.ntmps94
          go_wp2_with fail
          refine (P.out _ S0.out).mono ?_
          rintro en w1 ⟨rfl, g1⟩
          have T1 : Hid (Turn [b] w w1) := T0.out.trans (g1.turn _)
          have S1 : Hid (DR w1 b v l (.ok p)) := S0.out.grew g1
          clear g1 T0 S0
          go_wp2_with fail
          refine (A _).mono ?_
          rintro en w9 ⟨rfl, h9⟩
          obtain rfl := h9.symm
          clear h9
          have c1_1 := cell_of S1.out.st.1 1
          have c3_1 := cell_of S1.out.st.1 3
          simp at c1_1 c3_1
          go_wp2_with fail
          refine (Calls.dok (dnumS_any S1.out) hx).mono ?_
          rintro en w2 ⟨rfl, t2, s2⟩
          have T2 : Hid (Turn [b] w w2) := T1.out.trans t2
          have S2 : Hid (DR w2 b v l (.ok q)) := s2
          clear t2 s2 T1 S1
          have cv := conv_sg n
          have c3_2 := cell_of S2.out.st.1 3
          simp at c3_2
          go_wp2_with fail
          refine (fail_any S2.out p 4 (by decide)).mono ?_
          rintro en w3 ⟨rfl, t3, s3⟩
          have T3 : Hid (Turn [b] w w3) := T2.out.trans t3
          have S3 : Hid (DR w3 b v l (.error (p, 4))) := s3
          clear t3 s3 T2 S2
          obtain ⟨a3, o3, ha3, he3⟩ := S3.out.st
          have c3_3 := cell_of o3 3
          simp at c3_3
          have dn3 : ((4 : Int) != 0) = true := by first | (simp; done) | (simp; omega)
          have de3 : ((4 : Int) == 0) = false := by first | (simp; done) | (simp; omega)
          clear o3
          go_wp2_with fail
          go_ret
          exact ⟨⟨0, rfl⟩, (FinD.mk_ T3.out S3.out)⟩
        · rw [if_neg h0]
          have d0 : decide (sg64 n < 0) = false := by simpa using h0
          by_cases h3 : 2147483647 < sg64 n
          · rw [if_pos h3]
            have d3 : decide (2147483648 ≤ sg64 n) = true := by simp; omega
            have S0 : Hid (DR w b v l (.ok p)) := H.out
            have T0 : Hid (Turn [b] w w) := Turn.refl [b] w
            go_enter Tryz.func94, Tryz.ntmps94
            go_wp2_with fail
            refine (P.out _ S0.out).mono ?_
            rintro en w1 ⟨rfl, g1⟩
            have T1 : Hid (Turn [b] w w1) := T0.out.trans (g1.turn _)
            have S1 : Hid (DR w1 b v l (.ok p)) := S0.out.grew g1
            clear g1 T0 S0
            go_wp2_with fail
            refine (A _).mono ?_
            rintro en w9 ⟨rfl, h9⟩
            obtain rfl := h9.symm
            clear h9
            have c1_1 := cell_of S1.out.st.1 1
            have c3_1 := cell_of S1.out.st.1 3
            simp at c1_1 c3_1
            go_wp2_with fail
            refine (Calls.dok (dnumS_any S1.out) hx).mono ?_
            rintro en w2 ⟨rfl, t2, s2⟩
            have T2 : Hid (Turn [b] w w2) := T1.out.trans t2
            have S2 : Hid (DR w2 b v l (.ok q)) := s2
            clear t2 s2 T1 S1
            have cv := conv_sg n
            have c3_2 := cell_of S2.out.st.1 3
            simp at c3_2
            go_wp2_with fail
            refine (fail_any S2.out p 2 (by decide)).mono ?_
            rintro en w3 ⟨rfl, t3, s3⟩
            have T3 : Hid (Turn [b] w w3) := T2.out.trans t3
            have S3 : Hid (DR w3 b v l (.error (p, 2))) := s3
            clear t3 s3 T2 S2
            obtain ⟨a3, o3, ha3, he3⟩ := S3.out.st
            have c3_3 := cell_of o3 3
            simp at c3_3
            have dn3 : ((2 : Int) != 0) = true := by first | (simp; done) | (simp; omega)
            have de3 : ((2 : Int) == 0) = false := by first | (simp; done) | (simp; omega)
            clear o3
            go_wp2_with fail
            go_ret
            exact ⟨⟨0, rfl⟩, (FinD.mk_ T3.out S3.out)⟩
          · rw [if_neg h3]
            have d3 : decide (2147483648 ≤ sg64 n) = false := by simp; omega
            have S0 : Hid (DR w b v l (.ok p)) := H.out
            have T0 : Hid (Turn [b] w w) := Turn.refl [b] w
            go_enter Tryz.func94, Tryz.ntmps94
            go_wp2_with fail
            refine (P.out _ S0.out).mono ?_
            rintro en w1 ⟨rfl, g1⟩
            have T1 : Hid (Turn [b] w w1) := T0.out.trans (g1.turn _)
            have S1 : Hid (DR w1 b v l (.ok p)) := S0.out.grew g1
            clear g1 T0 S0
            go_wp2_with fail
            refine (A _).mono ?_
            rintro en w9 ⟨rfl, h9⟩
            obtain rfl := h9.symm
            clear h9
            have c1_1 := cell_of S1.out.st.1 1
            have c3_1 := cell_of S1.out.st.1 3
            simp at c1_1 c3_1
            go_wp2_with fail
            refine (Calls.dok (dnumS_any S1.out) hx).mono ?_
            rintro en w2 ⟨rfl, t2, s2⟩
            have T2 : Hid (Turn [b] w w2) := T1.out.trans t2
            have S2 : Hid (DR w2 b v l (.ok q)) := s2
            clear t2 s2 T1 S1
            have cv := conv_sg n
            have c3_2 := cell_of S2.out.st.1 3
            simp at c3_2
            go_wp2_with fail
            go_ret
            exact ⟨rfl, (FinD.mk_ T2.out S2.out)⟩
  · have hr : ∃ f e, runR (heapR l) st = .error (f, e) ∧ runR (numR 33 true l) st = .error (f, e) ∧ e ≠ 0 := by
      cases st with
      | error x => obtain ⟨f, e⟩ := x; obtain ⟨a, _, _, he⟩ := h.st; exact ⟨f, e, rfl, rfl, he⟩
      | ok p =>
        have hpl : p = l.length := by
          have := h.st.2
          rcases Nat.lt_or_ge p l.length with h' | h'
          · exact absurd ⟨p, rfl, h'⟩ hp
          · omega
        refine ⟨p, 3, by show heapR l p = _; unfold heapR; exact atR_no (by omega), ?_, by decide⟩
        subst hpl
        exact numR_end _ _ _
    obtain ⟨f, e, hr1, hx, he⟩ := hr
    rw [hr1]
    obtain ⟨av, plv, ev, ho⟩ := h.obj
    clear h hr1
    have S0 : Hid (DR w b v l st) := H.out
    have T0 : Hid (Turn [b] w w) := Turn.refl [b] w
    go_enter Tryz.func94, Tryz.ntmps94
    go_wp2_with fail
    refine (dpeek_no S0.out hp).mono ?_
    rintro en w1 ⟨rfl, g1⟩
    have T1 : Hid (Turn [b] w w1) := T0.out.trans (g1.turn _)
    have S1 : Hid (DR w1 b v l st) := S0.out.grew g1
    clear g1 T0 S0
    obtain ⟨av1, plv1, ev1, ho1⟩ := S1.out.obj
    have c1_1 := cell_of ho1 1
    simp at c1_1
    clear ho1
    go_wp2_with fail
    refine (Calls.der (dnumS_any S1.out) hx).mono ?_
    rintro en w2 ⟨⟨y, rfl⟩, t2, s2⟩
    have T2 : Hid (Turn [b] w w2) := T1.out.trans t2
    have S2 : Hid (DR w2 b v l (.error (f, e))) := s2
    clear t2 s2 T1 S1
    obtain ⟨a2, o2, ha2, he2⟩ := S2.out.st
    have c3_2 := cell_of o2 3
    simp at c3_2
    have dn2 : ((e : Int) != 0) = true := by first | (simp; done) | (simp; omega)
    have de2 : ((e : Int) == 0) = false := by first | (simp; done) | (simp; omega)
    clear o2
    go_wp2_with fail
    go_ret
    exact ⟨⟨0, rfl⟩, (FinD.mk_ T2.out S2.out)⟩
end Go.Proofs.YtohapnninjdlfaaGreatDoor
