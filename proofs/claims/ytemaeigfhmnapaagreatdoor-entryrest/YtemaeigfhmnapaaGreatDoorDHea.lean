/-
  The document's reading: the walks of heap and val; no statement is proved here.
-/
import Derived.Test.YtemaeigfhmnapaaGreatDoorDRd
namespace Go.Proofs.YtemaeigfhmnapaaGreatDoor
open Go.RowKit
set_option linter.unusedVariables false
set_option linter.unusedSimpArgs false
set_option linter.constructorNameAsVariable false

theorem Calls.der {α : Type} {enc : α → Value} {b : Nat} {v : Value} {l : List Int} {w : World} {r : RS α} {f e : Nat} {n : FuncId} {args : Array Value} (h : Calls Tryz.prog n args w (DAns enc b v l w r)) (hr : r = .error (f, e)) : Calls Tryz.prog n args w fun en w' => (∃ y, en = .returned (enc y)) ∧ FinD b v l w w' (.error (f, e)) := by subst hr; exact h
theorem Calls.dok {α : Type} {enc : α → Value} {b : Nat} {v : Value} {l : List Int} {w : World} {r : RS α} {x : α} {q : Nat} {n : FuncId} {args : Array Value} (h : Calls Tryz.prog n args w (DAns enc b v l w r)) (hr : r = .ok (x, q)) : Calls Tryz.prog n args w fun en w' => en = .returned (enc x) ∧ FinD b v l w w' (.ok q) := by subst hr; exact h
theorem numR_end (b : Nat) (sg : Bool) (l : List Int) : numR b sg l l.length = .error (l.length, 3) := by
  have h : rd b sg l ((l.length : Nat) : Int) l.length = (0, (l.length : Int) + 0, 3) := rd_in (Nat.le_refl _) (Nat.le_refl _) (by
    rw [show seg l l.length l.length = [] from by unfold seg; simp]
    rfl)
  unfold numR
  rw [h]
  simp
theorem absH_four (c : Int) : absH c ≠ 0 → (mean c).1 = 4 ∧ absH c = (mean c).2 := by
  unfold absH
  split
  · intro _; exact ⟨by assumption, rfl⟩
  · intro h; exact absurd rfl h
theorem byte_all {P : Int → Prop} (h : ∀ c : _root_.Fin 256, P (c.1 : Int)) {c : Int} (hc : 0 ≤ c ∧ c ≤ 255) : P c := by
  have := h ⟨c.toNat, by omega⟩
  simp only at this
  rwa [show ((c.toNat : Nat) : Int) = c by omega] at this
theorem mean_all : ∀ c : _root_.Fin 256, (((mean (c.1 : Int)).1 = 4) = (absH (c.1 : Int) ≠ 0)) ∧ (((mean (c.1 : Int)).1 = 5) = ((c.1 : Int) = 99 ∨ (c.1 : Int) = 100)) ∧ (((mean (c.1 : Int)).1 = 2) = ((c.1 : Int) = 123)) ∧ (((mean (c.1 : Int)).1 = 1) = (124 ≤ (c.1 : Int) ∧ (c.1 : Int) ≤ 127)) ∧ (((mean (c.1 : Int)).1 = 3) = ((c.1 : Int) = 120 ∨ (c.1 : Int) = 119)) := by
  have h : ∀ c : _root_.Fin 256, (((mean (c.1 : Int)).1 = 4) ↔ (absH (c.1 : Int) ≠ 0)) ∧ (((mean (c.1 : Int)).1 = 5) ↔ ((c.1 : Int) = 99 ∨ (c.1 : Int) = 100)) ∧ (((mean (c.1 : Int)).1 = 2) ↔ ((c.1 : Int) = 123)) ∧ (((mean (c.1 : Int)).1 = 1) ↔ (124 ≤ (c.1 : Int) ∧ (c.1 : Int) ≤ 127)) ∧ (((mean (c.1 : Int)).1 = 3) ↔ ((c.1 : Int) = 120 ∨ (c.1 : Int) = 119)) := by decide +kernel
  intro c
  obtain ⟨h1, h2, h3, h4, h5⟩ := h c
  exact ⟨propext h1, propext h2, propext h3, propext h4, propext h5⟩
theorem conv_sg (n : Int) : IntKind.i64.wrap n = sg64 n := by rw [IntKind.wrap_i64]; unfold sg64; omega
theorem mean_num : ∀ c : _root_.Fin 256, (124 ≤ (c.1 : Int) ∧ (c.1 : Int) ≤ 127) → (mean (c.1 : Int)).2 = 128 - (c.1 : Int) := by decide +kernel
set_option maxRecDepth 100000 in
set_option maxHeartbeats 1000000 in
theorem dheap_any {w : World} {b : Nat} {v : Value} {l : List Int} {st : Except (Nat × Nat) Nat} (h : DR w b v l st) :
    Calls Tryz.prog 71 #[.pointer (some ⟨b, 0, none⟩)] w (DAns (fun n => .int .i64 n) b v l w (runR (heapR l) st)) := by
  have H : Hid (DR w b v l st) := h
  have hb : b < w.heap.size := h.lt
  have hl := h.len
  have HB : Hid (Byt l) := h.byt
  by_cases hp : Ahead l st
  · obtain ⟨p, rfl, hp⟩ := hp
    have hc := h.byt p
    have P : Hid (∀ w', DR w' b v l (.ok p) → Calls Tryz.prog 55 #[.pointer (some ⟨b, 0, none⟩)] w' fun en w'' => en = .returned (.tuple #[.int .u8 (l.getD p 0), .bool true]) ∧ Grew w' w'') := fun w' u => dpeek_ok u hp
    show Calls _ _ _ _ (DAns _ _ _ _ _ (heapR l p))
    have hm := byte_all (P := fun c => ((mean c).1 = 4) = (absH c ≠ 0)) (fun c => (mean_all c).1) hc
    unfold heapR
    rw [atR_in hp]
    have A := abstract_any (l.getD p 0) hc
    clear h
    by_cases h4 : absH (l.getD p 0) ≠ 0
    · rw [if_pos (by rw [hm]; exact h4), ← (absH_four _ h4).2]
      have d4 : (absH (l.getD p 0) != 0) = true := by simpa using h4
      clear hm h4
      generalize l.getD p 0 = c at *
      have S0 : Hid (DR w b v l (.ok p)) := H.out
      have T0 : Hid (Turn [b] w w) := Turn.refl [b] w
      go_enter Tryz.func71, Tryz.ntmps71
      go_wp2_with fail
      refine (P.out _ S0.out).mono ?_
      rintro en w1 ⟨rfl, g1⟩
      have T1 : Hid (Turn [b] w w1) := T0.out.trans (g1.turn _)
      have S1 : Hid (DR w1 b v l (.ok p)) := S0.out.grew g1
      clear g1 T0 S0
      go_wp2_with fail
      refine (A _).mono ?_
      rintro en w9 ⟨rfl, h9⟩
      obtain rfl := h9.symm
      clear h9
      have c1_1 := cell_of S1.out.st.1 1
      have z1_1 := free_of S1.out.st.1 1
      simp at c1_1
      have hq2 : p + 1 ≤ l.length := by omega
      go_wp2_with fail
      generalize hw2 : w1.setCell { block := b, off := 1 } (Value.int IntKind.i64 ((p : Int) + 1)) = w2
      have f2 : FinD b v l w w2 (.ok (p + 1)) := by rw [← hw2]; exact (FinD.mk_ T1.out S1.out).inc hq2
      have T2 : Hid (Turn [b] w w2) := f2.1
      have S2 : Hid (DR w2 b v l (.ok (p + 1))) := f2.2
      clear f2 hw2 c1_1 z1_1 T1 S1
      refine (A _).mono ?_
      rintro en w9 ⟨rfl, h9⟩
      obtain rfl := h9.symm
      clear h9
      go_wp2_with fail
      go_ret
      exact ⟨rfl, (FinD.mk_ T2.out S2.out)⟩
    · rw [if_neg (by rw [hm]; exact h4)]
      have e0 : absH (l.getD p 0) = 0 := by simpa using h4
      have d4 : (absH (l.getD p 0) != 0) = false := by rw [e0]; rfl
      clear hm h4 e0
      generalize l.getD p 0 = c at *
      unfold tyS
      cases hx : numR 33 true l p with
      | error y =>
        obtain ⟨f, e⟩ := y
        have he := (num_adv 33 true l p (by omega)).2 f e hx
        simp only
        have S0 : Hid (DR w b v l (.ok p)) := H.out
        have T0 : Hid (Turn [b] w w) := Turn.refl [b] w
        go_enter Tryz.func71, Tryz.ntmps71
        go_wp2_with fail
        refine (P.out _ S0.out).mono ?_
        rintro en w1 ⟨rfl, g1⟩
        have T1 : Hid (Turn [b] w w1) := T0.out.trans (g1.turn _)
        have S1 : Hid (DR w1 b v l (.ok p)) := S0.out.grew g1
        clear g1 T0 S0
        go_wp2_with fail
        refine (A _).mono ?_
        rintro en w9 ⟨rfl, h9⟩
        obtain rfl := h9.symm
        clear h9
        have c1_1 := cell_of S1.out.st.1 1
        have c3_1 := cell_of S1.out.st.1 3
        simp at c1_1 c3_1
        go_wp2_with fail
        refine (Calls.der (dnumS_any S1.out) hx).mono ?_
        rintro en w2 ⟨⟨y, rfl⟩, t2, s2⟩
        have T2 : Hid (Turn [b] w w2) := T1.out.trans t2
        have S2 : Hid (DR w2 b v l (.error (f, e))) := s2
        clear t2 s2 T1 S1
        obtain ⟨a2, o2, ha2, he2⟩ := S2.out.st
        have c3_2 := cell_of o2 3
        simp at c3_2
        have dn2 : ((e : Int) != 0) = true := by first | (simp; done) | (simp; omega)
        have de2 : ((e : Int) == 0) = false := by first | (simp; done) | (simp; omega)
        clear o2
        go_wp2_with fail
        go_ret
        exact ⟨⟨0, rfl⟩, (FinD.mk_ T2.out S2.out)⟩
      | ok y =>
        obtain ⟨n, q⟩ := y
        simp only
        by_cases h0 : sg64 n < 0
        · rw [if_pos h0]
          have d0 : decide (sg64 n < 0) = true := by simpa using h0
          have S0 : Hid (DR w b v l (.ok p)) := H.out
          have T0 : Hid (Turn [b] w w) := Turn.refl [b] w
          go_enter Tryz.func71, Tryz.ntmps71
          go_wp2_with fail
          refine (P.out _ S0.out).mono ?_
          rintro en w1 ⟨rfl, g1⟩
          have T1 : Hid (Turn [b] w w1) := T0.out.trans (g1.turn _)
          have S1 : Hid (DR w1 b v l (.ok p)) := S0.out.grew g1
          clear g1 T0 S0
          go_wp2_with fail
          refine (A _).mono ?_
          rintro en w9 ⟨rfl, h9⟩
          obtain rfl := h9.symm
          clear h9
          have c1_1 := cell_of S1.out.st.1 1
          have c3_1 := cell_of S1.out.st.1 3
          simp at c1_1 c3_1
          go_wp2_with fail
          refine (Calls.dok (dnumS_any S1.out) hx).mono ?_
          rintro en w2 ⟨rfl, t2, s2⟩
          have T2 : Hid (Turn [b] w w2) := T1.out.trans t2
          have S2 : Hid (DR w2 b v l (.ok q)) := s2
          clear t2 s2 T1 S1
          have cv := conv_sg n
          have c3_2 := cell_of S2.out.st.1 3
          simp at c3_2
          go_wp2_with fail
          refine (fail_any S2.out p 4 (by decide)).mono ?_
          rintro en w3 ⟨rfl, t3, s3⟩
          have T3 : Hid (Turn [b] w w3) := T2.out.trans t3
          have S3 : Hid (DR w3 b v l (.error (p, 4))) := s3
          clear t3 s3 T2 S2
          obtain ⟨a3, o3, ha3, he3⟩ := S3.out.st
          have c3_3 := cell_of o3 3
          simp at c3_3
          have dn3 : ((4 : Int) != 0) = true := by first | (simp; done) | (simp; omega)
          have de3 : ((4 : Int) == 0) = false := by first | (simp; done) | (simp; omega)
          clear o3
          go_wp2_with fail
          go_ret
          exact ⟨⟨0, rfl⟩, (FinD.mk_ T3.out S3.out)⟩
        · rw [if_neg h0]
          have d0 : decide (sg64 n < 0) = false := by simpa using h0
          by_cases h3 : 2147483647 < sg64 n
          · rw [if_pos h3]
            have d3 : decide (2147483648 ≤ sg64 n) = true := by simp; omega
            have S0 : Hid (DR w b v l (.ok p)) := H.out
            have T0 : Hid (Turn [b] w w) := Turn.refl [b] w
            go_enter Tryz.func71, Tryz.ntmps71
            go_wp2_with fail
            refine (P.out _ S0.out).mono ?_
            rintro en w1 ⟨rfl, g1⟩
            have T1 : Hid (Turn [b] w w1) := T0.out.trans (g1.turn _)
            have S1 : Hid (DR w1 b v l (.ok p)) := S0.out.grew g1
            clear g1 T0 S0
            go_wp2_with fail
            refine (A _).mono ?_
            rintro en w9 ⟨rfl, h9⟩
            obtain rfl := h9.symm
            clear h9
            have c1_1 := cell_of S1.out.st.1 1
            have c3_1 := cell_of S1.out.st.1 3
            simp at c1_1 c3_1
            go_wp2_with fail
            refine (Calls.dok (dnumS_any S1.out) hx).mono ?_
            rintro en w2 ⟨rfl, t2, s2⟩
            have T2 : Hid (Turn [b] w w2) := T1.out.trans t2
            have S2 : Hid (DR w2 b v l (.ok q)) := s2
            clear t2 s2 T1 S1
            have cv := conv_sg n
            have c3_2 := cell_of S2.out.st.1 3
            simp at c3_2
            go_wp2_with fail
            refine (fail_any S2.out p 2 (by decide)).mono ?_
            rintro en w3 ⟨rfl, t3, s3⟩
            have T3 : Hid (Turn [b] w w3) := T2.out.trans t3
            have S3 : Hid (DR w3 b v l (.error (p, 2))) := s3
            clear t3 s3 T2 S2
            obtain ⟨a3, o3, ha3, he3⟩ := S3.out.st
            have c3_3 := cell_of o3 3
            simp at c3_3
            have dn3 : ((2 : Int) != 0) = true := by first | (simp; done) | (simp; omega)
            have de3 : ((2 : Int) == 0) = false := by first | (simp; done) | (simp; omega)
            clear o3
            go_wp2_with fail
            go_ret
            exact ⟨⟨0, rfl⟩, (FinD.mk_ T3.out S3.out)⟩
          · rw [if_neg h3]
            have d3 : decide (2147483648 ≤ sg64 n) = false := by simp; omega
            have S0 : Hid (DR w b v l (.ok p)) := H.out
            have T0 : Hid (Turn [b] w w) := Turn.refl [b] w
            go_enter Tryz.func71, Tryz.ntmps71
            go_wp2_with fail
            refine (P.out _ S0.out).mono ?_
            rintro en w1 ⟨rfl, g1⟩
            have T1 : Hid (Turn [b] w w1) := T0.out.trans (g1.turn _)
            have S1 : Hid (DR w1 b v l (.ok p)) := S0.out.grew g1
            clear g1 T0 S0
            go_wp2_with fail
            refine (A _).mono ?_
            rintro en w9 ⟨rfl, h9⟩
            obtain rfl := h9.symm
            clear h9
            have c1_1 := cell_of S1.out.st.1 1
            have c3_1 := cell_of S1.out.st.1 3
            simp at c1_1 c3_1
            go_wp2_with fail
            refine (Calls.dok (dnumS_any S1.out) hx).mono ?_
            rintro en w2 ⟨rfl, t2, s2⟩
            have T2 : Hid (Turn [b] w w2) := T1.out.trans t2
            have S2 : Hid (DR w2 b v l (.ok q)) := s2
            clear t2 s2 T1 S1
            have cv := conv_sg n
            have c3_2 := cell_of S2.out.st.1 3
            simp at c3_2
            go_wp2_with fail
            go_ret
            exact ⟨rfl, (FinD.mk_ T2.out S2.out)⟩
  · have hr : ∃ f e, runR (heapR l) st = .error (f, e) ∧ runR (numR 33 true l) st = .error (f, e) ∧ e ≠ 0 := by
      cases st with
      | error x => obtain ⟨f, e⟩ := x; obtain ⟨a, _, _, he⟩ := h.st; exact ⟨f, e, rfl, rfl, he⟩
      | ok p =>
        have hpl : p = l.length := by
          have := h.st.2
          rcases Nat.lt_or_ge p l.length with h' | h'
          · exact absurd ⟨p, rfl, h'⟩ hp
          · omega
        refine ⟨p, 3, by show heapR l p = _; unfold heapR; exact atR_no (by omega), ?_, by decide⟩
        subst hpl
        exact numR_end _ _ _
    obtain ⟨f, e, hr1, hx, he⟩ := hr
    rw [hr1]
    obtain ⟨av, plv, ev, ho⟩ := h.obj
    clear h hr1
    have S0 : Hid (DR w b v l st) := H.out
    have T0 : Hid (Turn [b] w w) := Turn.refl [b] w
    go_enter Tryz.func71, Tryz.ntmps71
    go_wp2_with fail
    refine (dpeek_no S0.out hp).mono ?_
    rintro en w1 ⟨rfl, g1⟩
    have T1 : Hid (Turn [b] w w1) := T0.out.trans (g1.turn _)
    have S1 : Hid (DR w1 b v l st) := S0.out.grew g1
    clear g1 T0 S0
    obtain ⟨av1, plv1, ev1, ho1⟩ := S1.out.obj
    have c1_1 := cell_of ho1 1
    simp at c1_1
    clear ho1
    go_wp2_with fail
    refine (Calls.der (dnumS_any S1.out) hx).mono ?_
    rintro en w2 ⟨⟨y, rfl⟩, t2, s2⟩
    have T2 : Hid (Turn [b] w w2) := T1.out.trans t2
    have S2 : Hid (DR w2 b v l (.error (f, e))) := s2
    clear t2 s2 T1 S1
    obtain ⟨a2, o2, ha2, he2⟩ := S2.out.st
    have c3_2 := cell_of o2 3
    simp at c3_2
    have dn2 : ((e : Int) != 0) = true := by first | (simp; done) | (simp; omega)
    have de2 : ((e : Int) == 0) = false := by first | (simp; done) | (simp; omega)
    clear o2
    go_wp2_with fail
    go_ret
    exact ⟨⟨0, rfl⟩, (FinD.mk_ T2.out S2.out)⟩
end Go.Proofs.YtemaeigfhmnapaaGreatDoor
