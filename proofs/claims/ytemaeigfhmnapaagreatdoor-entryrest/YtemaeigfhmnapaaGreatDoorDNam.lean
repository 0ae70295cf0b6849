/-
  The document's reading: the walk of name; no statement is proved here.
-/
import Derived.Test.YtemaeigfhmnapaaGreatDoorDTab
import Derived.Test.YtemaeigfhmnapaaGreatDoorN3D
import Derived.Test.YtemaeigfhmnapaaGreatDoorCurX
namespace Go.Proofs.YtemaeigfhmnapaaGreatDoor
open Go.RowKit
set_option linter.unusedVariables false
set_option linter.unusedSimpArgs false
set_option linter.constructorNameAsVariable false

set_option maxRecDepth 100000 in
set_option maxHeartbeats 1000000 in
theorem dname_any {w : World} {b : Nat} {v : Value} {l : List Int} {st : Except (Nat × Nat) Nat} (h : DR w b v l st) :
    Calls Tryz.prog 34 #[.pointer (some ⟨b, 0, none⟩)] w (DAns (fun s => .string (strOfNums s)) b v l w (runR (nameR l) st)) := by
  have H : Hid (DR w b v l st) := h
  have hb : b < w.heap.size := h.lt
  have hl := h.len
  cases st with
  | error x =>
    obtain ⟨f, e⟩ := x
    obtain ⟨a0, o0, ha0, he0⟩ := h.st
    have c3_0 := cell_of o0 3
    simp at c3_0
    have dn0 : ((e : Int) != 0) = true := by first | (simp; done) | (simp; omega)
    clear o0 h
    go_enter Tryz.func34, Tryz.ntmps34
    go_wp2_with fail
    go_ret
    exact ⟨⟨[], rfl⟩, Turn.refl _ _, H.out⟩
  | ok p =>
    have hbd := nm_bd h.st.2
    have c0 := cell_of h.st.1 0
    have c1 := cell_of h.st.1 1
    have c3 := cell_of h.st.1 3
    simp at c0 c1 c3
    have C : Hid (∀ w', Grew w w' → Calls Tryz.prog 59 #[v, .int .i64 p] w' fun en w'' => en = .returned (.tuple #[.string (strOfNums (nm l p).1), .int .i64 (nm l p).2.1, .int .i64 (nm l p).2.2]) ∧ Grew w' w'') := fun w' g => refName_any v l p w' (g.reads h.rd) h.byt h.len
    clear h
    show Calls _ _ _ _ (DAns _ _ _ _ _ (nameR l p))
    unfold nameR
    generalize nm l p = X at *
    obtain ⟨t, q, e⟩ := X
    simp only at hbd C ⊢
    obtain ⟨b1, b2, b3, b4, b5⟩ := hbd
    obtain ⟨s9, hst⟩ : ∃ st, strOfNums t = st := ⟨_, rfl⟩
    rw [hst] at C
    have HST : Hid (strOfNums t = s9) := hst
    clear hst
    by_cases he : e = 0
    · subst he
      rw [if_pos rfl]
      have b5' := b5 rfl
      obtain ⟨k, rfl⟩ : ∃ k : Nat, q = k := ⟨q.toNat, by omega⟩
      rw [Int.toNat_natCast]
      clear b5
      go_enter Tryz.func34, Tryz.ntmps34
      go_wp2_with fail
      refine wp_region_ck [(b, 0, v), (b, 1, .int .i64 p)] (by kernel_rfl) (by kernel_rfl) ⟨⟨hb, c0⟩, ⟨hb, c1⟩, trivial⟩ ?_
      repeat (first
        | go_big_quiet_skip
        | (go_big_quiet_want
           go_big_quiet_op
           first
           | go_big_quiet_on
           | (refine ⟨_, fun _ _ => rfl, ?_⟩; go_big_quiet_on)
           | (refine ⟨v, fun w' hw' => ?_, ?_⟩
              · (obtain ⟨_, ⟨_, hc0⟩, ⟨_, hc1⟩, _⟩ := hw'; go_simp; done)
              go_big_quiet_on)
           | (refine ⟨.int .i64 p, fun w' hw' => ?_, ?_⟩
              · (obtain ⟨_, ⟨_, hc0⟩, ⟨_, hc1⟩, _⟩ := hw'; go_simp; done)
              go_big_quiet_on)
           | (apply Exists.intro
              refine ⟨fun w' hw' => ?_, ?_⟩
              · (first
                 | exact hw'.call (C.out _ hw'.1))
              go_big_quiet_on)))
      refine wpQuiet_nil ?_
      rintro w1 ⟨g1, _⟩
      have T1 : Hid (Turn [b] w w1) := g1.turn _
      have S1 : Hid (DR w1 b v l (.ok p)) := H.out.grew g1
      have e1 := cell_of S1.out.st.1 1
      have z1 := free_of S1.out.st.1 1
      simp at e1
      clear g1 C c0 c1
      go_wp2_with fail
      go_ret
      have t2 : Turn [b] w (w1.setCell ⟨b, 1, none⟩ (.int .i64 (k : Int))) := T1.out.set (Or.inl (by simp)) _
      refine ⟨?_, t2, H.out.of t2 ⟨?_, by omega⟩⟩
      · show _ = Ending.returned (.string (strOfNums t))
        rw [HST.out]
        rfl
      · rw [heap_set S1.out.st.1]
        simp [rdg]
    · rw [if_neg he]
      have he' : (e != 0) = true := by simpa using he
      clear b5
      obtain ⟨f, rfl⟩ : ∃ f : Nat, q = f := ⟨q.toNat, by omega⟩
      obtain ⟨g, rfl⟩ : ∃ g : Nat, e = g := ⟨e.toNat, by omega⟩
      rw [Int.toNat_natCast, Int.toNat_natCast]
      have hg0 : g ≠ 0 := by omega
      clear he
      go_enter Tryz.func34, Tryz.ntmps34
      go_wp2_with fail
      refine wp_region_ck [(b, 0, v), (b, 1, .int .i64 p)] (by kernel_rfl) (by kernel_rfl) ⟨⟨hb, c0⟩, ⟨hb, c1⟩, trivial⟩ ?_
      repeat (first
        | go_big_quiet_skip
        | (go_big_quiet_want
           go_big_quiet_op
           first
           | go_big_quiet_on
           | (refine ⟨_, fun _ _ => rfl, ?_⟩; go_big_quiet_on)
           | (refine ⟨v, fun w' hw' => ?_, ?_⟩
              · (obtain ⟨_, ⟨_, hc0⟩, ⟨_, hc1⟩, _⟩ := hw'; go_simp; done)
              go_big_quiet_on)
           | (refine ⟨.int .i64 p, fun w' hw' => ?_, ?_⟩
              · (obtain ⟨_, ⟨_, hc0⟩, ⟨_, hc1⟩, _⟩ := hw'; go_simp; done)
              go_big_quiet_on)
           | (apply Exists.intro
              refine ⟨fun w' hw' => ?_, ?_⟩
              · (first
                 | exact hw'.call (C.out _ hw'.1))
              go_big_quiet_on)))
      refine wpQuiet_nil ?_
      rintro w1 ⟨g1, _⟩
      have T1 : Hid (Turn [b] w w1) := g1.turn _
      have S1 : Hid (DR w1 b v l (.ok p)) := H.out.grew g1
      have e1 := cell_of S1.out.st.1 1
      have z1 := free_of S1.out.st.1 1
      simp at e1
      clear g1 C c0 c1
      go_wp2_with fail
      refine (fail_any S1.out f g hg0).mono ?_
      rintro en w2 ⟨rfl, t2, s2⟩
      have F2 : Hid (FinD b v l w w2 (.error (f, g))) := ⟨T1.out.trans t2, s2⟩
      clear t2 s2
      go_wp2_with fail
      go_ret
      exact ⟨⟨[], rfl⟩, F2.out⟩
end Go.Proofs.YtemaeigfhmnapaaGreatDoor
