/-
  The document's reading: the walk of field; no statement is proved here.
-/
import Derived.Test.YtemaeigfhmnapaaGreatDoorDVal
import Derived.Test.YtemaeigfhmnapaaGreatDoorTopV
namespace Go.Proofs.YtemaeigfhmnapaaGreatDoor
open Go.RowKit
set_option linter.unusedVariables false
set_option linter.unusedSimpArgs false
set_option linter.constructorNameAsVariable false

theorem many_bd {l : List Int} (hb : Byt l) {most : Nat} {st : Except (Nat × Nat) Nat} (hs : ∀ p, st = .ok p → p ≤ l.length) {n : Int} {q : Nat} (h : runR (fun p => limR p (most : Int) (numR 32 false l p)) st = .ok (n, q)) : 0 ≤ n ∧ n ≤ most := by
  cases st with
  | error e => cases h
  | ok p =>
    have h' : limR p (most : Int) (numR 32 false l p) = .ok (n, q) := h
    rcases numR_ways (b := 32) (sg := false) (hs p rfl) with ⟨m, r, hr, _, _, hx⟩ | ⟨m, f, e, hr, _, _, _, hx⟩
    · rw [hx] at h'
      have := rd_32 hb hr
      simp only [limR] at h'
      split at h'
      · cases h'
      · simp only [Except.ok.injEq, Prod.mk.injEq] at h'
        omega
    · rw [hx] at h'
      cases h'
theorem dvalR_any {w : World} {b : Nat} {v : Value} {l : List Int} {st : Except (Nat × Nat) Nat} (h : DR w b v l st) :
    Calls Tryz.prog 47 #[.pointer (some ⟨b, 0, none⟩), .bool true, .bool false] w (DAns VT.v b v l w (runR (valR l) st)) := by
  have := dval_any true false h
  rwa [show valD true false l = valR l from funext (valD_val l h.byt)] at this
def DAnsV (b : Nat) (v : Value) (l : List Int) (w : World) (r : RS (List VT)) (en : Ending) (w' : World) : Prop := match r with
  | .ok (x, q) => ∃ rv, en = .returned rv ∧ RowV w.heap.size w' rv x ∧ FinD b v l w w' (.ok q)
  | .error (f, e) => ∃ rv x, en = .returned rv ∧ RowV w.heap.size w' rv x ∧ FinD b v l w w' (.error (f, e))
end Go.Proofs.YtemaeigfhmnapaaGreatDoor

namespace Go.Proofs.YtemaeigfhmnapaaGreatDoor
open Go.RowKit
set_option linter.unusedVariables false
set_option linter.unusedSimpArgs false
set_option linter.constructorNameAsVariable false

set_option maxRecDepth 100000 in
set_option maxHeartbeats 1000000 in
theorem dsmall_any {w : World} {b : Nat} {v : Value} {l : List Int} {st : Except (Nat × Nat) Nat} (h : DR w b v l st) (most : Nat) (hm : most ≤ 5) :
    Calls Tryz.prog 30 #[.pointer (some ⟨b, 0, none⟩), .int .u8 (most : Int)] w (DAns (fun c => .int .u8 c) b v l w (runR (belowR ((most : Int) + 1) l) st)) := by
  have H : Hid (DR w b v l st) := h
  have hb : b < w.heap.size := h.lt
  have hl := h.len
  by_cases hp : Ahead l st
  · obtain ⟨p, rfl, hp⟩ := hp
    show Calls _ _ _ _ (DAns _ _ _ _ _ (belowR ((most : Int) + 1) l p))
    unfold belowR
    rw [atR_in hp]
    have P : Hid (∀ w', DR w' b v l (.ok p) → Calls Tryz.prog 55 #[.pointer (some ⟨b, 0, none⟩)] w' fun en w'' => en = .returned (.tuple #[.int .u8 (l.getD p 0), .bool true]) ∧ Grew w' w'') := fun w' u => dpeek_ok u hp
    have hc := h.byt p
    generalize l.getD p 0 = c at *
    clear h
    by_cases h1 : (most : Int) + 1 ≤ c
    · rw [if_pos h1]
      have d1 : decide ((most : Int) < c) = true := by simp; omega
      clear h1
      have S0 : Hid (DR w b v l (.ok p)) := H.out
      have T0 : Hid (Turn [b] w w) := Turn.refl [b] w
      go_enter Tryz.func30, Tryz.ntmps30
      go_wp2_with fail
      refine (P.out _ S0.out).mono ?_
      rintro en w1 ⟨rfl, g1⟩
      have T1 : Hid (Turn [b] w w1) := T0.out.trans (g1.turn _)
      have S1 : Hid (DR w1 b v l (.ok p)) := S0.out.grew g1
      clear g1 T0 S0
      have c1_1 := cell_of S1.out.st.1 1
      simp at c1_1
      go_wp2_with fail
      refine (failat_any S1.out p 4 (by decide)).mono ?_
      rintro en w2 ⟨rfl, t2, o2⟩
      have T2 : Hid (Turn [b] w w2) := T1.out.trans t2
      have O2 : Hid (w2.heap[b]? = some (rdg v p p 4)) := o2
      have c1_2 := cell_of o2 1
      have z1_2 := free_of o2 1
      simp at c1_2
      clear t2 o2 T1 S1
      go_wp2_with fail
      go_ret
      have t8 : Turn [b] w (w2.setCell ⟨b, 1, none⟩ (.int .i64 ((p : Int) + 1))) := T2.out.set (Or.inl (by simp)) _
      refine ⟨⟨c, rfl⟩, t8, H.out.of t8 ⟨p + 1, ?_, by omega, by decide⟩⟩
      rw [heap_set O2.out]
      simp [rdg]
    · rw [if_neg h1]
      have d1 : decide ((most : Int) < c) = false := by simp; omega
      clear h1
      have S0 : Hid (DR w b v l (.ok p)) := H.out
      have T0 : Hid (Turn [b] w w) := Turn.refl [b] w
      go_enter Tryz.func30, Tryz.ntmps30
      go_wp2_with fail
      refine (P.out _ S0.out).mono ?_
      rintro en w1 ⟨rfl, g1⟩
      have T1 : Hid (Turn [b] w w1) := T0.out.trans (g1.turn _)
      have S1 : Hid (DR w1 b v l (.ok p)) := S0.out.grew g1
      clear g1 T0 S0
      have c1_1 := cell_of S1.out.st.1 1
      have z1_1 := free_of S1.out.st.1 1
      simp at c1_1
      have hq1 : p + 1 ≤ l.length := by omega
      go_wp2_with fail
      go_ret
      exact ⟨rfl, (FinD.mk_ T1.out S1.out).inc hq1⟩
  · have hr : ∃ f e, runR (belowR ((most : Int) + 1) l) st = .error (f, e) ∧ failS st l.length 3 = .error (f, e) := by
      cases st with
      | error x => obtain ⟨f, e⟩ := x; exact ⟨f, e, rfl, rfl⟩
      | ok p =>
        have hpl : p = l.length := by
          have := h.st.2
          rcases Nat.lt_or_ge p l.length with h' | h'
          · exact absurd ⟨p, rfl, h'⟩ hp
          · omega
        subst hpl
        exact ⟨l.length, 3, by show belowR ((most : Int) + 1) l l.length = _; unfold belowR; exact atR_no (by omega), rfl⟩
    obtain ⟨f, e, hr1, hf⟩ := hr
    rw [hr1]
    obtain ⟨sa, cap, rfl⟩ := h.rd.len
    clear h hr1
    have S0 : Hid (DR w b (.slice sa l.length cap) l st) := H.out
    have T0 : Hid (Turn [b] w w) := Turn.refl [b] w
    go_enter Tryz.func30, Tryz.ntmps30
    go_wp2_with fail
    refine (dpeek_no S0.out hp).mono ?_
    rintro en w1 ⟨rfl, g1⟩
    have T1 : Hid (Turn [b] w w1) := T0.out.trans (g1.turn _)
    have S1 : Hid (DR w1 b (.slice sa l.length cap) l st) := S0.out.grew g1
    clear g1 T0 S0
    obtain ⟨av1, plv1, ev1, ho1⟩ := S1.out.obj
    have c0_1 := cell_of ho1 0
    simp at c0_1
    clear ho1
    go_wp2_with fail
    refine (fail_any S1.out l.length 3 (by decide)).mono ?_
    rw [hf]
    rintro en w2 ⟨rfl, t2, s2⟩
    have F2 : Hid (FinD b (.slice sa l.length cap) l w w2 (.error (f, e))) := ⟨T1.out.trans t2, s2⟩
    clear t2 s2 T1 S1
    go_wp2_with fail
    go_ret
    exact ⟨⟨0, rfl⟩, F2.out⟩
set_option maxRecDepth 100000 in
set_option maxHeartbeats 1000000 in
theorem dtypeAt_any {w : World} {b : Nat} {v : Value} {l : List Int} {st : Except (Nat × Nat) Nat} (h : DR w b v l st) :
    Calls Tryz.prog 31 #[.pointer (some ⟨b, 0, none⟩)] w (DAns (fun n => .int .i64 n) b v l w (runR (tyU l) st)) := by
  have H : Hid (DR w b v l st) := h
  have hb : b < w.heap.size := h.lt
  have HB : Hid (Byt l) := h.byt
  cases st with
  | error x =>
    obtain ⟨f, e⟩ := x
    simp only [runR]
    have he : e ≠ 0 := by obtain ⟨a, _, _, he⟩ := h.st; exact he
    have C : Calls Tryz.prog 38 #[.pointer (some ⟨b, 0, none⟩), .int .i64 32, .bool false] w fun en w' => en = .returned (.int .u64 0) ∧ FinD b v l w w' (.error (f, e)) := dnumU_z h
    obtain ⟨a, ho, _, _⟩ := h.st
    have c1 := cell_of ho 1
    simp at c1
    clear h ho
    go_enter Tryz.func31, Tryz.ntmps31
    go_wp2_with fail
    refine C.mono ?_
    rintro en w1 ⟨rfl, t1, s1⟩
    have F1 : Hid (FinD b v l w w1 (.error (f, e))) := ⟨t1, s1⟩
    obtain ⟨a1, o1, _, _⟩ := s1.st
    have c3 := cell_of o1 3
    simp at c3
    have de : ((e : Int) == 0) = false := by simp; exact he
    clear C t1 s1 o1
    go_wp2_with fail
    go_ret
    exact ⟨⟨0, rfl⟩, F1.out⟩
  | ok p =>
    simp only [runR]
    unfold tyU
    have hle := h.st.2
    have c1 := cell_of h.st.1 1
    simp at c1
    rcases numR_ways (b := 32) (sg := false) hle with ⟨n, q, hr, h1, h2, hx⟩ | ⟨n, f, e, hr, h1, h2, h3, hx⟩
    · have hb2 := rd_32 HB.out hr
      have C := Calls.dok (dnumU_any h) hx
      rw [hx]
      simp only [limR]
      obtain ⟨N, rfl⟩ : ∃ N : Nat, n = N := ⟨n.toNat, by omega⟩
      clear h hr hx
      by_cases h3 : 2147483647 < (N : Int)
      · rw [if_pos h3]
        have d3 : decide ((2147483648 : Int) ≤ (N : Int)) = true := by simp; omega
        have d3' : decide (2147483648 ≤ N) = true := by simp; omega
        go_enter Tryz.func31, Tryz.ntmps31
        go_wp2_with fail
        refine C.mono ?_
        rintro en w1 ⟨rfl, t1, s1⟩
        have T1 : Hid (Turn [b] w w1) := t1
        have S1 : Hid (DR w1 b v l (.ok q)) := s1
        have c3 := cell_of s1.st.1 3
        simp at c3
        clear C t1 s1
        go_wp2_with fail
        refine (fail_any S1.out p 2 (by decide)).mono ?_
        rintro en w2 ⟨rfl, t2, s2⟩
        have F2 : Hid (FinD b v l w w2 (.error (p, 2))) := ⟨T1.out.trans t2, s2⟩
        clear t2 s2
        go_wp2_with fail
        go_ret
        exact ⟨⟨0, rfl⟩, F2.out⟩
      · rw [if_neg h3]
        have d3 : decide ((2147483648 : Int) ≤ (N : Int)) = false := by simp; omega
        have d3' : decide (2147483648 ≤ N) = false := by simp; omega
        go_enter Tryz.func31, Tryz.ntmps31
        go_wp2_with fail
        refine C.mono ?_
        rintro en w1 ⟨rfl, t1, s1⟩
        have F1 : Hid (FinD b v l w w1 (.ok q)) := ⟨t1, s1⟩
        have c3 := cell_of s1.st.1 3
        simp at c3
        clear C t1 s1
        go_wp2_with fail
        go_ret
        exact ⟨by simp, F1.out⟩
    · have C : Calls Tryz.prog 38 #[.pointer (some ⟨b, 0, none⟩), .int .i64 32, .bool false] w fun en w' => en = .returned (.int .u64 0) ∧ FinD b v l w w' (.error (f, e)) := by
        have := dnumU_z h
        rw [show runR (numR 32 false l) (.ok p) = .error (f, e) from hx] at this
        exact this
      rw [hx]
      simp only [limR]
      have he : e ≠ 0 := by omega
      clear h hr hx
      go_enter Tryz.func31, Tryz.ntmps31
      go_wp2_with fail
      refine C.mono ?_
      rintro en w1 ⟨rfl, t1, s1⟩
      have F1 : Hid (FinD b v l w w1 (.error (f, e))) := ⟨t1, s1⟩
      obtain ⟨a1, o1, _, _⟩ := s1.st
      have c3 := cell_of o1 3
      simp at c3
      have de : ((e : Int) == 0) = false := by simp; exact he
      clear C t1 s1 o1
      go_wp2_with fail
      go_ret
      exact ⟨⟨0, rfl⟩, F1.out⟩
end Go.Proofs.YtemaeigfhmnapaaGreatDoor

namespace Go.Proofs.YtemaeigfhmnapaaGreatDoor
open Go.RowKit
set_option linter.unusedVariables false
set_option linter.unusedSimpArgs false
set_option linter.constructorNameAsVariable false

theorem dstorR_any {w : World} {b : Nat} {v : Value} {l : List Int} {st : Except (Nat × Nat) Nat} (h : DR w b v l st) :
    Calls Tryz.prog 47 #[.pointer (some ⟨b, 0, none⟩), .bool true, .bool true] w (DAns VT.v b v l w (runR (storR l) st)) := by
  have := dval_any true true h
  rwa [show valD true true l = storR l from funext (valD_stor l h.byt)] at this
theorem runR_field (l : List Int) (st : Except (Nat × Nat) Nat) : runR (fieldR l) st = thenR (runR (storR l) st) fun v q => mapR (fun m => ⟨v, m⟩) (flagR l q) := by
  cases st with
  | error e => rfl
  | ok p => rfl
theorem FinD.grew {b : Nat} {v : Value} {l : List Int} {w w' w'' : World} {st : Except (Nat × Nat) Nat} (h : FinD b v l w w' st) (g : Grew w' w'') : FinD b v l w w'' st := ⟨h.1.trans (g.turn _), h.2.grew g⟩
theorem belowR_lt {e : Int} {l : List Int} {p : Nat} {c : Int} {q : Nat} (hb : Byt l) (h : belowR e l p = .ok (c, q)) : 0 ≤ c ∧ c < e := by
  unfold belowR atR at h
  split at h
  · dsimp only at h
    split at h
    · cases h
    · simp only [Except.ok.injEq, Prod.mk.injEq] at h
      have := hb p
      omega
  · cases h
end Go.Proofs.YtemaeigfhmnapaaGreatDoor
