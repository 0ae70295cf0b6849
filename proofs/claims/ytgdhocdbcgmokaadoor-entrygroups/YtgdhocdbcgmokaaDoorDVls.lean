/-
  The document's reading: the walks of many and vals; no statement is proved here.
-/
import Derived.Test.YtgdhocdbcgmokaaDoorDVal
namespace Go.Proofs.YtgdhocdbcgmokaaDoor
open Go.RowKit
set_option linter.unusedVariables false
set_option linter.unusedSimpArgs false
set_option linter.constructorNameAsVariable false

set_option maxRecDepth 100000 in
set_option maxHeartbeats 1000000 in
theorem dmany_any {w : World} {b : Nat} {v : Value} {l : List Int} {st : Except (Nat × Nat) Nat} (h : DR w b v l st) (most : Nat) (hm : most ≤ 10000) :
    Calls Tryd.prog 126 #[.pointer (some ⟨b, 0, none⟩), .int .i64 (most : Int)] w fun en w' => match runR (fun p => limR p most (numR 32 false l p)) st with
      | .ok (n, q) => en = .returned (.int .i64 n) ∧ 0 ≤ n ∧ n ≤ most ∧ FinD b v l w w' (.ok q)
      | .error (f, e) => en = .returned (.int .i64 0) ∧ FinD b v l w w' (.error (f, e)) := by
  have H : Hid (DR w b v l st) := h
  have hb : b < w.heap.size := h.lt
  have HB : Hid (Byt l) := h.byt
  have mb : Hid (∀ (w : World), IntKind.u64.wrap (most : Int) = most) := fun _ => by rw [IntKind.wrap_u64]; omega
  cases st with
  | error x =>
    obtain ⟨f, e⟩ := x
    simp only [runR]
    have he : e ≠ 0 := by obtain ⟨a, _, _, he⟩ := h.st; exact he
    have C : Calls Tryd.prog 118 #[.pointer (some ⟨b, 0, none⟩), .int .i64 32, .bool false] w fun en w' => en = .returned (.int .u64 0) ∧ FinD b v l w w' (.error (f, e)) := dnumU_z h
    obtain ⟨a, ho, _, _⟩ := h.st
    have c1 := cell_of ho 1
    simp at c1
    clear h ho
    go_enter Tryd.func126, Tryd.ntmps126
    go_wp2_with fail
    refine C.mono ?_
    rintro en w1 ⟨rfl, t1, s1⟩
    have F1 : Hid (FinD b v l w w1 (.error (f, e))) := ⟨t1, s1⟩
    obtain ⟨a1, o1, _, _⟩ := s1.st
    have c3 := cell_of o1 3
    simp at c3
    have de : ((e : Int) == 0) = false := by simp; exact he
    clear C t1 s1 o1
    go_wp2_with fail
    go_ret
    exact ⟨rfl, F1.out⟩
  | ok p =>
    simp only [runR]
    have hle := h.st.2
    have c1 := cell_of h.st.1 1
    simp at c1
    rcases numR_ways (b := 32) (sg := false) hle with ⟨n, q, hr, h1, h2, hx⟩ | ⟨n, f, e, hr, h1, h2, h3, hx⟩
    · have hb2 := rd_32 HB.out hr
      have C := Calls.dok (dnumU_any h) hx
      rw [hx]
      simp only [limR]
      obtain ⟨N, rfl⟩ : ∃ N : Nat, n = N := ⟨n.toNat, by omega⟩
      clear h hr hx
      by_cases h3 : (most : Int) < (N : Int)
      · rw [if_pos h3]
        have d3 : decide ((most : Int) < (N : Int)) = true := by simpa using h3
        have d3' : decide (most < N) = true := by simpa using h3
        simp only
        go_enter Tryd.func126, Tryd.ntmps126
        go_wp2_with fail
        refine C.mono ?_
        rintro en w1 ⟨rfl, t1, s1⟩
        have T1 : Hid (Turn [b] w w1) := t1
        have S1 : Hid (DR w1 b v l (.ok q)) := s1
        have c3 := cell_of s1.st.1 3
        simp at c3
        clear C t1 s1
        go_wp2_with fail
        refine (fail_any S1.out p 2 (by decide)).mono ?_
        rintro en w2 ⟨rfl, t2, s2⟩
        have F2 : Hid (FinD b v l w w2 (.error (p, 2))) := ⟨T1.out.trans t2, s2⟩
        clear t2 s2
        go_wp2_with fail
        go_ret
        exact ⟨rfl, F2.out⟩
      · rw [if_neg h3]
        have d3 : decide ((most : Int) < (N : Int)) = false := by simpa using h3
        have d3' : decide (most < N) = false := by simp; omega
        simp only
        go_enter Tryd.func126, Tryd.ntmps126
        go_wp2_with fail
        refine C.mono ?_
        rintro en w1 ⟨rfl, t1, s1⟩
        have F1 : Hid (FinD b v l w w1 (.ok q)) := ⟨t1, s1⟩
        have c3 := cell_of s1.st.1 3
        simp at c3
        clear C t1 s1
        go_wp2_with fail
        go_ret
        exact ⟨by simp, by omega, by omega, F1.out⟩
    · have C : Calls Tryd.prog 118 #[.pointer (some ⟨b, 0, none⟩), .int .i64 32, .bool false] w fun en w' => en = .returned (.int .u64 0) ∧ FinD b v l w w' (.error (f, e)) := by
        have := dnumU_z h
        rw [show runR (numR 32 false l) (.ok p) = .error (f, e) from hx] at this
        exact this
      rw [hx]
      simp only [limR]
      have he : e ≠ 0 := by omega
      clear h hr hx
      go_enter Tryd.func126, Tryd.ntmps126
      go_wp2_with fail
      refine C.mono ?_
      rintro en w1 ⟨rfl, t1, s1⟩
      have F1 : Hid (FinD b v l w w1 (.error (f, e))) := ⟨t1, s1⟩
      obtain ⟨a1, o1, _, _⟩ := s1.st
      have c3 := cell_of o1 3
      simp at c3
      have de : ((e : Int) == 0) = false := by simp; exact he
      clear C t1 s1 o1
      go_wp2_with fail
      go_ret
      exact ⟨rfl, F1.out⟩
theorem many_bd {l : List Int} (hb : Byt l) {most : Nat} {st : Except (Nat × Nat) Nat} (hs : ∀ p, st = .ok p → p ≤ l.length) {n : Int} {q : Nat} (h : runR (fun p => limR p (most : Int) (numR 32 false l p)) st = .ok (n, q)) : 0 ≤ n ∧ n ≤ most := by
  cases st with
  | error e => cases h
  | ok p =>
    have h' : limR p (most : Int) (numR 32 false l p) = .ok (n, q) := h
    rcases numR_ways (b := 32) (sg := false) (hs p rfl) with ⟨m, r, hr, _, _, hx⟩ | ⟨m, f, e, hr, _, _, _, hx⟩
    · rw [hx] at h'
      have := rd_32 hb hr
      simp only [limR] at h'
      split at h'
      · cases h'
      · simp only [Except.ok.injEq, Prod.mk.injEq] at h'
        omega
    · rw [hx] at h'
      cases h'
theorem dvalR_any {w : World} {b : Nat} {v : Value} {l : List Int} {st : Except (Nat × Nat) Nat} (h : DR w b v l st) :
    Calls Tryd.prog 122 #[.pointer (some ⟨b, 0, none⟩), .bool true, .bool false] w (DAns VT.v b v l w (runR (valR l) st)) := by
  have := dval_any true false h
  rwa [show valD true false l = valR l from funext (valD_val l h.byt)] at this
def DAnsV (b : Nat) (v : Value) (l : List Int) (w : World) (r : RS (List VT)) (en : Ending) (w' : World) : Prop := match r with
  | .ok (x, q) => ∃ rv, en = .returned rv ∧ RowV w.heap.size w' rv x ∧ FinD b v l w w' (.ok q)
  | .error (f, e) => ∃ rv x, en = .returned rv ∧ RowV w.heap.size w' rv x ∧ FinD b v l w w' (.error (f, e))
set_option maxRecDepth 100000 in
set_option maxHeartbeats 1000000 in
theorem dvals_any {w : World} {b : Nat} {v : Value} {l : List Int} {st : Except (Nat × Nat) Nat} (h : DR w b v l st) :
    Calls Tryd.prog 63 #[.pointer (some ⟨b, 0, none⟩)] w (DAnsV b v l w (runR (valsR l) st)) := by
  have H : Hid (DR w b v l st) := h
  have hb : b < w.heap.size := h.lt
  have hst : ∀ p, st = .ok p → p ≤ l.length := fun p hp => by subst hp; exact h.st.2
  have C := dmany_any h 1000 (by decide)
  obtain ⟨R, hR⟩ : ∃ R, R = runR (valsR l) st := ⟨_, rfl⟩
  rw [← hR]
  obtain ⟨st1, N, hN, hC, hbad⟩ : ∃ (st1 : Except (Nat × Nat) Nat) (N : Nat), N ≤ 1000 ∧ (Calls Tryd.prog 126 #[.pointer (some ⟨b, 0, none⟩), .int .i64 1000] w fun en w' => en = .returned (.int .i64 (N : Int)) ∧ FinD b v l w w' st1) ∧ ((∃ q, st1 = .ok q ∧ R = manyR (valR l) N [] q) ∨ (∃ f e, st1 = .error (f, e) ∧ R = .error (f, e))) := by
    have hR2 : R = match runR (fun p => limR p ((1000 : Nat) : Int) (numR 32 false l p)) st with
        | .ok (n, q) => manyR (valR l) n.toNat [] q
        | .error e => .error e := by
      rw [hR]
      cases st with
      | error e => rfl
      | ok p =>
        show (valsR l) p = match limR p ((1000 : Nat) : Int) (numR 32 false l p) with
          | .ok (n, q) => manyR (valR l) n.toNat [] q
          | .error e => .error e
        rw [show ((1000 : Nat) : Int) = 1000 from rfl]
        unfold valsR listR thenR
        cases limR p 1000 (numR 32 false l p) with
        | error e => rfl
        | ok y => rfl
    cases hx : runR (fun p => limR p ((1000 : Nat) : Int) (numR 32 false l p)) st with
    | error y =>
      obtain ⟨f, e⟩ := y
      rw [hx] at C hR2
      exact ⟨.error (f, e), 0, by omega, C, Or.inr ⟨f, e, rfl, hR2⟩⟩
    | ok y =>
      obtain ⟨n, q⟩ := y
      have hn := many_bd h.byt hst hx
      rw [hx] at C hR2
      refine ⟨.ok q, n.toNat, by omega, ?_, Or.inl ⟨q, rfl, hR2⟩⟩
      refine C.mono ?_
      rintro en w' ⟨rfl, h0, h1, F⟩
      exact ⟨by rw [show ((n.toNat : Nat) : Int) = n by omega], F⟩
  have HBAD : Hid ((∃ q, st1 = .ok q ∧ R = manyR (valR l) N [] q) ∨ (∃ f e, st1 = .error (f, e) ∧ R = .error (f, e))) := hbad
  clear h hR C hbad hst
  go_enter Tryd.func63, Tryd.ntmps63
  go_wp2_with fail
  refine hC.mono ?_
  rintro en w1 ⟨rfl, t1, s1⟩
  have T1 : Hid (Turn [b] w w1) := t1
  have S1 : Hid (DR w1 b v l st1) := s1
  have hs1 := t1.size
  clear hC t1 s1
  go_wp2_with fail
  go_loopw [4, 5] (fun v_ i_ wr => ∃ (k : Nat) (acc : List VT) (stq : Except (Nat × Nat) Nat), i_ = .int .i64 k ∧ k ≤ N ∧ acc.length = k ∧ w.heap.size ≤ wr.heap.size ∧ Hid (RowV w.heap.size wr v_ acc) ∧ Hid (DR wr b v l stq) ∧ Hid (Turn [b] w wr) ∧ Hid ((∃ q, stq = .ok q ∧ R = manyR (valR l) (N - k) acc q) ∨ (∃ f e, stq = .error (f, e) ∧ R = .error (f, e)))) (fun _ i_ _ => N - (intOf i_).toNat)
  case atStart => exact ⟨0, [], st1, rfl, by omega, rfl, hs1, RowV.nil _ _, S1, T1, HBAD⟩
  case round =>
    obtain ⟨k, acc, stq, rfl, hk, hacc, hsr, WR, SR, TR, HE⟩ := hrel
    subst hacc
    obtain ⟨aa, cc, hv⟩ := row_one WR.out
    subst hv
    rcases HE.out with ⟨q, rfl, hE⟩ | ⟨f, e, rfl, hE⟩
    · have c3 := cell_of SR.out.st.1 3
      simp at c3
      by_cases hkn : acc.length < N
      · have d4 : decide ((acc.length : Int) < (N : Int)) = true := by simp; omega
        have d4' : decide (acc.length < N) = true := by simpa using hkn
        rw [show N - acc.length = (N - (acc.length + 1)) + 1 by omega, manyR] at hE
        cases hx : valR l q with
        | error y =>
          obtain ⟨f, e⟩ := y
          rw [hx] at hE
          have HE3 : Hid (R = .error (f, e)) := hE
          have D := Calls.der (dvalR_any SR.out) (hx)
          clear hE HE hx
          go_wp2_with fail
          refine D.mono ?_
          rintro en w2 ⟨⟨a, rfl⟩, t2, s2⟩
          obtain ⟨n1, nul1, hp1⟩ := a
          have T2 : Hid (Turn [b] w w2) := TR.out.trans t2
          have S2 : Hid (DR w2 b v l (.error (f, e))) := s2
          have W2 : Hid (RowV w.heap.size w2 (.slice aa acc.length cc) acc) := row_turn WR.out t2 (SR.out.no (by decide))
          have hB2 : w.heap.size ≤ w2.heap.size := Nat.le_trans hsr t2.size
          clear D t2 s2 WR TR SR c3
          unfold VT.v vt
          go_wp2_with (at_builtin; refine wp_app1 (v := .slice aa acc.length cc) (n := acc.length) (cs := acc.flatMap VT.c) (B := w.heap.size) rfl _ _ 40 29 3 24 _ Tryd.underlying40 infoV rfl (by decide) (by decide) rfl b rfl rfl W2.out hB2 rfl (by simp [Value.oneCell']) (by omega) ?_; intro v3 w3 hO3 hT3 hG3)
          have T3 : Hid (Turn [b] w w3) := hT3.turn T2.out (Nat.le_refl _)
          have S3 : Hid (DR w3 b v l (.error (f, e))) := H.out.of T3.out (S2.out.st.same (hG3 b S2.out.lt (fun hh => by have := (World.ownsRow.lt W2.out b hh.symm).1; omega)))
          go_roundw
          case rel => exact ⟨acc.length + 1, acc ++ [(⟨n1, nul1, hp1⟩ : VT)], (.error (f, e)), by go_num, by omega, by simp, Nat.le_trans hB2 hT3.size, RowV.snoc (a := (⟨n1, nul1, hp1⟩ : VT)) hO3, S3, T3, Or.inr ⟨f, e, rfl, HE3.out⟩⟩
          case measure => simp [intOf]; omega
        | ok y =>
          obtain ⟨a, q1⟩ := y
          rw [hx] at hE
          obtain ⟨n1, nul1, hp1⟩ := a
          have HE3 : Hid (R = manyR (valR l) (N - (acc.length + 1)) (acc ++ [(⟨n1, nul1, hp1⟩ : VT)]) q1) := hE
          have D := Calls.dok (dvalR_any SR.out) (hx)
          clear hE HE hx
          go_wp2_with fail
          refine D.mono ?_
          rintro en w2 ⟨rfl, t2, s2⟩
          have T2 : Hid (Turn [b] w w2) := TR.out.trans t2
          have S2 : Hid (DR w2 b v l (.ok q1)) := s2
          have W2 : Hid (RowV w.heap.size w2 (.slice aa acc.length cc) acc) := row_turn WR.out t2 (SR.out.no (by decide))
          have hB2 : w.heap.size ≤ w2.heap.size := Nat.le_trans hsr t2.size
          clear D t2 s2 WR TR SR c3
          unfold VT.v vt
          go_wp2_with (at_builtin; refine wp_app1 (v := .slice aa acc.length cc) (n := acc.length) (cs := acc.flatMap VT.c) (B := w.heap.size) rfl _ _ 40 29 3 24 _ Tryd.underlying40 infoV rfl (by decide) (by decide) rfl b rfl rfl W2.out hB2 rfl (by simp [Value.oneCell']) (by omega) ?_; intro v3 w3 hO3 hT3 hG3)
          have T3 : Hid (Turn [b] w w3) := hT3.turn T2.out (Nat.le_refl _)
          have S3 : Hid (DR w3 b v l (.ok q1)) := H.out.of T3.out (S2.out.st.same (hG3 b S2.out.lt (fun hh => by have := (World.ownsRow.lt W2.out b hh.symm).1; omega)))
          go_roundw
          case rel => exact ⟨acc.length + 1, acc ++ [(⟨n1, nul1, hp1⟩ : VT)], (.ok q1), by go_num, by omega, by simp, Nat.le_trans hB2 hT3.size, RowV.snoc (a := (⟨n1, nul1, hp1⟩ : VT)) hO3, S3, T3, Or.inl ⟨q1, rfl, HE3.out⟩⟩
          case measure => simp [intOf]; omega
      · have d4 : decide ((acc.length : Int) < (N : Int)) = false := by simp; omega
        have d4' : decide (acc.length < N) = false := by simpa using hkn
        rw [show N - acc.length = 0 by omega, manyR] at hE
        have HE3 : Hid (R = .ok (acc, q)) := hE
        clear hE HE
        go_wp2_with fail
        go_ret
        rw [HE3.out]
        exact ⟨_, rfl, WR.out, TR.out, SR.out⟩
    · have HE3 : Hid (R = .error (f, e)) := hE
      obtain ⟨a1, o1, _, he1⟩ := SR.out.st
      have c3 := cell_of o1 3
      simp at c3
      have de : ((e : Int) == 0) = false := by simp; exact he1
      clear hE HE o1
      by_cases hkn : acc.length < N
      · have d4 : decide ((acc.length : Int) < (N : Int)) = true := by simp; omega
        have d4' : decide (acc.length < N) = true := by simpa using hkn
        go_wp2_with fail
        go_ret
        rw [HE3.out]
        exact ⟨_, acc, rfl, WR.out, TR.out, SR.out⟩
      · have d4 : decide ((acc.length : Int) < (N : Int)) = false := by simp; omega
        have d4' : decide (acc.length < N) = false := by simpa using hkn
        go_wp2_with fail
        go_ret
        rw [HE3.out]
        exact ⟨_, acc, rfl, WR.out, TR.out, SR.out⟩
end Go.Proofs.YtgdhocdbcgmokaaDoor
