/-
  The document's reading: the walk of vals; no statement is proved here.
-/
import Derived.Test.YtmcljnohdknpoaaDoorDTie
namespace Go.Proofs.YtmcljnohdknpoaaDoor
open Go.RowKit
set_option linter.unusedVariables false
set_option linter.unusedSimpArgs false
set_option linter.constructorNameAsVariable false

/- No more elements than bytes were passed. -/
def Few {α : Type} (st st' : Except Nat Nat) (x : List α) : Prop := (∀ q, st' = .ok q → ∃ p, st = .ok p ∧ x.length + p ≤ q) ∧ match st with
  | .ok p => x.length + p ≤ 65537
  | .error _ => x = []
theorem Few.nil {α : Type} {w : World} {b : Nat} {s : ByteArray} {st : Except Nat Nat} (h : ST w b s st) (hs : s.size ≤ 65536) : Few st st ([] : List α) := by
  cases st with
  | error e => exact ⟨fun q h => by (cases h), rfl⟩
  | ok p =>
    have := h.at_.1
    exact ⟨fun q h => ⟨p, rfl, by cases h; simp⟩, by simp; omega⟩
theorem Few.on {α : Type} {st : Except Nat Nat} {q q' : Nat} {x : List α} (h : Few st (.ok q) x) (hq : q ≤ q') : Few st (.ok q') x := by
  refine ⟨fun r hr => ?_, h.2⟩
  cases hr
  obtain ⟨p, hp, hl⟩ := h.1 q rfl
  exact ⟨p, hp, by omega⟩
theorem Few.len {α : Type} {st : Except Nat Nat} {q : Nat} {x : List α} (h : Few st (.ok q) x) : x.length ≤ q := by
  obtain ⟨p, hp, hl⟩ := h.1 q rfl
  omega
theorem Few.more {α : Type} {st st2 : Except Nat Nat} {q : Nat} {x : List α} (h : Few st (.ok q) x) (hq : q ≤ 65536) (a : α) (h2 : ∀ r, st2 = .ok r → q < r) : Few st st2 (x ++ [a]) := by
  obtain ⟨p, rfl, hl⟩ := h.1 q rfl
  refine ⟨fun r hr => ⟨p, rfl, ?_⟩, ?_⟩
  · have := h2 r hr
    simp
    omega
  · simp
    omega
set_option maxRecDepth 100000 in
set_option maxHeartbeats 1000000 in
theorem dvals_any {w : World} {b : Nat} {s : ByteArray} {st : Except Nat Nat} (h : ST w b s st) (hs : s.size ≤ 65536) :
    Calls Tryd.prog 69 #[.pointer (some ⟨b, 0, none⟩)] w fun en w' => ∃ v x st', en = .returned v ∧ RowV w.heap.size w' v x ∧ Turn [b] w w' ∧ ST w' b s st' ∧ Tied (uptoS s (valS s) []) st x st' ∧ Few st st' x := by
  have hb : b < w.heap.size := h.lt
  have H0 : Hid (ST w b s st) := h
  clear h
  go_enter Tryd.func69, Tryd.ntmps69
  go_wp2_with fail
  go_loopw [3] (fun v_ w' => ∃ (stq : Except Nat Nat) (m : List VT), Hid (RowV w.heap.size w' v_ m) ∧ w.heap.size ≤ w'.heap.size ∧ Hid (ST w' b s stq) ∧ Hid (TB b w.heap.size w w') ∧ Hid (Few st stq m) ∧ Hid (∀ x st', Tied (uptoS s (valS s) m) stq x st' → Tied (uptoS s (valS s) []) st x st')) (fun _ w' => mOf s w' b)
  case atStart => exact ⟨st, [], RowV.nil _ _, Nat.le_refl _, H0, TB.refl _ _ _, Few.nil H0.out hs, fun _ _ h => h⟩
  case round =>
    obtain ⟨stq, m, WR, hBr, HQ, HT, HF, HE⟩ := hrel
    obtain ⟨aa, cc, hv⟩ := row_one WR.out
    subst hv
    cases stq with
    | error f =>
      have c2 := cell2_of (show _ = some (rdg s f true) from HQ.out)
      go_wp2_with fail
      go_ret
      exact ⟨_, m, .error f, rfl, WR.out, HT.out.turn (Turn.refl _ _) (Nat.le_refl _), HQ.out, HE.out m _ rfl, HF.out⟩
    | ok q =>
      have hq := HQ.out.at_.1
      obtain ⟨q0, o0⟩ := HQ.out.obj
      have c2 := cell2_of o0
      have W0 := HQ.out.no (e := 23) (by decide)
      have hml := HF.out.len
      clear o0
      by_cases hx : tk s q = RP
      · have C := is_yes HQ.out hs RP hx (by decide)
        have hnx := nx_of hq hx (by decide)
        go_wp2_with fail
        refine C.mono ?_
        rintro en w1 ⟨rfl, t1, r1⟩
        have T1 : Hid (TB b w.heap.size w w1) := HT.out.trans (TB.of_turn t1 (by simp))
        have R1 : Hid (ST w1 b s (.ok (nx s q))) := r1
        have W1 : Hid (RowV w.heap.size w1 (.slice aa m.length cc) m) := row_turn WR.out t1 W0
        clear C t1 r1
        go_wp2_with fail
        go_ret
        refine ⟨_, m, .ok (nx s q), rfl, W1.out, T1.out.turn (Turn.refl _ _) (Nat.le_refl _), R1.out, HE.out _ _ (up_end (val_adv s) m hq hx), HF.out.on (by omega)⟩
      · have C := is_no HQ.out hs RP (fun h => hx h.1)
        go_wp2_with fail
        refine C.mono ?_
        rintro en w1 ⟨rfl, t1, r1⟩
        have D := dval_any (st := .ok q) r1 hs
        have T1 : Hid (TB b w.heap.size w w1) := HT.out.trans (TB.of_turn t1 (by simp))
        have W1 : Hid (RowV w.heap.size w1 (.slice aa m.length cc) m) := row_turn WR.out t1 W0
        have N1 := ST.no (st := .ok q) r1 (e := 23) (by decide)
        have hB1 : w.heap.size ≤ w1.heap.size := Nat.le_trans hBr t1.size
        clear C t1 r1 W0
        go_wp2_with fail
        refine D.mono ?_
        rintro en w2 ⟨rfl, t2, r2⟩
        have T2 : Hid (TB b w.heap.size w w2) := T1.out.trans (TB.of_turn t2 (by simp))
        have R2 : Hid (ST w2 b s (valT s (.ok q))) := r2
        have W2 : Hid (RowV w.heap.size w2 (.slice aa m.length cc) m) := row_turn W1.out t2 N1
        have hB2 : w.heap.size ≤ w2.heap.size := Nat.le_trans hB1 t2.size
        have VT2 := val_tied s (.ok q)
        have UT : Hid (∀ x st', Tied (uptoS s (valS s) (m ++ [valV s (.ok q)])) (valT s (.ok q)) x st' → Tied (uptoS s (valS s) []) st x st') := fun x st' ht => HE.out x st' (up_tied (val_adv s) hq hx VT2 x st' ht)
        have hlt : Hid (∀ q', valT s (.ok q) = .ok q' → q < q' ∧ q' ≤ s.size) := by
          intro q' hq'
          rw [hq'] at VT2
          obtain ⟨p', hp', hf⟩ := VT2.from
          cases hp'
          exact val_adv s q _ q' hq hf
        clear D t2 r2 WR HT VT2 N1 HE
        generalize valT s (.ok q) = st2 at *
        generalize valV s (.ok q) = a at *
        obtain ⟨n, nul, hp⟩ := a
        unfold VT.v vt
        go_wp2_with (at_builtin; refine wp_app1 (v := .slice aa m.length cc) (n := m.length) (cs := m.flatMap VT.c) (B := w.heap.size) rfl _ _ 57 23 3 24 _ Tryd.underlying57 infoV rfl (by decide) (by decide) rfl b rfl rfl W2.out hB2 rfl (by simp [Value.oneCell']) (by omega) ?_; intro v3 w3 hO3 hT3 hG3)
        have R3 : Hid (ST w3 b s st2) := R2.out.tb (hG3 b R2.out.lt (fun hh => by have := (World.ownsRow.lt W2.out b hh.symm).1; omega))
        go_roundw
        case rel =>
          exact ⟨st2, _, RowV.snoc (a := ⟨n, nul, hp⟩) hO3, Nat.le_trans hB2 hT3.size, R3, T2.out.trans hT3, HF.out.more (by omega) _ (fun r hr => (hlt.out r hr).1), UT⟩
        case measure => exact mOf_lt HQ.out R3.out (fun q' h => (hlt.out q' h).1)
end Go.Proofs.YtmcljnohdknpoaaDoor
