/-
  The walk of upToEnd at value types; no statement is proved here.
-/
import Derived.Test.YtmcljnohdknpoaaDoorRowM
import Derived.Test.YtmcljnohdknpoaaDoorSpecM
namespace Go.Proofs.YtmcljnohdknpoaaDoor
open Go.RowKit
set_option linter.unusedVariables false
set_option linter.unusedSimpArgs false
set_option linter.constructorNameAsVariable false

theorem infoV : (Tryd.prog.info? 23).map (fun i => (i.zero, i.size, i.bytes)) = some (some (.agg #[.int .i64 0, .bool false, .int .i64 0]), 3, 24) := by kernel_rfl
/- The slice holds these elements. -/
def RowV (B : Nat) (w : World) (v : Value) (l : List VT) : Prop := w.ownsRow B 23 3 v l.length (l.flatMap VT.c)
theorem RowV.nil (B : Nat) (w : World) : RowV B w (.slice none 0 0) [] := World.ownsRow_nil _ _ _ _
theorem RowV.snoc {B : Nat} {w : World} {v : Value} {l : List VT} {a : VT} (h : w.ownsRow B 23 3 v (l.length + 1) (l.flatMap VT.c ++ a.c)) : RowV B w v (l ++ [a]) := by
  unfold RowV
  rw [List.length_append, List.flatMap_append]
  simpa using h
def UpAV (b B : Nat) (s : ByteArray) (w : World) (r : Except Nat (List VT × Nat)) (en : Ending) (w' : World) : Prop := match r with
  | .ok (l, q) => ∃ v, en = .returned v ∧ RowV B w' v l ∧ TB b B w w' ∧ RD w' b s q ∧ l.length ≤ q
  | .error f => en = .panicked (flt f) ∧ TB b B w w'
set_option maxRecDepth 100000 in
set_option maxHeartbeats 1000000 in
theorem upToV {w : World} {b B : Nat} {s : ByteArray} {p : Nat} (h : RD w b s p) (hs : s.size ≤ 65536) (v : Value) (l : List VT) (hrow : RowV B w v l) (hB : B ≤ w.heap.size) (hbB : b < B) (hl : l.length ≤ p)
    (I : World → Prop) (hI : I w) (hIt : ∀ w1 w2, I w1 → TB b B w1 w2 → I w2)
    (hread : ∀ w1 p1, RD w1 b s p1 → I w1 → Calls Tryd.prog 22 #[.pointer (some ⟨b, 0, none⟩)] w1 (Ans VT.v b s w1 (valS s p1))) :
    Calls Tryd.prog 89 #[.pointer (some ⟨b, 0, none⟩), v, .func (.func 22) #[.pointer (some ⟨b, 0, none⟩)] #[]] w (UpAV b B s w (uptoS s (valS s) l p)) := by
  obtain ⟨R, hR⟩ : ∃ R, R = uptoS s (valS s) l p := ⟨_, rfl⟩
  rw [← hR]
  have HR : Hid (R = uptoS s (valS s) l p) := hR
  have H0 : Hid (RD w b s p) := h
  have W0 : Hid (RowV B w v l) := hrow
  have I0 : Hid (I w) := hI
  have HIT : Hid (∀ w1 w2, I w1 → TB b B w1 w2 → I w2) := hIt
  have HRD : Hid (∀ w1 p1, RD w1 b s p1 → I w1 → Calls Tryd.prog 22 #[.pointer (some ⟨b, 0, none⟩)] w1 (Ans VT.v b s w1 (valS s p1))) := hread
  clear h hR hrow hI hIt hread
  go_enter Tryd.func89, Tryd.ntmps89
  go_wp2
  go_loopw [1] (fun v_ w' => ∃ (q : Nat) (m : List VT), Hid (RowV B w' v_ m) ∧ m.length ≤ q ∧ B ≤ w'.heap.size ∧ Hid (RD w' b s q) ∧ Hid (I w') ∧ Hid (TB b B w w') ∧ Hid (R = uptoS s (valS s) m q)) (fun _ w' => s.size - atOf w' b)
  case atStart => exact ⟨p, l, W0, hl, hB, H0, I0, TB.refl _ _ _, HR⟩
  case round =>
    obtain ⟨q, m, WR, hm, hBr, HQ, HI, HT, HE⟩ := hrel
    have hqs : q ≤ s.size := HQ.out.2.1
    have HE2 := HE.out
    unfold uptoS at HE2
    rw [loopS_eq (up_adv (val_adv s)) m q hqs] at HE2
    by_cases hx : tk s q = RP
    · have hst : upStep s (valS s) m q = .ok (.inr (m, nx s q)) := by unfold upStep; rw [if_pos hx]
      rw [hst] at HE2
      have HE3 : Hid (R = .ok (m, nx s q)) := HE2
      have hnx := nx_of hqs hx (by decide)
      have C := skip_yes HQ.out hs RP hx
      obtain ⟨aa, cc, hv⟩ := row_one WR.out
      subst hv
      clear HE HE2 hst
      go_wp2_with fail
      refine C.mono ?_
      rintro en w1 ⟨rfl, t1, r1⟩
      have T1 : Hid (TB b B w w1) := HT.out.trans (TB.of_turn t1 (by simp))
      have R1 : Hid (RD w1 b s (nx s q)) := r1
      have W1 : Hid (RowV B w1 (.slice aa m.length cc) m) := row_turn WR.out t1 (by intro x hx; simp at hx; subst hx; exact NoT.of HQ.out.1 (by decide))
      clear C t1 r1
      go_wp2_with fail
      go_ret
      rw [HE3.out]
      exact ⟨_, rfl, W1.out, T1.out, R1.out, by omega⟩
    · have C := skip_no HQ.out RP hx
      have D := HRD.out _ q HQ.out HI.out
      obtain ⟨aa, cc, hv⟩ := row_one WR.out
      subst hv
      cases hr : valS s q with
      | error f =>
        have hst : upStep s (valS s) m q = .error f := by unfold upStep; rw [if_neg hx, hr]
        rw [hst] at HE2
        have HE3 : Hid (R = .error f) := HE2
        rw [hr] at D
        clear HE HE2 hst hr
        go_wp2_with fail
        refine C.mono ?_
        rintro en w1 ⟨rfl, h1⟩
        obtain rfl := h1.symm
        clear C
        go_wp2_with fail
        refine D.mono ?_
        rintro en w2 ⟨rfl, t2⟩
        have T2 : Hid (TB b B w w2) := HT.out.trans (TB.of_turn t2 (by simp))
        clear D t2
        go_wp2_with fail
        exact ⟨rfl, by rw [HE3.out]; exact ⟨rfl, T2.out⟩⟩
      | ok x =>
        obtain ⟨a, q1⟩ := x
        have hst : upStep s (valS s) m q = .ok (.inl (m ++ [a], q1)) := by unfold upStep; rw [if_neg hx, hr]
        rw [hst] at HE2
        have HE3 : Hid (R = uptoS s (valS s) (m ++ [a]) q1) := HE2
        have hq1 := val_adv s q a q1 hqs hr
        rw [hr] at D
        clear HE HE2 hst hr
        go_wp2_with fail
        refine C.mono ?_
        rintro en w1 ⟨rfl, h1⟩
        obtain rfl := h1.symm
        clear C
        go_wp2_with fail
        refine D.mono ?_
        rintro en w2 ⟨rfl, t2, r2⟩
        have T2 : Hid (TB b B w w2) := HT.out.trans (TB.of_turn t2 (by simp))
        have I2 : Hid (I w2) := HIT.out _ _ HI.out (TB.of_turn t2 (by simp))
        have R2 : Hid (RD w2 b s q1) := r2
        have W2 : Hid (RowV B w2 (.slice aa m.length cc) m) := row_turn WR.out t2 (by intro x hx; simp at hx; subst hx; exact NoT.of HQ.out.1 (by decide))
        have hB2 : B ≤ w2.heap.size := Nat.le_trans hBr t2.size
        clear D t2 r2 WR HI HT
        obtain ⟨n, nul, hp⟩ := a
        unfold VT.v vt
        go_wp2_with (at_builtin; refine wp_app1 (v := .slice aa m.length cc) (n := m.length) (cs := m.flatMap VT.c) (B := B) rfl _ _ 57 23 3 24 _ Tryd.underlying57 infoV rfl (by decide) (by decide) rfl b rfl rfl W2.out hB2 rfl (by simp [Value.oneCell']) (by omega) ?_; intro v3 w3 hO3 hT3 hG3)
        go_roundw
        case rel =>
          refine ⟨q1, _, RowV.snoc (a := ⟨n, nul, hp⟩) hO3, by simp; omega, Nat.le_trans hB2 hT3.size, ?_, HIT.out _ _ I2.out hT3, T2.out.trans hT3, HE3⟩
          exact ⟨(hG3 b (lt_of_obj R2.out.1) (fun hh => by have := (World.ownsRow.lt W2.out b hh.symm).1; omega)).trans R2.out.1, R2.out.2⟩
        case measure =>
          rw [atOf_rdr HQ.out.1, atOf_rdr ((hG3 b (lt_of_obj R2.out.1) (fun hh => by have := (World.ownsRow.lt W2.out b hh.symm).1; omega)).trans R2.out.1)]
          omega
end Go.Proofs.YtmcljnohdknpoaaDoor
