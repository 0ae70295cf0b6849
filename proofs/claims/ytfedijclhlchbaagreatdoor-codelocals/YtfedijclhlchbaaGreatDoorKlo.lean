/-
  Code's locals read; no statement is proved here.
-/
import Derived.Test.YtfedijclhlchbaaGreatDoorKcu
namespace Go.Proofs.YtfedijclhlchbaaGreatDoor
open Go.RowKit
set_option linter.unusedVariables false
set_option linter.unusedSimpArgs false
set_option linter.constructorNameAsVariable false

def LC.c (x : LC) : List Value := [.int .u32 x.count, .int .i64 x.ty.num, .bool x.ty.null, .int .i64 x.ty.heap]
theorem infoL : (Tryz.prog.info? 50).map (fun i => (i.zero, i.size, i.bytes)) = some (some (.agg #[.int .u32 0, .int .i64 0, .bool false, .int .i64 0]), 4, 32) := by kernel_rfl
/- The slice holds these runs. -/
def RowL (B : Nat) (w : World) (v : Value) (l : List LC) : Prop := w.ownsRow B 50 4 v l.length (l.flatMap LC.c)
theorem RowL.nil (B : Nat) (w : World) : RowL B w (.slice none 0 0) [] := World.ownsRow_nil _ _ _ _
theorem RowL.snoc {B : Nat} {w : World} {v : Value} {l : List LC} {a : LC} (h : w.ownsRow B 50 4 v (l.length + 1) (l.flatMap LC.c ++ LC.c a)) : RowL B w v (l ++ [a]) := by
  unfold RowL
  rw [List.length_append, List.flatMap_append]
  simpa using h
def AnsL (b : Nat) (v : Value) (l : List Int) (w : World) (r : RS (List LC)) (en : Ending) (w' : World) : Prop := match r with
  | .ok (x, q) => ∃ rv, en = .returned rv ∧ RowL w.heap.size w' rv x ∧ Turn [b] w w' ∧ KU w' b v l q
  | .error (f, e) => en = .panicked (fltK f e) ∧ Turn [b] w w'
set_option maxRecDepth 100000 in
set_option maxHeartbeats 1000000 in
theorem locals_any {w : World} {b : Nat} {v : Value} {l : List Int} {p : Nat} (h : KU w b v l p) :
    Calls Tryz.prog 11 #[.pointer (some ⟨b, 0, none⟩)] w (AnsL b v l w (localsR l p)) := by
  have H : Hid (KU w b v l p) := h
  have hb : b < w.heap.size := h.lt
  have C := atMost_any h 50000
  have hle := h.le
  have HB : Hid (Byt l) := h.byt
  have hadv := lim_adv (m := 50000) (num_adv 32 false l) p hle
  clear h
  unfold localsR
  cases hx : limR p 50000 (numR 32 false l p) with
  | error y =>
    obtain ⟨f, e⟩ := y
    rw [hx] at C
    simp only [thenR]
    clear hx hadv
    go_enter Tryz.func11, Tryz.ntmps11
    go_wp2_with fail
    refine C.mono ?_
    rintro en w1 ⟨rfl, t1⟩
    go_wp2_with fail
    exact ⟨rfl, rfl, t1⟩
  | ok y =>
    obtain ⟨n, q0⟩ := y
    have hq0 := (hadv.1 n q0 hx).2
    have hn := limR_ok hx
    have hn2 := numR_32 HB.out hle hn.1
    have hn3 := hn.2
    rw [hx] at C
    simp only [thenR]
    obtain ⟨N, rfl⟩ : ∃ N : Nat, n = N := ⟨n.toNat, by omega⟩
    simp only [Int.toNat_natCast]
    obtain ⟨R, hR⟩ : ∃ R, R = runsR l N 50000 [] q0 := ⟨_, rfl⟩
    rw [← hR]
    have HR : Hid (R = runsR l N 50000 [] q0) := hR
    have hN : N ≤ 50000 := by omega
    clear hR hx hadv hn hn2 hn3
    go_enter Tryz.func11, Tryz.ntmps11
    go_wp2_with fail
    refine C.mono ?_
    rintro en w1 ⟨rfl, t1, u1⟩
    have T1 : Hid (Turn [b] w w1) := t1
    have U1 : Hid (KU w1 b v l q0) := u1
    have hs1 := t1.size
    clear C t1 u1
    go_wp2_with fail
    go_loopw [3, 4, 8] (fun v_ f_ n_ wr => ∃ (k : Nat) (acc : List LC) (q left : Nat), n_ = .int .u32 k ∧ f_ = .int .u32 left ∧ left ≤ 50000 ∧ k ≤ N ∧ acc.length = k ∧ w.heap.size ≤ wr.heap.size ∧ Hid (RowL w.heap.size wr v_ acc) ∧ Hid (KU wr b v l q) ∧ Hid (Turn [b] w wr) ∧ Hid (R = runsR l (N - k) left acc q)) (fun _ _ n_ _ => N - (intOf n_).toNat)
    case atStart => exact ⟨0, [], q0, 50000, rfl, rfl, by omega, by omega, rfl, hs1, RowL.nil _ _, U1, T1, HR⟩
    case round =>
      obtain ⟨k, acc, q, left, rfl, rfl, hleft, hk, hacc, hsr, WR, UR, TR, HE⟩ := hrel
      subst hacc
      obtain ⟨aa, cc, hv⟩ := row_one WR.out
      subst hv
      by_cases hkn : acc.length < N
      · have d4 : decide ((acc.length : Int) < (N : Int)) = true := by simp; omega
        have HE2 := HE.out
        rw [show N - acc.length = (N - (acc.length + 1)) + 1 by omega, runsR] at HE2
        have D := atMost_any UR.out left
        cases hx : limR q (left : Int) (numR 32 false l q) with
        | error y =>
          obtain ⟨f, e⟩ := y
          rw [hx] at HE2 D
          have HE3 : Hid (R = .error (f, e)) := HE2
          clear HE HE2 hx
          go_wp2_with fail
          refine D.mono ?_
          rintro en w2 ⟨rfl, t2⟩
          have T2 : Hid (Turn [b] w w2) := TR.out.trans t2
          clear D t2
          go_wp2_with fail
          exact ⟨rfl, by rw [HE3.out]; exact ⟨rfl, T2.out⟩⟩
        | ok y =>
          obtain ⟨c, q1⟩ := y
          have hcl := limR_ok hx
          have hc2 := numR_32 HB.out UR.out.le hcl.1
          have hc3 := hcl.2
          rw [hx] at HE2 D
          simp only [thenR] at HE2
          clear HE hx hcl
          obtain ⟨c, rfl⟩ : ∃ c' : Nat, c = c' := ⟨c.toNat, by omega⟩
          have hc4 : c ≤ left := by omega
          clear hc2 hc3
          have hsub : IntKind.u32.wrap ((left : Int) - (c : Int)) = ((left - c : Nat) : Int) := by rw [IntKind.wrap_u32]; omega
          cases hy : valR l q1 with
          | error y =>
            obtain ⟨f, e⟩ := y
            rw [hy] at HE2
            have HE3 : Hid (R = .error (f, e)) := HE2
            clear HE2
            go_wp2_with fail
            refine D.mono ?_
            rintro en w2 ⟨rfl, t2, u2⟩
            have D2 := oneV_any u2
            rw [hy] at D2
            have T2 : Hid (Turn [b] w w2) := TR.out.trans t2
            clear D t2 u2 hy
            go_wp2_with fail
            refine D2.mono ?_
            rintro en w3 ⟨rfl, t3⟩
            have T3 : Hid (Turn [b] w w3) := T2.out.trans t3
            clear D2 t3
            go_wp2_with fail
            exact ⟨rfl, by rw [HE3.out]; exact ⟨rfl, T3.out⟩⟩
          | ok y =>
            obtain ⟨⟨n1, nul1, hp1⟩, q2⟩ := y
            rw [hy] at HE2
            have HE3 : Hid (R = runsR l (N - (acc.length + 1)) ((left : Int) - (c : Int)) (acc ++ [⟨c, ⟨n1, nul1, hp1⟩⟩]) q2) := HE2
            clear HE2
            go_wp2_with fail
            refine D.mono ?_
            rintro en w2 ⟨rfl, t2, u2⟩
            have D2 := oneV_any u2
            rw [hy] at D2
            have T2 : Hid (Turn [b] w w2) := TR.out.trans t2
            have U2 : Hid (KU w2 b v l q1) := u2
            have W2 : Hid (RowL w.heap.size w2 (.slice aa acc.length cc) acc) := row_turn WR.out t2 (by intro x hx; simp at hx; subst hx; exact NoT.of UR.out.obj (by decide))
            have hB2 : w.heap.size ≤ w2.heap.size := Nat.le_trans hsr t2.size
            clear D t2 u2 hy WR TR UR
            go_wp2_with fail
            refine D2.mono ?_
            rintro en w3 ⟨rfl, t3, u3⟩
            have T3 : Hid (Turn [b] w w3) := T2.out.trans t3
            have U3 : Hid (KU w3 b v l q2) := u3
            have W3 : Hid (RowL w.heap.size w3 (.slice aa acc.length cc) acc) := row_turn W2.out t3 (by intro x hx; simp at hx; subst hx; exact NoT.of U2.out.obj (by decide))
            have hB3 : w.heap.size ≤ w3.heap.size := Nat.le_trans hB2 t3.size
            clear D2 t3 u3 W2 T2 U2
            unfold VT.v vt
            go_wp2_with (at_builtin; refine wp_app1 (v := .slice aa acc.length cc) (n := acc.length) (cs := acc.flatMap LC.c) (B := w.heap.size) rfl _ _ 23 50 4 32 _ Tryz.underlying23 infoL rfl (by decide) (by decide) rfl b rfl rfl W3.out hB3 rfl (by simp [Value.oneCell']) (by omega) ?_; intro v4 w4 hO4 hT4 hG4)
            have T4 : Hid (Turn [b] w w4) := hT4.turn T3.out (Nat.le_refl _)
            have o4 : w4.heap[b]? = some (curK v q2) := (hG4 b U3.out.lt (fun hh => by have := (World.ownsRow.lt W3.out b hh.symm).1; omega)).trans U3.out.obj
            have U4 : Hid (KU w4 b v l q2) := H.out.of T4.out o4 U3.out.le
            clear o4
            go_roundw
            case rel => exact ⟨acc.length + 1, acc ++ [(⟨(c : Int), ⟨n1, nul1, hp1⟩⟩ : LC)], q2, left - c, by go_num, by first | rfl | (rw [hsub]), by omega, by omega, by simp, Nat.le_trans hB3 hT4.size, RowL.snoc (a := (⟨(c : Int), ⟨n1, nul1, hp1⟩⟩ : LC)) hO4, U4, T4, by rw [HE3.out]; exact congrArg (fun z => runsR l (N - (acc.length + 1)) z _ q2) (by omega)⟩
            case measure => simp [intOf]; omega
      · have d4 : decide ((acc.length : Int) < (N : Int)) = false := by simp; omega
        have HE2 := HE.out
        rw [show N - acc.length = 0 by omega, runsR] at HE2
        have HE3 : Hid (R = .ok (acc, q)) := HE2
        clear HE HE2
        go_wp2_with fail
        go_ret
        rw [HE3.out]
        exact ⟨_, rfl, WR.out, TR.out, UR.out⟩
end Go.Proofs.YtfedijclhlchbaaGreatDoor
