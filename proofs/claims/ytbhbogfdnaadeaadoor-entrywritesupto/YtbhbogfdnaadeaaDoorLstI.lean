/-
  The walk of list at numbers of types; no statement is proved here.
-/
import Derived.Test.YtbhbogfdnaadeaaDoorLstF
namespace Go.Proofs.YtbhbogfdnaadeaaDoor
open Go.RowKit
set_option linter.unusedVariables false
set_option linter.unusedSimpArgs false
set_option linter.constructorNameAsVariable false

def ic1 (n : Int) : List Value := [.int .i64 n]
theorem infoI : (Tryd.prog.info? 3).map (fun i => (i.zero, i.size, i.bytes)) = some (some (.int .i64 0), 1, 8) := by kernel_rfl
/- The slice holds these elements. -/
def RowI (B : Nat) (w : World) (v : Value) (l : List Int) : Prop := w.ownsRow B 3 1 v l.length (l.flatMap ic1)
theorem RowI.nil (B : Nat) (w : World) : RowI B w (.slice none 0 0) [] := World.ownsRow_nil _ _ _ _
theorem RowI.snoc {B : Nat} {w : World} {v : Value} {l : List Int} {a : Int} (h : w.ownsRow B 3 1 v (l.length + 1) (l.flatMap ic1 ++ ic1 a)) : RowI B w v (l ++ [a]) := by
  unfold RowI
  rw [List.length_append, List.flatMap_append]
  simpa using h
def AnsI (b : Nat) (v : Value) (l : List Int) (w : World) (r : RS (List Int)) (en : Ending) (w' : World) : Prop := match r with
  | .ok (x, q) => ∃ rv, en = .returned rv ∧ RowI w.heap.size w' rv x ∧ Turn [b] w w' ∧ CU w' b v l q
  | .error (f, e) => en = .panicked (flt f e) ∧ Turn [b] w w'
set_option maxRecDepth 100000 in
set_option maxHeartbeats 1000000 in
theorem listI_any {w : World} {b : Nat} {v : Value} {l : List Int} {p : Nat} (h : CU w b v l p) (lim : Int) (h0 : 0 ≤ lim) (h1 : lim ≤ 10000) :
    Calls Tryd.prog 114 #[.pointer (some ⟨b, 0, none⟩), .int .u32 lim, .func (.func 115) #[] #[]] w (AnsI b v l w (listR lim (tyU l) l p)) := by
  have H : Hid (CU w b v l p) := h
  have hb : b < w.heap.size := h.lt
  have c1 := h.c1
  have C := numU_any h
  have hle := h.le
  have HB : Hid (Byt l) := h.byt
  clear h
  unfold listR
  rcases numR_ways (b := 32) (sg := false) hle with ⟨n, q0, hr, hq1, hq2, hx⟩ | ⟨n, f, e, hr, hq1, hq2, hq3, hx⟩
  · have hnb := rd_32 HB.out hr
    rw [hx] at C ⊢
    unfold limR
    simp only
    clear hx hr
    by_cases h3 : lim < n
    · rw [if_pos h3]
      have d3 : decide (lim < n) = true := by simpa using h3
      go_enter Tryd.func114, Tryd.ntmps114
      go_wp2_with fail
      refine C.mono ?_
      rintro en w1 ⟨rfl, t1, u1⟩
      have T1 : Hid (Turn [b] w w1) := t1
      clear C t1 u1
      go_wp2_with fail
      refine (giveUp_any _ 2 _).mono ?_
      rintro en w2 ⟨rfl, h2⟩
      obtain rfl := h2.symm
      go_wp2_with fail
      exact ⟨rfl, rfl, T1.out⟩
    · rw [if_neg h3]
      have d3 : decide (lim < n) = false := by simpa using h3
      obtain ⟨N, rfl⟩ : ∃ N : Nat, n = N := ⟨n.toNat, by omega⟩
      simp only [thenR, Int.toNat_natCast]
      obtain ⟨R, hR⟩ : ∃ R, R = manyR (tyU l) N [] q0 := ⟨_, rfl⟩
      rw [← hR]
      have HR : Hid (R = manyR (tyU l) N [] q0) := hR
      clear hR
      have hN : N ≤ 10000 := by omega
      go_enter Tryd.func114, Tryd.ntmps114
      go_wp2_with fail
      refine C.mono ?_
      rintro en w1 ⟨rfl, t1, u1⟩
      have T1 : Hid (Turn [b] w w1) := t1
      have U1 : Hid (CU w1 b v l q0) := u1
      have hs1 := t1.size
      clear C t1 u1 c1
      go_wp2_with fail
      go_loopw [9, 22] (fun v_ n_ wr => ∃ (k : Nat) (acc : List Int) (q : Nat), n_ = .int .u32 k ∧ k ≤ N ∧ acc.length = k ∧ w.heap.size ≤ wr.heap.size ∧ Hid (RowI w.heap.size wr v_ acc) ∧ Hid (CU wr b v l q) ∧ Hid (Turn [b] w wr) ∧ Hid (R = manyR (tyU l) (N - k) acc q)) (fun _ n_ _ => N - (intOf n_).toNat)
      case atStart => exact ⟨0, [], q0, rfl, by omega, rfl, hs1, RowI.nil _ _, U1, T1, HR⟩
      case round =>
        obtain ⟨k, acc, q, rfl, hk, hacc, hsr, WR, UR, TR, HE⟩ := hrel
        subst hacc
        obtain ⟨aa, cc, hv⟩ := row_one WR.out
        subst hv
        by_cases hkn : acc.length < N
        · have d4 : decide ((acc.length : Int) < (N : Int)) = true := by simp; omega
          have HE2 := HE.out
          rw [show N - acc.length = (N - (acc.length + 1)) + 1 by omega, manyR] at HE2
          have D := index_any UR.out
          cases hx : tyU l q with
          | error y =>
            obtain ⟨f, e⟩ := y
            rw [hx] at HE2 D
            have HE3 : Hid (R = .error (f, e)) := HE2
            clear HE HE2 hx
            go_wp2_with fail
            refine D.mono ?_
            rintro en w2 ⟨rfl, t2⟩
            have T2 : Hid (Turn [b] w w2) := TR.out.trans t2
            clear D t2
            go_wp2_with fail
            exact ⟨rfl, by rw [HE3.out]; exact ⟨rfl, T2.out⟩⟩
          | ok y =>
            obtain ⟨a, q1⟩ := y
            rw [hx] at HE2 D
            have HE3 : Hid (R = manyR (tyU l) (N - (acc.length + 1)) (acc ++ [a]) q1) := HE2
            clear HE HE2 hx
            go_wp2_with fail
            refine D.mono ?_
            rintro en w2 ⟨rfl, t2, u2⟩
            have T2 : Hid (Turn [b] w w2) := TR.out.trans t2
            have U2 : Hid (CU w2 b v l q1) := u2
            have W2 : Hid (RowI w.heap.size w2 (.slice aa acc.length cc) acc) := row_turn WR.out t2 (by intro x hx; simp at hx; subst hx; exact NoT.of UR.out.obj (by decide))
            have hB2 : w.heap.size ≤ w2.heap.size := Nat.le_trans hsr t2.size
            clear D t2 u2 WR TR UR
            skip
            skip
            go_wp2_with (at_builtin; refine wp_app1 (v := .slice aa acc.length cc) (n := acc.length) (cs := acc.flatMap ic1) (B := w.heap.size) rfl _ _ 95 3 1 8 _ Tryd.underlying95 infoI rfl (by decide) (by decide) rfl b rfl rfl W2.out hB2 rfl (by simp [Value.oneCell']) (by omega) ?_; intro v3 w3 hO3 hT3 hG3)
            have T3 : Hid (Turn [b] w w3) := hT3.turn T2.out (Nat.le_refl _)
            have o3 : w3.heap[b]? = some (cur v q1) := (hG3 b U2.out.lt (fun hh => by have := (World.ownsRow.lt W2.out b hh.symm).1; omega)).trans U2.out.obj
            have U3 : Hid (CU w3 b v l q1) := H.out.of T3.out o3 U2.out.le
            clear o3
            go_roundw
            case rel => exact ⟨acc.length + 1, acc ++ [a], q1, by go_num, by omega, by simp, Nat.le_trans hB2 hT3.size, RowI.snoc (a := a) hO3, U3, T3, HE3⟩
            case measure => simp [intOf]; omega
        · have d4 : decide ((acc.length : Int) < (N : Int)) = false := by simp; omega
          have HE2 := HE.out
          rw [show N - acc.length = 0 by omega, manyR] at HE2
          have HE3 : Hid (R = .ok (acc, q)) := HE2
          clear HE HE2
          go_wp2_with fail
          go_ret
          rw [HE3.out]
          exact ⟨_, rfl, WR.out, TR.out, UR.out⟩
  · rw [hx] at C ⊢
    unfold limR
    simp only [thenR]
    clear hx hr
    go_enter Tryd.func114, Tryd.ntmps114
    go_wp2_with fail
    refine C.mono ?_
    rintro en w1 ⟨rfl, t1⟩
    go_wp2_with fail
    exact ⟨rfl, rfl, t1⟩
end Go.Proofs.YtbhbogfdnaadeaaDoor
