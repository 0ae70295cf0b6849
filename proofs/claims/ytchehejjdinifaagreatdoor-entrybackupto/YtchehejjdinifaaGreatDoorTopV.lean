/-
  The deferred functions that recover; no statement is proved here.
-/
import Derived.Test.YtchehejjdinifaaGreatDoorCurF
import Derived.Defers
import Derived.Recover
namespace Go.Proofs.YtchehejjdinifaaGreatDoor
open Go.RowKit
set_option linter.unusedVariables false
set_option linter.unusedSimpArgs false
set_option linter.constructorNameAsVariable false

def VT.c (x : VT) : List Value := [.int .i64 x.num, .bool x.null, .int .i64 x.heap]
theorem infoV : (Tryz.prog.info? 26).map (fun i => (i.zero, i.size, i.bytes)) = some (some (.agg #[.int .i64 0, .bool false, .int .i64 0]), 3, 24) := by kernel_rfl
/- The slice holds these elements. -/
def RowV (B : Nat) (w : World) (v : Value) (l : List VT) : Prop := w.ownsRow B 26 3 v l.length (l.flatMap VT.c)
theorem RowV.nil (B : Nat) (w : World) : RowV B w (.slice none 0 0) [] := World.ownsRow_nil _ _ _ _
theorem RowV.snoc {B : Nat} {w : World} {v : Value} {l : List VT} {a : VT} (h : w.ownsRow B 26 3 v (l.length + 1) (l.flatMap VT.c ++ VT.c a)) : RowV B w v (l ++ [a]) := by
  unfold RowV
  rw [List.length_append, List.flatMap_append]
  simpa using h
def AnsV (b : Nat) (v : Value) (l : List Int) (w : World) (r : RS (List VT)) (en : Ending) (w' : World) : Prop := match r with
  | .ok (x, q) => ∃ rv, en = .returned rv ∧ RowV w.heap.size w' rv x ∧ Turn [b] w w' ∧ CU w' b v l q
  | .error (f, e) => en = .panicked (flt f e) ∧ Turn [b] w w'
set_option maxRecDepth 100000 in
set_option maxHeartbeats 1000000 in
theorem listV_any {w : World} {b : Nat} {v : Value} {l : List Int} {p : Nat} (h : CU w b v l p) (lim : Int) (h0 : 0 ≤ lim) (h1 : lim ≤ 10000) :
    Calls Tryz.prog 94 #[.pointer (some ⟨b, 0, none⟩), .int .u32 lim, .func (.func 88) #[] #[]] w (AnsV b v l w (listR lim (valR l) l p)) := by
  have H : Hid (CU w b v l p) := h
  have hb : b < w.heap.size := h.lt
  have c1 := h.c1
  have C := numU_any h
  have hle := h.le
  have HB : Hid (Byt l) := h.byt
  clear h
  unfold listR
  rcases numR_ways (b := 32) (sg := false) hle with ⟨n, q0, hr, hq1, hq2, hx⟩ | ⟨n, f, e, hr, hq1, hq2, hq3, hx⟩
  · have hnb := rd_32 HB.out hr
    rw [hx] at C ⊢
    unfold limR
    simp only
    clear hx hr
    by_cases h3 : lim < n
    · rw [if_pos h3]
      have d3 : decide (lim < n) = true := by simpa using h3
      go_enter Tryz.func94, Tryz.ntmps94
      go_wp2_with fail
      refine C.mono ?_
      rintro en w1 ⟨rfl, t1, u1⟩
      have T1 : Hid (Turn [b] w w1) := t1
      clear C t1 u1
      go_wp2_with fail
      refine (giveUp_any _ 2 _).mono ?_
      rintro en w2 ⟨rfl, h2⟩
      obtain rfl := h2.symm
      go_wp2_with fail
      exact ⟨rfl, rfl, T1.out⟩
    · rw [if_neg h3]
      have d3 : decide (lim < n) = false := by simpa using h3
      obtain ⟨N, rfl⟩ : ∃ N : Nat, n = N := ⟨n.toNat, by omega⟩
      simp only [thenR, Int.toNat_natCast]
      obtain ⟨R, hR⟩ : ∃ R, R = manyR (valR l) N [] q0 := ⟨_, rfl⟩
      rw [← hR]
      have HR : Hid (R = manyR (valR l) N [] q0) := hR
      clear hR
      have hN : N ≤ 10000 := by omega
      go_enter Tryz.func94, Tryz.ntmps94
      go_wp2_with fail
      refine C.mono ?_
      rintro en w1 ⟨rfl, t1, u1⟩
      have T1 : Hid (Turn [b] w w1) := t1
      have U1 : Hid (CU w1 b v l q0) := u1
      have hs1 := t1.size
      clear C t1 u1 c1
      go_wp2_with fail
      go_loopw [9, 22] (fun v_ n_ wr => ∃ (k : Nat) (acc : List VT) (q : Nat), n_ = .int .u32 k ∧ k ≤ N ∧ acc.length = k ∧ w.heap.size ≤ wr.heap.size ∧ Hid (RowV w.heap.size wr v_ acc) ∧ Hid (CU wr b v l q) ∧ Hid (Turn [b] w wr) ∧ Hid (R = manyR (valR l) (N - k) acc q)) (fun _ n_ _ => N - (intOf n_).toNat)
      case atStart => exact ⟨0, [], q0, rfl, by omega, rfl, hs1, RowV.nil _ _, U1, T1, HR⟩
      case round =>
        obtain ⟨k, acc, q, rfl, hk, hacc, hsr, WR, UR, TR, HE⟩ := hrel
        subst hacc
        obtain ⟨aa, cc, hv⟩ := row_one WR.out
        subst hv
        by_cases hkn : acc.length < N
        · have d4 : decide ((acc.length : Int) < (N : Int)) = true := by simp; omega
          have HE2 := HE.out
          rw [show N - acc.length = (N - (acc.length + 1)) + 1 by omega, manyR] at HE2
          have D := valType_any UR.out
          cases hx : valR l q with
          | error y =>
            obtain ⟨f, e⟩ := y
            rw [hx] at HE2 D
            have HE3 : Hid (R = .error (f, e)) := HE2
            clear HE HE2 hx
            go_wp2_with fail
            refine D.mono ?_
            rintro en w2 ⟨rfl, t2⟩
            have T2 : Hid (Turn [b] w w2) := TR.out.trans t2
            clear D t2
            go_wp2_with fail
            exact ⟨rfl, by rw [HE3.out]; exact ⟨rfl, T2.out⟩⟩
          | ok y =>
            obtain ⟨a, q1⟩ := y
            rw [hx] at HE2 D
            have HE3 : Hid (R = manyR (valR l) (N - (acc.length + 1)) (acc ++ [a]) q1) := HE2
            clear HE HE2 hx
            go_wp2_with fail
            refine D.mono ?_
            rintro en w2 ⟨rfl, t2, u2⟩
            have T2 : Hid (Turn [b] w w2) := TR.out.trans t2
            have U2 : Hid (CU w2 b v l q1) := u2
            have W2 : Hid (RowV w.heap.size w2 (.slice aa acc.length cc) acc) := row_turn WR.out t2 (by intro x hx; simp at hx; subst hx; exact NoT.of UR.out.obj (by decide))
            have hB2 : w.heap.size ≤ w2.heap.size := Nat.le_trans hsr t2.size
            clear D t2 u2 WR TR UR
            obtain ⟨n1, nul1, hp1⟩ := a
            unfold VT.v vt
            go_wp2_with (at_builtin; refine wp_app1 (v := .slice aa acc.length cc) (n := acc.length) (cs := acc.flatMap VT.c) (B := w.heap.size) rfl _ _ 60 26 3 24 _ Tryz.underlying60 infoV rfl (by decide) (by decide) rfl b rfl rfl W2.out hB2 rfl (by simp [Value.oneCell']) (by omega) ?_; intro v3 w3 hO3 hT3 hG3)
            have T3 : Hid (Turn [b] w w3) := hT3.turn T2.out (Nat.le_refl _)
            have o3 : w3.heap[b]? = some (cur v q1) := (hG3 b U2.out.lt (fun hh => by have := (World.ownsRow.lt W2.out b hh.symm).1; omega)).trans U2.out.obj
            have U3 : Hid (CU w3 b v l q1) := H.out.of T3.out o3 U2.out.le
            clear o3
            go_roundw
            case rel => exact ⟨acc.length + 1, acc ++ [(⟨n1, nul1, hp1⟩ : VT)], q1, by go_num, by omega, by simp, Nat.le_trans hB2 hT3.size, RowV.snoc (a := (⟨n1, nul1, hp1⟩ : VT)) hO3, U3, T3, HE3⟩
            case measure => simp [intOf]; omega
        · have d4 : decide ((acc.length : Int) < (N : Int)) = false := by simp; omega
          have HE2 := HE.out
          rw [show N - acc.length = 0 by omega, manyR] at HE2
          have HE3 : Hid (R = .ok (acc, q)) := HE2
          clear HE HE2
          go_wp2_with fail
          go_ret
          rw [HE3.out]
          exact ⟨_, rfl, WR.out, TR.out, UR.out⟩
  · rw [hx] at C ⊢
    unfold limR
    simp only [thenR]
    clear hx hr
    go_enter Tryz.func94, Tryz.ntmps94
    go_wp2_with fail
    refine C.mono ?_
    rintro en w1 ⟨rfl, t1⟩
    go_wp2_with fail
    exact ⟨rfl, rfl, t1⟩
set_option maxRecDepth 100000 in
set_option maxHeartbeats 1000000 in
theorem valTypes_any {w : World} {b : Nat} {v : Value} {l : List Int} {p : Nat} (h : CU w b v l p) :
    Calls Tryz.prog 74 #[.pointer (some ⟨b, 0, none⟩)] w (AnsV b v l w (valsR l p)) := by
  have C := listV_any h 1000 (by decide) (by decide)
  unfold valsR
  clear h
  cases hx : listR 1000 (valR l) l p with
  | error y =>
    obtain ⟨f, e⟩ := y
    rw [hx] at C
    go_enter Tryz.func74, Tryz.ntmps74
    go_wp2_with fail
    refine C.mono ?_
    rintro en w1 ⟨rfl, t1⟩
    go_wp2_with fail
    exact ⟨rfl, rfl, t1⟩
  | ok y =>
    obtain ⟨x, q⟩ := y
    rw [hx] at C
    go_enter Tryz.func74, Tryz.ntmps74
    go_wp2_with fail
    refine C.mono ?_
    rintro en w1 ⟨rv, rfl, r1, t1, u1⟩
    have F1 : Hid (RowV w.heap.size w1 rv x ∧ Turn [b] w w1 ∧ CU w1 b v l q) := ⟨r1, t1, u1⟩
    obtain ⟨aa, cc, hv⟩ := row_one r1
    subst hv
    clear C t1 u1 r1
    go_wp2_with fail
    go_ret
    exact ⟨_, rfl, F1.out⟩
end Go.Proofs.YtchehejjdinifaaGreatDoor

namespace Go.Proofs.YtchehejjdinifaaGreatDoor
open Go.RowKit
set_option linter.unusedVariables false
set_option linter.unusedSimpArgs false
set_option linter.constructorNameAsVariable false

def FT.c (x : FT) : List Value := [.int .i64 x.ty.num, .bool x.ty.null, .int .i64 x.ty.heap, .bool x.mut_]
theorem infoF : (Tryz.prog.info? 107).map (fun i => (i.zero, i.size, i.bytes)) = some (some (.agg #[.int .i64 0, .bool false, .int .i64 0, .bool false]), 4, 32) := by kernel_rfl
/- The slice holds these elements. -/
def RowF (B : Nat) (w : World) (v : Value) (l : List FT) : Prop := w.ownsRow B 107 4 v l.length (l.flatMap FT.c)
theorem RowF.nil (B : Nat) (w : World) : RowF B w (.slice none 0 0) [] := World.ownsRow_nil _ _ _ _
theorem RowF.snoc {B : Nat} {w : World} {v : Value} {l : List FT} {a : FT} (h : w.ownsRow B 107 4 v (l.length + 1) (l.flatMap FT.c ++ FT.c a)) : RowF B w v (l ++ [a]) := by
  unfold RowF
  rw [List.length_append, List.flatMap_append]
  simpa using h
def AnsF (b : Nat) (v : Value) (l : List Int) (w : World) (r : RS (List FT)) (en : Ending) (w' : World) : Prop := match r with
  | .ok (x, q) => ∃ rv, en = .returned rv ∧ RowF w.heap.size w' rv x ∧ Turn [b] w w' ∧ CU w' b v l q
  | .error (f, e) => en = .panicked (flt f e) ∧ Turn [b] w w'
set_option maxRecDepth 100000 in
set_option maxHeartbeats 1000000 in
theorem listF_any {w : World} {b : Nat} {v : Value} {l : List Int} {p : Nat} (h : CU w b v l p) (lim : Int) (h0 : 0 ≤ lim) (h1 : lim ≤ 10000) :
    Calls Tryz.prog 75 #[.pointer (some ⟨b, 0, none⟩), .int .u32 lim, .func (.func 76) #[] #[]] w (AnsF b v l w (listR lim (fieldR l) l p)) := by
  have H : Hid (CU w b v l p) := h
  have hb : b < w.heap.size := h.lt
  have c1 := h.c1
  have C := numU_any h
  have hle := h.le
  have HB : Hid (Byt l) := h.byt
  clear h
  unfold listR
  rcases numR_ways (b := 32) (sg := false) hle with ⟨n, q0, hr, hq1, hq2, hx⟩ | ⟨n, f, e, hr, hq1, hq2, hq3, hx⟩
  · have hnb := rd_32 HB.out hr
    rw [hx] at C ⊢
    unfold limR
    simp only
    clear hx hr
    by_cases h3 : lim < n
    · rw [if_pos h3]
      have d3 : decide (lim < n) = true := by simpa using h3
      go_enter Tryz.func75, Tryz.ntmps75
      go_wp2_with fail
      refine C.mono ?_
      rintro en w1 ⟨rfl, t1, u1⟩
      have T1 : Hid (Turn [b] w w1) := t1
      clear C t1 u1
      go_wp2_with fail
      refine (giveUp_any _ 2 _).mono ?_
      rintro en w2 ⟨rfl, h2⟩
      obtain rfl := h2.symm
      go_wp2_with fail
      exact ⟨rfl, rfl, T1.out⟩
    · rw [if_neg h3]
      have d3 : decide (lim < n) = false := by simpa using h3
      obtain ⟨N, rfl⟩ : ∃ N : Nat, n = N := ⟨n.toNat, by omega⟩
      simp only [thenR, Int.toNat_natCast]
      obtain ⟨R, hR⟩ : ∃ R, R = manyR (fieldR l) N [] q0 := ⟨_, rfl⟩
      rw [← hR]
      have HR : Hid (R = manyR (fieldR l) N [] q0) := hR
      clear hR
      have hN : N ≤ 10000 := by omega
      go_enter Tryz.func75, Tryz.ntmps75
      go_wp2_with fail
      refine C.mono ?_
      rintro en w1 ⟨rfl, t1, u1⟩
      have T1 : Hid (Turn [b] w w1) := t1
      have U1 : Hid (CU w1 b v l q0) := u1
      have hs1 := t1.size
      clear C t1 u1 c1
      go_wp2_with fail
      go_loopw [9, 22] (fun v_ n_ wr => ∃ (k : Nat) (acc : List FT) (q : Nat), n_ = .int .u32 k ∧ k ≤ N ∧ acc.length = k ∧ w.heap.size ≤ wr.heap.size ∧ Hid (RowF w.heap.size wr v_ acc) ∧ Hid (CU wr b v l q) ∧ Hid (Turn [b] w wr) ∧ Hid (R = manyR (fieldR l) (N - k) acc q)) (fun _ n_ _ => N - (intOf n_).toNat)
      case atStart => exact ⟨0, [], q0, rfl, by omega, rfl, hs1, RowF.nil _ _, U1, T1, HR⟩
      case round =>
        obtain ⟨k, acc, q, rfl, hk, hacc, hsr, WR, UR, TR, HE⟩ := hrel
        subst hacc
        obtain ⟨aa, cc, hv⟩ := row_one WR.out
        subst hv
        by_cases hkn : acc.length < N
        · have d4 : decide ((acc.length : Int) < (N : Int)) = true := by simp; omega
          have HE2 := HE.out
          rw [show N - acc.length = (N - (acc.length + 1)) + 1 by omega, manyR] at HE2
          have D := field_any UR.out
          cases hx : fieldR l q with
          | error y =>
            obtain ⟨f, e⟩ := y
            rw [hx] at HE2 D
            have HE3 : Hid (R = .error (f, e)) := HE2
            clear HE HE2 hx
            go_wp2_with fail
            refine D.mono ?_
            rintro en w2 ⟨rfl, t2⟩
            have T2 : Hid (Turn [b] w w2) := TR.out.trans t2
            clear D t2
            go_wp2_with fail
            exact ⟨rfl, by rw [HE3.out]; exact ⟨rfl, T2.out⟩⟩
          | ok y =>
            obtain ⟨a, q1⟩ := y
            rw [hx] at HE2 D
            have HE3 : Hid (R = manyR (fieldR l) (N - (acc.length + 1)) (acc ++ [a]) q1) := HE2
            clear HE HE2 hx
            go_wp2_with fail
            refine D.mono ?_
            rintro en w2 ⟨rfl, t2, u2⟩
            have T2 : Hid (Turn [b] w w2) := TR.out.trans t2
            have U2 : Hid (CU w2 b v l q1) := u2
            have W2 : Hid (RowF w.heap.size w2 (.slice aa acc.length cc) acc) := row_turn WR.out t2 (by intro x hx; simp at hx; subst hx; exact NoT.of UR.out.obj (by decide))
            have hB2 : w.heap.size ≤ w2.heap.size := Nat.le_trans hsr t2.size
            clear D t2 u2 WR TR UR
            obtain ⟨⟨n1, nul1, hp1⟩, mu1⟩ := a
            unfold FT.v
            go_wp2_with (at_builtin; refine wp_app1 (v := .slice aa acc.length cc) (n := acc.length) (cs := acc.flatMap FT.c) (B := w.heap.size) rfl _ _ 61 107 4 32 _ Tryz.underlying61 infoF rfl (by decide) (by decide) rfl b rfl rfl W2.out hB2 rfl (by simp [Value.oneCell']) (by omega) ?_; intro v3 w3 hO3 hT3 hG3)
            have T3 : Hid (Turn [b] w w3) := hT3.turn T2.out (Nat.le_refl _)
            have o3 : w3.heap[b]? = some (cur v q1) := (hG3 b U2.out.lt (fun hh => by have := (World.ownsRow.lt W2.out b hh.symm).1; omega)).trans U2.out.obj
            have U3 : Hid (CU w3 b v l q1) := H.out.of T3.out o3 U2.out.le
            clear o3
            go_roundw
            case rel => exact ⟨acc.length + 1, acc ++ [(⟨⟨n1, nul1, hp1⟩, mu1⟩ : FT)], q1, by go_num, by omega, by simp, Nat.le_trans hB2 hT3.size, RowF.snoc (a := (⟨⟨n1, nul1, hp1⟩, mu1⟩ : FT)) hO3, U3, T3, HE3⟩
            case measure => simp [intOf]; omega
        · have d4 : decide ((acc.length : Int) < (N : Int)) = false := by simp; omega
          have HE2 := HE.out
          rw [show N - acc.length = 0 by omega, manyR] at HE2
          have HE3 : Hid (R = .ok (acc, q)) := HE2
          clear HE HE2
          go_wp2_with fail
          go_ret
          rw [HE3.out]
          exact ⟨_, rfl, WR.out, TR.out, UR.out⟩
  · rw [hx] at C ⊢
    unfold limR
    simp only [thenR]
    clear hx hr
    go_enter Tryz.func75, Tryz.ntmps75
    go_wp2_with fail
    refine C.mono ?_
    rintro en w1 ⟨rfl, t1⟩
    go_wp2_with fail
    exact ⟨rfl, rfl, t1⟩
end Go.Proofs.YtchehejjdinifaaGreatDoor

namespace Go.Proofs.YtchehejjdinifaaGreatDoor
open Go.RowKit
set_option linter.unusedVariables false
set_option linter.unusedSimpArgs false
set_option linter.constructorNameAsVariable false

def ic1 (n : Int) : List Value := [.int .i64 n]
theorem infoI : (Tryz.prog.info? 3).map (fun i => (i.zero, i.size, i.bytes)) = some (some (.int .i64 0), 1, 8) := by kernel_rfl
/- The slice holds these elements. -/
def RowI (B : Nat) (w : World) (v : Value) (l : List Int) : Prop := w.ownsRow B 3 1 v l.length (l.flatMap ic1)
theorem RowI.nil (B : Nat) (w : World) : RowI B w (.slice none 0 0) [] := World.ownsRow_nil _ _ _ _
theorem RowI.snoc {B : Nat} {w : World} {v : Value} {l : List Int} {a : Int} (h : w.ownsRow B 3 1 v (l.length + 1) (l.flatMap ic1 ++ ic1 a)) : RowI B w v (l ++ [a]) := by
  unfold RowI
  rw [List.length_append, List.flatMap_append]
  simpa using h
def AnsI (b : Nat) (v : Value) (l : List Int) (w : World) (r : RS (List Int)) (en : Ending) (w' : World) : Prop := match r with
  | .ok (x, q) => ∃ rv, en = .returned rv ∧ RowI w.heap.size w' rv x ∧ Turn [b] w w' ∧ CU w' b v l q
  | .error (f, e) => en = .panicked (flt f e) ∧ Turn [b] w w'
set_option maxRecDepth 100000 in
set_option maxHeartbeats 1000000 in
theorem listI_any {w : World} {b : Nat} {v : Value} {l : List Int} {p : Nat} (h : CU w b v l p) (lim : Int) (h0 : 0 ≤ lim) (h1 : lim ≤ 10000) :
    Calls Tryz.prog 43 #[.pointer (some ⟨b, 0, none⟩), .int .u32 lim, .func (.func 44) #[] #[]] w (AnsI b v l w (listR lim (tyU l) l p)) := by
  have H : Hid (CU w b v l p) := h
  have hb : b < w.heap.size := h.lt
  have c1 := h.c1
  have C := numU_any h
  have hle := h.le
  have HB : Hid (Byt l) := h.byt
  clear h
  unfold listR
  rcases numR_ways (b := 32) (sg := false) hle with ⟨n, q0, hr, hq1, hq2, hx⟩ | ⟨n, f, e, hr, hq1, hq2, hq3, hx⟩
  · have hnb := rd_32 HB.out hr
    rw [hx] at C ⊢
    unfold limR
    simp only
    clear hx hr
    by_cases h3 : lim < n
    · rw [if_pos h3]
      have d3 : decide (lim < n) = true := by simpa using h3
      go_enter Tryz.func43, Tryz.ntmps43
      go_wp2_with fail
      refine C.mono ?_
      rintro en w1 ⟨rfl, t1, u1⟩
      have T1 : Hid (Turn [b] w w1) := t1
      clear C t1 u1
      go_wp2_with fail
      refine (giveUp_any _ 2 _).mono ?_
      rintro en w2 ⟨rfl, h2⟩
      obtain rfl := h2.symm
      go_wp2_with fail
      exact ⟨rfl, rfl, T1.out⟩
    · rw [if_neg h3]
      have d3 : decide (lim < n) = false := by simpa using h3
      obtain ⟨N, rfl⟩ : ∃ N : Nat, n = N := ⟨n.toNat, by omega⟩
      simp only [thenR, Int.toNat_natCast]
      obtain ⟨R, hR⟩ : ∃ R, R = manyR (tyU l) N [] q0 := ⟨_, rfl⟩
      rw [← hR]
      have HR : Hid (R = manyR (tyU l) N [] q0) := hR
      clear hR
      have hN : N ≤ 10000 := by omega
      go_enter Tryz.func43, Tryz.ntmps43
      go_wp2_with fail
      refine C.mono ?_
      rintro en w1 ⟨rfl, t1, u1⟩
      have T1 : Hid (Turn [b] w w1) := t1
      have U1 : Hid (CU w1 b v l q0) := u1
      have hs1 := t1.size
      clear C t1 u1 c1
      go_wp2_with fail
      go_loopw [9, 22] (fun v_ n_ wr => ∃ (k : Nat) (acc : List Int) (q : Nat), n_ = .int .u32 k ∧ k ≤ N ∧ acc.length = k ∧ w.heap.size ≤ wr.heap.size ∧ Hid (RowI w.heap.size wr v_ acc) ∧ Hid (CU wr b v l q) ∧ Hid (Turn [b] w wr) ∧ Hid (R = manyR (tyU l) (N - k) acc q)) (fun _ n_ _ => N - (intOf n_).toNat)
      case atStart => exact ⟨0, [], q0, rfl, by omega, rfl, hs1, RowI.nil _ _, U1, T1, HR⟩
      case round =>
        obtain ⟨k, acc, q, rfl, hk, hacc, hsr, WR, UR, TR, HE⟩ := hrel
        subst hacc
        obtain ⟨aa, cc, hv⟩ := row_one WR.out
        subst hv
        by_cases hkn : acc.length < N
        · have d4 : decide ((acc.length : Int) < (N : Int)) = true := by simp; omega
          have HE2 := HE.out
          rw [show N - acc.length = (N - (acc.length + 1)) + 1 by omega, manyR] at HE2
          have D := index_any UR.out
          cases hx : tyU l q with
          | error y =>
            obtain ⟨f, e⟩ := y
            rw [hx] at HE2 D
            have HE3 : Hid (R = .error (f, e)) := HE2
            clear HE HE2 hx
            go_wp2_with fail
            refine D.mono ?_
            rintro en w2 ⟨rfl, t2⟩
            have T2 : Hid (Turn [b] w w2) := TR.out.trans t2
            clear D t2
            go_wp2_with fail
            exact ⟨rfl, by rw [HE3.out]; exact ⟨rfl, T2.out⟩⟩
          | ok y =>
            obtain ⟨a, q1⟩ := y
            rw [hx] at HE2 D
            have HE3 : Hid (R = manyR (tyU l) (N - (acc.length + 1)) (acc ++ [a]) q1) := HE2
            clear HE HE2 hx
            go_wp2_with fail
            refine D.mono ?_
            rintro en w2 ⟨rfl, t2, u2⟩
            have T2 : Hid (Turn [b] w w2) := TR.out.trans t2
            have U2 : Hid (CU w2 b v l q1) := u2
            have W2 : Hid (RowI w.heap.size w2 (.slice aa acc.length cc) acc) := row_turn WR.out t2 (by intro x hx; simp at hx; subst hx; exact NoT.of UR.out.obj (by decide))
            have hB2 : w.heap.size ≤ w2.heap.size := Nat.le_trans hsr t2.size
            clear D t2 u2 WR TR UR
            skip
            skip
            go_wp2_with (at_builtin; refine wp_app1 (v := .slice aa acc.length cc) (n := acc.length) (cs := acc.flatMap ic1) (B := w.heap.size) rfl _ _ 59 3 1 8 _ Tryz.underlying59 infoI rfl (by decide) (by decide) rfl b rfl rfl W2.out hB2 rfl (by simp [Value.oneCell']) (by omega) ?_; intro v3 w3 hO3 hT3 hG3)
            have T3 : Hid (Turn [b] w w3) := hT3.turn T2.out (Nat.le_refl _)
            have o3 : w3.heap[b]? = some (cur v q1) := (hG3 b U2.out.lt (fun hh => by have := (World.ownsRow.lt W2.out b hh.symm).1; omega)).trans U2.out.obj
            have U3 : Hid (CU w3 b v l q1) := H.out.of T3.out o3 U2.out.le
            clear o3
            go_roundw
            case rel => exact ⟨acc.length + 1, acc ++ [a], q1, by go_num, by omega, by simp, Nat.le_trans hB2 hT3.size, RowI.snoc (a := a) hO3, U3, T3, HE3⟩
            case measure => simp [intOf]; omega
        · have d4 : decide ((acc.length : Int) < (N : Int)) = false := by simp; omega
          have HE2 := HE.out
          rw [show N - acc.length = 0 by omega, manyR] at HE2
          have HE3 : Hid (R = .ok (acc, q)) := HE2
          clear HE HE2
          go_wp2_with fail
          go_ret
          rw [HE3.out]
          exact ⟨_, rfl, WR.out, TR.out, UR.out⟩
  · rw [hx] at C ⊢
    unfold limR
    simp only [thenR]
    clear hx hr
    go_enter Tryz.func43, Tryz.ntmps43
    go_wp2_with fail
    refine C.mono ?_
    rintro en w1 ⟨rfl, t1⟩
    go_wp2_with fail
    exact ⟨rfl, rfl, t1⟩
end Go.Proofs.YtchehejjdinifaaGreatDoor

namespace Go.Proofs.YtchehejjdinifaaGreatDoor
open Go.RowKit
set_option linter.unusedVariables false
set_option linter.unusedSimpArgs false
set_option linter.constructorNameAsVariable false

theorem RowV.turn {B : Nat} {w w' : World} {v : Value} {l : List VT} {S : List Nat} (h : RowV B w v l) (t : Turn S w w') (hS : ∀ x ∈ S, NoT w x 26) : RowV B w' v l := row_turn h t hS
theorem RowF.turn {B : Nat} {w w' : World} {v : Value} {l : List FT} {S : List Nat} (h : RowF B w v l) (t : Turn S w w') (hS : ∀ x ∈ S, NoT w x 107) : RowF B w' v l := row_turn h t hS
theorem RowI.turn {B : Nat} {w w' : World} {v : Value} {l : List Int} {S : List Nat} (h : RowI B w v l) (t : Turn S w w') (hS : ∀ x ∈ S, NoT w x 3) : RowI B w' v l := row_turn h t hS
theorem RowV.low {B B' : Nat} {w : World} {v : Value} {l : List VT} (h : RowV B w v l) (hb : B' ≤ B) : RowV B' w v l := row_low h hb
theorem RowF.low {B B' : Nat} {w : World} {v : Value} {l : List FT} (h : RowF B w v l) (hb : B' ≤ B) : RowF B' w v l := row_low h hb
theorem RowI.low {B B' : Nat} {w : World} {v : Value} {l : List Int} (h : RowI B w v l) (hb : B' ≤ B) : RowI B' w v l := row_low h hb
theorem Fin.grew {b : Nat} {v : Value} {l : List Int} {w w' w'' : World} {q : Nat} (h : Fin b v l w w' q) (g : Grew w' w'') : Fin b v l w w'' q := ⟨h.1.trans (g.turn _), h.2.grew g⟩
theorem row_new (w : World) (e : TypeId) (k : Nat) (hk : 0 < k) (cs : Array Value) (hc : cs.size = k) (h1 : ∀ u ∈ cs.toList, u.oneCell' = true) : (w.alloc (.cells cs e)).ownsRow w.heap.size e k (.slice (some ⟨w.heap.size, 0, none⟩) 1 1) 1 cs.toList := by
  refine ⟨by simp [hc], Or.inr ⟨w.heap.size, 1, cs, rfl, Nat.le_refl _, heap_alloc_last _ _, ?_⟩⟩
  refine ⟨Nat.le_refl _, by unfold maxLen; omega, ?_⟩
  simp [hc]
  exact List.take_of_length_le (by simp [hc])
/- The cells of a composite type; its rows lie from B on. -/
def CompC (B : Nat) (w : World) (cs : List Value) (x : CT) : Prop := ∃ pv rv fv, cs = [.int .i64 x.kind, pv, rv, fv] ∧ RowV B w pv x.params ∧ RowV B w rv x.results ∧ RowF B w fv x.fields
/- The cells of a type; its rows lie from B on. -/
def SubC (B : Nat) (w : World) (cs : List Value) (x : SB) : Prop := ∃ sv pv rv fv, cs = [.bool x.final_, sv, .int .i64 x.comp.kind, pv, rv, fv] ∧ RowI B w sv x.supers ∧ RowV B w pv x.comp.params ∧ RowV B w rv x.comp.results ∧ RowF B w fv x.comp.fields
theorem SubC.turn {B : Nat} {w w' : World} {cs : List Value} {x : SB} {S : List Nat} (h : SubC B w cs x) (t : Turn S w w') (h1 : ∀ y ∈ S, NoT w y 3) (h2 : ∀ y ∈ S, NoT w y 26) (h3 : ∀ y ∈ S, NoT w y 107) : SubC B w' cs x := by
  obtain ⟨sv, pv, rv, fv, e, a1, a2, a3, a4⟩ := h
  exact ⟨sv, pv, rv, fv, e, a1.turn t h1, a2.turn t h2, a3.turn t h2, a4.turn t h3⟩
theorem SubC.low {B B' : Nat} {w : World} {cs : List Value} {x : SB} (h : SubC B w cs x) (hb : B' ≤ B) : SubC B' w cs x := by
  obtain ⟨sv, pv, rv, fv, e, a1, a2, a3, a4⟩ := h
  exact ⟨sv, pv, rv, fv, e, a1.low hb, a2.low hb, a3.low hb, a4.low hb⟩
theorem SubC.grew {B : Nat} {w w' : World} {cs : List Value} {x : SB} (h : SubC B w cs x) (g : Grew w w') : SubC B w' cs x := h.turn (g.turn []) (by simp) (by simp) (by simp)
theorem CompC.turn {B : Nat} {w w' : World} {cs : List Value} {x : CT} {S : List Nat} (h : CompC B w cs x) (t : Turn S w w') (h2 : ∀ y ∈ S, NoT w y 26) (h3 : ∀ y ∈ S, NoT w y 107) : CompC B w' cs x := by
  obtain ⟨pv, rv, fv, e, a2, a3, a4⟩ := h
  exact ⟨pv, rv, fv, e, a2.turn t h2, a3.turn t h2, a4.turn t h3⟩
theorem CompC.low {B B' : Nat} {w : World} {cs : List Value} {x : CT} (h : CompC B w cs x) (hb : B' ≤ B) : CompC B' w cs x := by
  obtain ⟨pv, rv, fv, e, a2, a3, a4⟩ := h
  exact ⟨pv, rv, fv, e, a2.low hb, a3.low hb, a4.low hb⟩
theorem row_keep {w w' : World} {B B' : Nat} {e : TypeId} {k : Nat} {u v : Value} {n m : Nat} {cs ds : List Value} (h : w.ownsRow B e k u n cs) (hv : w.ownsRow B' 65 6 v m ds) (hne : 65 ≠ e) (hG : ∀ x < w.heap.size, some x ≠ v.ownBlock → w'.heap[x]? = w.heap[x]?) : w'.ownsRow B e k u n cs := by
  obtain ⟨h1, h2 | ⟨g, cap, cur, hu, hB, hg, h3⟩⟩ := h
  · exact ⟨h1, Or.inl h2⟩
  · refine ⟨h1, Or.inr ⟨g, cap, cur, hu, hB, (hG g (lt_of_obj hg) (fun hx => ?_)).trans hg, h3⟩⟩
    obtain ⟨_, ⟨rfl, _⟩ | ⟨g', cap', cur', rfl, _, hg', _⟩⟩ := hv
    · cases hx
    · have : g = g' := by simpa [Value.ownBlock] using hx
      subst this
      rw [hg] at hg'
      injection hg' with hg'
      injection hg' with _ h2 _
      exact hne h2.symm
theorem SubC.keep {B B' : Nat} {w w' : World} {cs ds : List Value} {x : SB} {v : Value} {m : Nat} (h : SubC B w cs x) (hv : w.ownsRow B' 65 6 v m ds) (hG : ∀ x < w.heap.size, some x ≠ v.ownBlock → w'.heap[x]? = w.heap[x]?) : SubC B w' cs x := by
  obtain ⟨sv, pv, rv, fv, e, a1, a2, a3, a4⟩ := h
  exact ⟨sv, pv, rv, fv, e, row_keep a1 hv (by decide) hG, row_keep a2 hv (by decide) hG, row_keep a3 hv (by decide) hG, row_keep a4 hv (by decide) hG⟩
def SubsQ (B : Nat) (w : World) (v : Value) (l : List SB) : Prop := ∃ cs, w.ownsRow B 65 6 v l.length cs ∧ ∀ i x, l[i]? = some x → SubC B w ((cs.drop (i * 6)).take 6) x
theorem SubsQ.nil (B : Nat) (w : World) : SubsQ B w (.slice none 0 0) [] := ⟨[], World.ownsRow_nil _ _ _ _, fun i x h => by simp at h⟩
theorem SubsQ.one {B : Nat} {w : World} {v : Value} {l : List SB} (h : SubsQ B w v l) : ∃ a c, v = .slice a l.length c := by
  obtain ⟨cs, h, _⟩ := h
  exact row_one h
theorem SubsQ.turn {B : Nat} {w w' : World} {v : Value} {l : List SB} {S : List Nat} (h : SubsQ B w v l) (t : Turn S w w') (h0 : ∀ y ∈ S, NoT w y 65) (h1 : ∀ y ∈ S, NoT w y 3) (h2 : ∀ y ∈ S, NoT w y 26) (h3 : ∀ y ∈ S, NoT w y 107) : SubsQ B w' v l := by
  obtain ⟨cs, a, b⟩ := h
  exact ⟨cs, row_turn a t h0, fun i x hx => (b i x hx).turn t h1 h2 h3⟩
theorem SubsQ.low {B B' : Nat} {w : World} {v : Value} {l : List SB} (h : SubsQ B w v l) (hb : B' ≤ B) : SubsQ B' w v l := by
  obtain ⟨cs, a, b⟩ := h
  exact ⟨cs, row_low a hb, fun i x hx => (b i x hx).low hb⟩
theorem SubsQ.snoc {B : Nat} {w w' : World} {v v' : Value} {l : List SB} {cs : List Value} {new : List Value} {x : SB} (h : w.ownsRow B 65 6 v l.length cs) (he : ∀ i x, l[i]? = some x → SubC B w ((cs.drop (i * 6)).take 6) x) (hx : SubC B w new x) (hn : new.length = 6)
    (h' : w'.ownsRow B 65 6 v' (l.length + 1) (cs ++ new)) (hG : ∀ x < w.heap.size, some x ≠ v.ownBlock → w'.heap[x]? = w.heap[x]?) : SubsQ B w' v' (l ++ [x]) := by
  refine ⟨cs ++ new, by rw [List.length_append]; exact h', fun i y hy => ?_⟩
  have hl : cs.length = l.length * 6 := h.1
  rcases Nat.lt_or_ge i l.length with hi | hi
  · rw [List.getElem?_append_left hi] at hy
    have e : ((cs ++ new).drop (i * 6)).take 6 = (cs.drop (i * 6)).take 6 := by
      rw [List.drop_append_of_le_length (by omega), List.take_append_of_le_length (by rw [List.length_drop]; omega)]
    rw [e]
    exact (he i y hy).keep h hG
  · rw [List.getElem?_append_right hi] at hy
    have hi0 : i - l.length = 0 := by
      rcases Nat.eq_zero_or_pos (i - l.length) with h0 | h0
      · exact h0
      · rw [List.getElem?_eq_none (by simp; omega)] at hy; cases hy
    rw [hi0] at hy
    simp only [List.getElem?_cons_zero, Option.some.injEq] at hy
    subst hy
    have hil : i = l.length := by omega
    subst hil
    have e : ((cs ++ new).drop (l.length * 6)).take 6 = new := by
      rw [← hl, List.drop_left, List.take_of_length_le (by omega)]
    rw [e]
    exact hx.keep h hG
theorem SubsQ.grew {B : Nat} {w w' : World} {v : Value} {l : List SB} (h : SubsQ B w v l) (g : Grew w w') : SubsQ B w' v l := h.turn (g.turn []) (by simp) (by simp) (by simp) (by simp)
/- The cells of a group. -/
def RecC (B : Nat) (w : World) (cs : List Value) (x : RT) : Prop := ∃ tv, cs = [tv, .bool x.explicit] ∧ SubsQ B w tv x.types
theorem RecC.turn {B : Nat} {w w' : World} {cs : List Value} {x : RT} {S : List Nat} (h : RecC B w cs x) (t : Turn S w w') (h0 : ∀ y ∈ S, NoT w y 65) (h1 : ∀ y ∈ S, NoT w y 3) (h2 : ∀ y ∈ S, NoT w y 26) (h3 : ∀ y ∈ S, NoT w y 107) : RecC B w' cs x := by
  obtain ⟨tv, e, a⟩ := h
  exact ⟨tv, e, a.turn t h0 h1 h2 h3⟩
def AnsX {α : Type} (C : Nat → World → List Value → α → Prop) (b : Nat) (v : Value) (l : List Int) (w : World) (r : RS α) (en : Ending) (w' : World) : Prop := match r with
  | .ok (x, q) => ∃ cs, en = .returned (.agg cs.toArray) ∧ C w.heap.size w' cs x ∧ Turn [b] w w' ∧ CU w' b v l q
  | .error (f, e) => en = .panicked (flt f e) ∧ Turn [b] w w'
theorem AnsX.er {α : Type} {C : Nat → World → List Value → α → Prop} {b : Nat} {v : Value} {l : List Int} {w : World} {r : RS α} {f e : Nat} {n : FuncId} {args : Array Value} (h : Calls Tryz.prog n args w (AnsX C b v l w r)) (hr : r = .error (f, e)) : Calls Tryz.prog n args w fun en w' => en = .panicked (flt f e) ∧ Turn [b] w w' := by subst hr; exact h
theorem AnsX.ok {α : Type} {C : Nat → World → List Value → α → Prop} {b : Nat} {v : Value} {l : List Int} {w : World} {r : RS α} {x : α} {q : Nat} {n : FuncId} {args : Array Value} (h : Calls Tryz.prog n args w (AnsX C b v l w r)) (hr : r = .ok (x, q)) : Calls Tryz.prog n args w fun en w' => ∃ cs, en = .returned (.agg cs.toArray) ∧ C w.heap.size w' cs x ∧ Turn [b] w w' ∧ CU w' b v l q := by subst hr; exact h
theorem AnsV.er {b : Nat} {v : Value} {l : List Int} {w : World} {r : RS (List VT)} {f e : Nat} {n : FuncId} {args : Array Value} (h : Calls Tryz.prog n args w (AnsV b v l w r)) (hr : r = .error (f, e)) : Calls Tryz.prog n args w fun en w' => en = .panicked (flt f e) ∧ Turn [b] w w' := by subst hr; exact h
theorem AnsV.ok {b : Nat} {v : Value} {l : List Int} {w : World} {r : RS (List VT)} {x : List VT} {q : Nat} {n : FuncId} {args : Array Value} (h : Calls Tryz.prog n args w (AnsV b v l w r)) (hr : r = .ok (x, q)) : Calls Tryz.prog n args w fun en w' => ∃ rv, en = .returned rv ∧ RowV w.heap.size w' rv x ∧ Turn [b] w w' ∧ CU w' b v l q := by subst hr; exact h
theorem AnsF.er {b : Nat} {v : Value} {l : List Int} {w : World} {r : RS (List FT)} {f e : Nat} {n : FuncId} {args : Array Value} (h : Calls Tryz.prog n args w (AnsF b v l w r)) (hr : r = .error (f, e)) : Calls Tryz.prog n args w fun en w' => en = .panicked (flt f e) ∧ Turn [b] w w' := by subst hr; exact h
theorem AnsF.ok {b : Nat} {v : Value} {l : List Int} {w : World} {r : RS (List FT)} {x : List FT} {q : Nat} {n : FuncId} {args : Array Value} (h : Calls Tryz.prog n args w (AnsF b v l w r)) (hr : r = .ok (x, q)) : Calls Tryz.prog n args w fun en w' => ∃ rv, en = .returned rv ∧ RowF w.heap.size w' rv x ∧ Turn [b] w w' ∧ CU w' b v l q := by subst hr; exact h
theorem AnsI.er {b : Nat} {v : Value} {l : List Int} {w : World} {r : RS (List Int)} {f e : Nat} {n : FuncId} {args : Array Value} (h : Calls Tryz.prog n args w (AnsI b v l w r)) (hr : r = .error (f, e)) : Calls Tryz.prog n args w fun en w' => en = .panicked (flt f e) ∧ Turn [b] w w' := by subst hr; exact h
theorem AnsI.ok {b : Nat} {v : Value} {l : List Int} {w : World} {r : RS (List Int)} {x : List Int} {q : Nat} {n : FuncId} {args : Array Value} (h : Calls Tryz.prog n args w (AnsI b v l w r)) (hr : r = .ok (x, q)) : Calls Tryz.prog n args w fun en w' => ∃ rv, en = .returned rv ∧ RowI w.heap.size w' rv x ∧ Turn [b] w w' ∧ CU w' b v l q := by subst hr; exact h
end Go.Proofs.YtchehejjdinifaaGreatDoor

namespace Go.Proofs.YtchehejjdinifaaGreatDoor
open Go.RowKit
set_option linter.unusedVariables false
set_option linter.unusedSimpArgs false
set_option linter.constructorNameAsVariable false

theorem flat_at {α : Type} (f : α → List Value) (k : Nat) (hf : ∀ a, (f a).length = k) : ∀ (l : List α) (i : Nat) (x : α) (j : Nat), l[i]? = some x → j < k → (l.flatMap f)[i * k + j]? = (f x)[j]? := by
  intro l
  induction l with
  | nil => intro i x j h; simp at h
  | cons a l ih =>
    intro i x j h hj
    rw [List.flatMap_cons]
    cases i with
    | zero =>
      simp only [List.getElem?_cons_zero, Option.some.injEq] at h
      subst h
      rw [Nat.zero_mul, Nat.zero_add, List.getElem?_append_left (by rw [hf]; exact hj)]
    | succ i =>
      rw [List.getElem?_cons_succ] at h
      rw [List.getElem?_append_right (by rw [hf, Nat.succ_mul]; omega), hf, show (i + 1) * k + j - k = i * k + j by rw [Nat.succ_mul]; omega]
      exact ih i x j h hj
abbrev NILS : Value := .slice none 0 0

def Lst {α : Type} (k : Nat) (E : World → Nat → Nat → α → Prop) (w : World) (v : Value) (l : List α) : Prop :=
  ∃ a cap, v = .slice a l.length cap ∧ l.length ≤ cap ∧ cap ≤ maxLen ∧ (a = none → cap = 0) ∧ (l = [] ∨ ∃ b off, a = some ⟨b, off, none⟩ ∧ ∀ i x, l[i]? = some x → E w b (off + i * k) x)
def EI (w : World) (b o : Nat) (x : Int) : Prop := w.cell? ⟨b, o, none⟩ = some (.int .i64 x)
def EV (w : World) (b o : Nat) (x : VT) : Prop := w.cell? ⟨b, o, none⟩ = some (.int .i64 x.num) ∧ w.cell? ⟨b, o + 1, none⟩ = some (.bool x.null) ∧ w.cell? ⟨b, o + 2, none⟩ = some (.int .i64 x.heap)
def EF (w : World) (b o : Nat) (x : FT) : Prop := EV w b o x.ty ∧ w.cell? ⟨b, o + 3, none⟩ = some (.bool x.mut_)
abbrev LI := Lst 1 EI
abbrev LV := Lst 3 EV
abbrev LF := Lst 4 EF
def SubR (w : World) (x : SB) (sv pv rv fv : Value) : Prop := LI w sv x.supers ∧ LV w pv x.comp.params ∧ LV w rv x.comp.results ∧ LF w fv x.comp.fields
def ES (w : World) (b o : Nat) (x : SB) : Prop := ∃ sv pv rv fv, SubR w x sv pv rv fv ∧ w.cell? ⟨b, o, none⟩ = some (.bool x.final_) ∧ w.cell? ⟨b, o + 1, none⟩ = some sv ∧ w.cell? ⟨b, o + 2, none⟩ = some (.int .i64 x.comp.kind) ∧
  w.cell? ⟨b, o + 3, none⟩ = some pv ∧ w.cell? ⟨b, o + 4, none⟩ = some rv ∧ w.cell? ⟨b, o + 5, none⟩ = some fv
abbrev LS := Lst 6 ES
theorem lt_of_cell {w : World} {b o : Nat} {v : Value} (h : w.cell? ⟨b, o, none⟩ = some v) : b < w.heap.size := by
  unfold World.cell? at h
  rcases Nat.lt_or_ge b w.heap.size with h' | h'
  · exact h'
  · rw [Array.getElem?_eq_none h'] at h; cases h
theorem cell_grew {w w' : World} {b o : Nat} {v : Value} (h : w.cell? ⟨b, o, none⟩ = some v) (g : Grew w w') : w'.cell? ⟨b, o, none⟩ = some v := by
  rw [g.1.cell (lt_of_cell h)]; exact h
theorem Lst.grew {α : Type} {k : Nat} {E : World → Nat → Nat → α → Prop} (hE : ∀ (w w' : World) (b o : Nat) (x : α), E w b o x → Grew w w' → E w' b o x) {w w' : World} {v : Value} {l : List α} (h : Lst k E w v l) (g : Grew w w') : Lst k E w' v l := by
  obtain ⟨a, cap, hv, h1, h2, hz, h3⟩ := h
  refine ⟨a, cap, hv, h1, h2, hz, h3.imp_right ?_⟩
  rintro ⟨b, off, ha, hc⟩
  exact ⟨b, off, ha, fun i x hx => hE _ _ _ _ _ (hc i x hx) g⟩
theorem EI.grew {w w' : World} {b o : Nat} {x : Int} (h : EI w b o x) (g : Grew w w') : EI w' b o x := cell_grew h g
theorem EV.grew {w w' : World} {b o : Nat} {x : VT} (h : EV w b o x) (g : Grew w w') : EV w' b o x := ⟨cell_grew h.1 g, cell_grew h.2.1 g, cell_grew h.2.2 g⟩
theorem EF.grew {w w' : World} {b o : Nat} {x : FT} (h : EF w b o x) (g : Grew w w') : EF w' b o x := ⟨h.1.grew g, cell_grew h.2 g⟩
theorem LI.grew {w w' : World} {v : Value} {l : List Int} (h : LI w v l) (g : Grew w w') : LI w' v l := Lst.grew (E := EI) (fun _ _ _ _ _ h g => EI.grew h g) h g
theorem LV.grew {w w' : World} {v : Value} {l : List VT} (h : LV w v l) (g : Grew w w') : LV w' v l := Lst.grew (E := EV) (fun _ _ _ _ _ h g => EV.grew h g) h g
theorem LF.grew {w w' : World} {v : Value} {l : List FT} (h : LF w v l) (g : Grew w w') : LF w' v l := Lst.grew (E := EF) (fun _ _ _ _ _ h g => EF.grew h g) h g
theorem SubR.grew {w w' : World} {x : SB} {sv pv rv fv : Value} (h : SubR w x sv pv rv fv) (g : Grew w w') : SubR w' x sv pv rv fv := ⟨h.1.grew g, h.2.1.grew g, h.2.2.1.grew g, h.2.2.2.grew g⟩
theorem ES.grew {w w' : World} {b o : Nat} {x : SB} (h : ES w b o x) (g : Grew w w') : ES w' b o x := by
  obtain ⟨sv, pv, rv, fv, h0, h1, h2, h3, h4, h5, h6⟩ := h
  exact ⟨sv, pv, rv, fv, h0.grew g, cell_grew h1 g, cell_grew h2 g, cell_grew h3 g, cell_grew h4 g, cell_grew h5 g, cell_grew h6 g⟩
theorem LS.grew {w w' : World} {v : Value} {l : List SB} (h : LS w v l) (g : Grew w w') : LS w' v l := Lst.grew (E := ES) (fun _ _ _ _ _ h g => ES.grew h g) h g
theorem Lst.one {α : Type} {k : Nat} {E : World → Nat → Nat → α → Prop} {w : World} {v : Value} {l : List α} (h : Lst k E w v l) : ∃ a cap, v = .slice a l.length cap ∧ l.length ≤ cap ∧ cap ≤ maxLen := by
  obtain ⟨a, cap, hv, h1, h2, hz, h3⟩ := h
  exact ⟨a, cap, hv, h1, h2⟩
theorem Lst.nil {α : Type} (k : Nat) (E : World → Nat → Nat → α → Prop) (w : World) : Lst k E w NILS [] := ⟨none, 0, rfl, Nat.le_refl _, by decide, fun _ => rfl, Or.inl rfl⟩
theorem Lst.get {α : Type} {k : Nat} {E : World → Nat → Nat → α → Prop} {w : World} {a : Option Addr} {n cap : Nat} {l : List α} (h : Lst k E w (.slice a n cap) l) (hn : 0 < l.length) : ∃ b off, a = some ⟨b, off, none⟩ ∧ n ≤ cap ∧ ∀ i x, l[i]? = some x → E w b (off + i * k) x := by
  obtain ⟨a', cap', hv, h1, h2, hz, h3⟩ := h
  injection hv with e1 e2 e3
  subst e1 e2 e3
  rcases h3 with rfl | ⟨b, off, ha, hc⟩
  · simp at hn
  · exact ⟨b, off, ha, h1, hc⟩
theorem row_maxC {w : World} {B : Nat} {e : TypeId} {k : Nat} {v : Value} {n : Nat} {cs : List Value} (h : w.ownsRow B e k v n cs) : ∃ a c, v = .slice a n c ∧ n ≤ c ∧ c ≤ maxLen ∧ (a = none → c = 0) := by
  obtain ⟨_, ⟨h1, h2⟩ | ⟨g, cap, cur, hv, _, _, h3, h4, _⟩⟩ := h
  · exact ⟨none, 0, by rw [h1, h2], by omega, by decide, fun _ => rfl⟩
  · exact ⟨_, _, hv, h3, h4, fun hh => by cases hh⟩
theorem row_lst {α : Type} {E : World → Nat → Nat → α → Prop} {f : α → List Value} {k : Nat} (hf : ∀ a, (f a).length = k) {w : World} {B : Nat} {e : TypeId} {v : Value} {l : List α} (h : w.ownsRow B e k v l.length (l.flatMap f))
    (hE : ∀ b o x, (∀ j, j < k → w.cell? ⟨b, o + j, none⟩ = (f x)[j]?) → E w b o x) : Lst k E w v l := by
  obtain ⟨a, c, hv, h1, h2, hz⟩ := row_maxC h
  have h0 := h
  refine ⟨a, c, hv, h1, h2, hz, ?_⟩
  obtain ⟨hl, ⟨_, h3⟩ | ⟨g, cap, cur, hv', hB, hg, h3⟩⟩ := h
  · left; exact List.eq_nil_of_length_eq_zero h3
  · right
    have hva := hv.symm.trans hv'
    injection hva with e1 _ _
    refine ⟨g, 0, e1, fun i x hx => hE _ _ _ fun j hj => ?_⟩
    have hi : i < l.length := (List.getElem?_eq_some_iff.1 hx).1
    have hij : i * k + j < l.length * k := by
      have : (i + 1) * k ≤ l.length * k := Nat.mul_le_mul_right k hi
      rw [Nat.succ_mul] at this
      omega
    rw [hv'] at h0
    have := h0.cellAt (i * k + j) hij
    rw [Nat.zero_add, this]
    exact flat_at f k hf l i x j hx hj
theorem RowI.lst {B : Nat} {w : World} {v : Value} {l : List Int} (h : RowI B w v l) : LI w v l := row_lst (f := ic1) (k := 1) (E := EI) (fun _ => rfl) h (fun b o x hh => hh 0 (by decide))
theorem RowV.lst {B : Nat} {w : World} {v : Value} {l : List VT} (h : RowV B w v l) : LV w v l := row_lst (f := VT.c) (k := 3) (E := EV) (fun _ => rfl) h (fun b o x hh => ⟨hh 0 (by decide), hh 1 (by decide), hh 2 (by decide)⟩)
theorem RowF.lst {B : Nat} {w : World} {v : Value} {l : List FT} (h : RowF B w v l) : LF w v l := row_lst (f := FT.c) (k := 4) (E := EF) (fun _ => rfl) h (fun b o x hh => ⟨⟨hh 0 (by decide), hh 1 (by decide), hh 2 (by decide)⟩, hh 3 (by decide)⟩)
theorem SubC.subR {B : Nat} {w : World} {cs : List Value} {x : SB} (h : SubC B w cs x) : ∃ sv pv rv fv, cs = [.bool x.final_, sv, .int .i64 x.comp.kind, pv, rv, fv] ∧ SubR w x sv pv rv fv := by
  obtain ⟨sv, pv, rv, fv, e, a1, a2, a3, a4⟩ := h
  exact ⟨sv, pv, rv, fv, e, a1.lst, a2.lst, a3.lst, a4.lst⟩
theorem SubsQ.lst {B : Nat} {w : World} {v : Value} {l : List SB} (h : SubsQ B w v l) : LS w v l := by
  obtain ⟨cs, hr, he⟩ := h
  obtain ⟨a, c, hv, h1, h2, hz⟩ := row_maxC hr
  have h0 := hr
  refine ⟨a, c, hv, h1, h2, hz, ?_⟩
  obtain ⟨hl, ⟨_, h3⟩ | ⟨g, cap, cur, hv', hB, hg, h3⟩⟩ := hr
  · left; exact List.eq_nil_of_length_eq_zero h3
  · right
    have hva := hv.symm.trans hv'
    injection hva with e1 _ _
    refine ⟨g, 0, e1, fun i x hx => ?_⟩
    have hi : i < l.length := (List.getElem?_eq_some_iff.1 hx).1
    obtain ⟨sv, pv, rv, fv, ec, hs⟩ := (he i x hx).subR
    rw [hv'] at h0
    have key : ∀ k, k < 6 → w.cell? ⟨g, 0 + i * 6 + k, none⟩ = [Value.bool x.final_, sv, .int .i64 x.comp.kind, pv, rv, fv][k]? := by
      intro k hk
      rw [Nat.zero_add, h0.cellAt _ (by omega), ← ec, List.getElem?_take, if_pos hk, List.getElem?_drop]
    exact ⟨sv, pv, rv, fv, hs, key 0 (by decide), key 1 (by decide), key 2 (by decide), key 3 (by decide), key 4 (by decide), key 5 (by decide)⟩
end Go.Proofs.YtchehejjdinifaaGreatDoor

namespace Go.Proofs.YtchehejjdinifaaGreatDoor
open Go.RowKit
set_option linter.unusedVariables false
set_option linter.unusedSimpArgs false
set_option linter.constructorNameAsVariable false

def ic (n : Int) (t : TypeId) : Obj := .cells #[.int .i64 n] t (0, 0)
theorem assertF (v : Value) (w : World) : (Instr.typeAssert (.iface 74 v) 20 74 false).run Tryz.prog w = .ok v w := by kernel_rfl
theorem heap_four (w : World) (o1 o2 o3 o4 : Obj) : ((((w.alloc o1).alloc o2).alloc o3).alloc o4).heap[w.heap.size]? = some o1 ∧ ((((w.alloc o1).alloc o2).alloc o3).alloc o4).heap[w.heap.size + 1]? = some o2 ∧ ((((w.alloc o1).alloc o2).alloc o3).alloc o4).heap[w.heap.size + 1 + 1]? = some o3 ∧ ((((w.alloc o1).alloc o2).alloc o3).alloc o4).heap[w.heap.size + 1 + 1 + 1]? = some o4 := by
  have h1 : (w.alloc o1).heap.size = w.heap.size + 1 := by simp
  have h2 : ((w.alloc o1).alloc o2).heap.size = w.heap.size + 1 + 1 := by simp
  have h3 : (((w.alloc o1).alloc o2).alloc o3).heap.size = w.heap.size + 1 + 1 + 1 := by simp
  refine ⟨heap_alloc (heap_alloc (heap_alloc (heap_alloc_last _ _) _) _) _, ?_, ?_, ?_⟩
  · rw [← h1]
    exact heap_alloc (heap_alloc (heap_alloc_last _ _) _) _
  · rw [← h2]
    exact heap_alloc (heap_alloc_last _ _) _
  · rw [← h3]
    exact heap_alloc_last _ _
theorem heap_three (w : World) (o1 o2 o3 : Obj) : (((w.alloc o1).alloc o2).alloc o3).heap[w.heap.size]? = some o1 ∧ (((w.alloc o1).alloc o2).alloc o3).heap[w.heap.size + 1]? = some o2 ∧ (((w.alloc o1).alloc o2).alloc o3).heap[w.heap.size + 1 + 1]? = some o3 := by
  have h1 : (w.alloc o1).heap.size = w.heap.size + 1 := by simp
  have h2 : ((w.alloc o1).alloc o2).heap.size = w.heap.size + 1 + 1 := by simp
  refine ⟨heap_alloc (heap_alloc (heap_alloc_last _ _) _) _, ?_, ?_⟩
  · rw [← h1]
    exact heap_alloc (heap_alloc_last _ _) _
  · rw [← h2]
    exact heap_alloc_last _ _
/- What a call at a place answers. -/
def topR {α : Type} (R : Nat → RS α) (z : α) (l : List Int) (x : Int) : α × Int × Int :=
  if 0 ≤ x ∧ x ≤ l.length then match R x.toNat with
    | .ok (a, q) => (a, q, 0)
    | .error (f, e) => (z, f, e)
  else (z, 0, 1)
theorem topR_in {α : Type} {R : Nat → RS α} {z : α} {l : List Int} {p : Nat} (hp : p ≤ l.length) : topR R z l p = match R p with
    | .ok (a, q) => (a, (q : Int), 0)
    | .error (f, e) => (z, (f : Int), (e : Int)) := by
  unfold topR
  rw [if_pos (by omega), Int.toNat_natCast]
theorem topR_out {α : Type} {R : Nat → RS α} {z : α} {l : List Int} {x : Int} (h : ¬ (0 ≤ x ∧ x ≤ l.length)) : topR R z l x = (z, 0, 1) := by
  unfold topR; rw [if_neg h]
def ansV (x : VT × Int × Int) : Value := .tuple #[x.1.v, .int .i64 x.2.1, .int .i64 x.2.2]
def ansR (x : VT × Int × Int) : Value := .tuple #[x.1.v, .int .i64 x.2.1, .int .i64 x.2.2]
end Go.Proofs.YtchehejjdinifaaGreatDoor
