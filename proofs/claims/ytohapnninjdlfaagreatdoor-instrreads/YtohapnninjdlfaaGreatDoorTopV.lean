/-
  The deferred functions that recover; no statement is proved here.
-/
import Derived.Test.YtohapnninjdlfaaGreatDoorCurF
import Derived.Defers
import Derived.Recover
namespace Go.Proofs.YtohapnninjdlfaaGreatDoor
open Go.RowKit
set_option linter.unusedVariables false
set_option linter.unusedSimpArgs false
set_option linter.constructorNameAsVariable false

def VT.c (x : VT) : List Value := [.int .i64 x.num, .bool x.null, .int .i64 x.heap]
theorem infoV : (Tryz.prog.info? 28).map (fun i => (i.zero, i.size, i.bytes)) = some (some (.agg #[.int .i64 0, .bool false, .int .i64 0]), 3, 24) := by kernel_rfl
/- The slice holds these elements. -/
def RowV (B : Nat) (w : World) (v : Value) (l : List VT) : Prop := w.ownsRow B 28 3 v l.length (l.flatMap VT.c)
theorem RowV.nil (B : Nat) (w : World) : RowV B w (.slice none 0 0) [] := World.ownsRow_nil _ _ _ _
theorem RowV.snoc {B : Nat} {w : World} {v : Value} {l : List VT} {a : VT} (h : w.ownsRow B 28 3 v (l.length + 1) (l.flatMap VT.c ++ VT.c a)) : RowV B w v (l ++ [a]) := by
  unfold RowV
  rw [List.length_append, List.flatMap_append]
  simpa using h
def AnsV (b : Nat) (v : Value) (l : List Int) (w : World) (r : RS (List VT)) (en : Ending) (w' : World) : Prop := match r with
  | .ok (x, q) => ∃ rv, en = .returned rv ∧ RowV w.heap.size w' rv x ∧ Turn [b] w w' ∧ CU w' b v l q
  | .error (f, e) => en = .panicked (flt f e) ∧ Turn [b] w w'
set_option maxRecDepth 100000 in
set_option maxHeartbeats 1000000 in
theorem listV_any {w : World} {b : Nat} {v : Value} {l : List Int} {p : Nat} (h : CU w b v l p) (lim : Int) (h0 : 0 ≤ lim) (h1 : lim ≤ 10000) :
    Calls Tryz.prog 130 #[.pointer (some ⟨b, 0, none⟩), .int .u32 lim, .func (.func 126) #[] #[]] w (AnsV b v l w (listR lim (valR l) l p)) := by
  have H : Hid (CU w b v l p) := h
  have hb : b < w.heap.size := h.lt
  have c1 := h.c1
  have C := numU_any h
  have hle := h.le
  have HB : Hid (Byt l) := h.byt
  clear h
  unfold listR
  rcases numR_ways (b := 32) (sg := false) hle with ⟨n, q0, hr, hq1, hq2, hx⟩ | ⟨n, f, e, hr, hq1, hq2, hq3, hx⟩
  · have hnb := rd_32 HB.out hr
    rw [hx] at C ⊢
    unfold limR
    simp only
    clear hx hr
    by_cases h3 : lim < n
    · rw [if_pos h3]
      have d3 : decide (lim < n) = true := by simpa using h3
      go_enter Tryz.func130, Tryz.ntmps130
      go_wp2_with fail
      refine C.mono ?_
      rintro en w1 ⟨rfl, t1, u1⟩
      have T1 : Hid (Turn [b] w w1) := t1
      clear C t1 u1
      go_wp2_with fail
      refine (giveUp_any _ 2 _).mono ?_
      rintro en w2 ⟨rfl, h2⟩
      obtain rfl := h2.symm
      go_wp2_with fail
      exact ⟨rfl, rfl, T1.out⟩
    · rw [if_neg h3]
      have d3 : decide (lim < n) = false := by simpa using h3
      obtain ⟨N, rfl⟩ : ∃ N : Nat, n = N := ⟨n.toNat, by omega⟩
      simp only [thenR, Int.toNat_natCast]
      obtain ⟨R, hR⟩ : ∃ R, R = manyR (valR l) N [] q0 := ⟨_, rfl⟩
      rw [← hR]
      have HR : Hid (R = manyR (valR l) N [] q0) := hR
      clear hR
      have hN : N ≤ 10000 := by omega
      go_enter Tryz.func130, Tryz.ntmps130
      go_wp2_with fail
      refine C.mono ?_
      rintro en w1 ⟨rfl, t1, u1⟩
      have T1 : Hid (Turn [b] w w1) := t1
      have U1 : Hid (CU w1 b v l q0) := u1
      have hs1 := t1.size
      clear C t1 u1 c1
      go_wp2_with fail
      go_loopw [9, 22] (fun v_ n_ wr => ∃ (k : Nat) (acc : List VT) (q : Nat), n_ = .int .u32 k ∧ k ≤ N ∧ acc.length = k ∧ w.heap.size ≤ wr.heap.size ∧ Hid (RowV w.heap.size wr v_ acc) ∧ Hid (CU wr b v l q) ∧ Hid (Turn [b] w wr) ∧ Hid (R = manyR (valR l) (N - k) acc q)) (fun _ n_ _ => N - (intOf n_).toNat)
      case atStart => exact ⟨0, [], q0, rfl, by omega, rfl, hs1, RowV.nil _ _, U1, T1, HR⟩
      case round =>
        obtain ⟨k, acc, q, rfl, hk, hacc, hsr, WR, UR, TR, HE⟩ := hrel
        subst hacc
        obtain ⟨aa, cc, hv⟩ := row_one WR.out
        subst hv
        by_cases hkn : acc.length < N
        · have d4 : decide ((acc.length : Int) < (N : Int)) = true := by simp; omega
          have HE2 := HE.out
          rw [show N - acc.length = (N - (acc.length + 1)) + 1 by omega, manyR] at HE2
          have D := valType_any UR.out
          cases hx : valR l q with
          | error y =>
            obtain ⟨f, e⟩ := y
            rw [hx] at HE2 D
            have HE3 : Hid (R = .error (f, e)) := HE2
            clear HE HE2 hx
            go_wp2_with fail
            refine D.mono ?_
            rintro en w2 ⟨rfl, t2⟩
            have T2 : Hid (Turn [b] w w2) := TR.out.trans t2
            clear D t2
            go_wp2_with fail
            exact ⟨rfl, by rw [HE3.out]; exact ⟨rfl, T2.out⟩⟩
          | ok y =>
            obtain ⟨a, q1⟩ := y
            rw [hx] at HE2 D
            have HE3 : Hid (R = manyR (valR l) (N - (acc.length + 1)) (acc ++ [a]) q1) := HE2
            clear HE HE2 hx
            go_wp2_with fail
            refine D.mono ?_
            rintro en w2 ⟨rfl, t2, u2⟩
            have T2 : Hid (Turn [b] w w2) := TR.out.trans t2
            have U2 : Hid (CU w2 b v l q1) := u2
            have W2 : Hid (RowV w.heap.size w2 (.slice aa acc.length cc) acc) := row_turn WR.out t2 (by intro x hx; simp at hx; subst hx; exact NoT.of UR.out.obj (by decide))
            have hB2 : w.heap.size ≤ w2.heap.size := Nat.le_trans hsr t2.size
            clear D t2 u2 WR TR UR
            obtain ⟨n1, nul1, hp1⟩ := a
            unfold VT.v vt
            go_wp2_with (at_builtin; refine wp_app1 (v := .slice aa acc.length cc) (n := acc.length) (cs := acc.flatMap VT.c) (B := w.heap.size) rfl _ _ 33 28 3 24 _ Tryz.underlying33 infoV rfl (by decide) (by decide) rfl b rfl rfl W2.out hB2 rfl (by simp [Value.oneCell']) (by omega) ?_; intro v3 w3 hO3 hT3 hG3)
            have T3 : Hid (Turn [b] w w3) := hT3.turn T2.out (Nat.le_refl _)
            have o3 : w3.heap[b]? = some (cur v q1) := (hG3 b U2.out.lt (fun hh => by have := (World.ownsRow.lt W2.out b hh.symm).1; omega)).trans U2.out.obj
            have U3 : Hid (CU w3 b v l q1) := H.out.of T3.out o3 U2.out.le
            clear o3
            go_roundw
            case rel => exact ⟨acc.length + 1, acc ++ [(⟨n1, nul1, hp1⟩ : VT)], q1, by go_num, by omega, by simp, Nat.le_trans hB2 hT3.size, RowV.snoc (a := (⟨n1, nul1, hp1⟩ : VT)) hO3, U3, T3, HE3⟩
            case measure => simp [intOf]; omega
        · have d4 : decide ((acc.length : Int) < (N : Int)) = false := by simp; omega
          have HE2 := HE.out
          rw [show N - acc.length = 0 by omega, manyR] at HE2
          have HE3 : Hid (R = .ok (acc, q)) := HE2
          clear HE HE2
          go_wp2_with fail
          go_ret
          rw [HE3.out]
          exact ⟨_, rfl, WR.out, TR.out, UR.out⟩
  · rw [hx] at C ⊢
    unfold limR
    simp only [thenR]
    clear hx hr
    go_enter Tryz.func130, Tryz.ntmps130
    go_wp2_with fail
    refine C.mono ?_
    rintro en w1 ⟨rfl, t1⟩
    go_wp2_with fail
    exact ⟨rfl, rfl, t1⟩
set_option maxRecDepth 100000 in
set_option maxHeartbeats 1000000 in
theorem valTypes_any {w : World} {b : Nat} {v : Value} {l : List Int} {p : Nat} (h : CU w b v l p) :
    Calls Tryz.prog 101 #[.pointer (some ⟨b, 0, none⟩)] w (AnsV b v l w (valsR l p)) := by
  have C := listV_any h 1000 (by decide) (by decide)
  unfold valsR
  clear h
  cases hx : listR 1000 (valR l) l p with
  | error y =>
    obtain ⟨f, e⟩ := y
    rw [hx] at C
    go_enter Tryz.func101, Tryz.ntmps101
    go_wp2_with fail
    refine C.mono ?_
    rintro en w1 ⟨rfl, t1⟩
    go_wp2_with fail
    exact ⟨rfl, rfl, t1⟩
  | ok y =>
    obtain ⟨x, q⟩ := y
    rw [hx] at C
    go_enter Tryz.func101, Tryz.ntmps101
    go_wp2_with fail
    refine C.mono ?_
    rintro en w1 ⟨rv, rfl, r1, t1, u1⟩
    have F1 : Hid (RowV w.heap.size w1 rv x ∧ Turn [b] w w1 ∧ CU w1 b v l q) := ⟨r1, t1, u1⟩
    obtain ⟨aa, cc, hv⟩ := row_one r1
    subst hv
    clear C t1 u1 r1
    go_wp2_with fail
    go_ret
    exact ⟨_, rfl, F1.out⟩
end Go.Proofs.YtohapnninjdlfaaGreatDoor

namespace Go.Proofs.YtohapnninjdlfaaGreatDoor
open Go.RowKit
set_option linter.unusedVariables false
set_option linter.unusedSimpArgs false
set_option linter.constructorNameAsVariable false

def ic (n : Int) (t : TypeId) : Obj := .cells #[.int .i64 n] t (0, 0)
theorem assertF (v : Value) (w : World) : (Instr.typeAssert (.iface 175 v) 20 175 false).run Tryz.prog w = .ok v w := by kernel_rfl
theorem heap_four (w : World) (o1 o2 o3 o4 : Obj) : ((((w.alloc o1).alloc o2).alloc o3).alloc o4).heap[w.heap.size]? = some o1 ∧ ((((w.alloc o1).alloc o2).alloc o3).alloc o4).heap[w.heap.size + 1]? = some o2 ∧ ((((w.alloc o1).alloc o2).alloc o3).alloc o4).heap[w.heap.size + 1 + 1]? = some o3 ∧ ((((w.alloc o1).alloc o2).alloc o3).alloc o4).heap[w.heap.size + 1 + 1 + 1]? = some o4 := by
  have h1 : (w.alloc o1).heap.size = w.heap.size + 1 := by simp
  have h2 : ((w.alloc o1).alloc o2).heap.size = w.heap.size + 1 + 1 := by simp
  have h3 : (((w.alloc o1).alloc o2).alloc o3).heap.size = w.heap.size + 1 + 1 + 1 := by simp
  refine ⟨heap_alloc (heap_alloc (heap_alloc (heap_alloc_last _ _) _) _) _, ?_, ?_, ?_⟩
  · rw [← h1]
    exact heap_alloc (heap_alloc (heap_alloc_last _ _) _) _
  · rw [← h2]
    exact heap_alloc (heap_alloc_last _ _) _
  · rw [← h3]
    exact heap_alloc_last _ _
theorem heap_three (w : World) (o1 o2 o3 : Obj) : (((w.alloc o1).alloc o2).alloc o3).heap[w.heap.size]? = some o1 ∧ (((w.alloc o1).alloc o2).alloc o3).heap[w.heap.size + 1]? = some o2 ∧ (((w.alloc o1).alloc o2).alloc o3).heap[w.heap.size + 1 + 1]? = some o3 := by
  have h1 : (w.alloc o1).heap.size = w.heap.size + 1 := by simp
  have h2 : ((w.alloc o1).alloc o2).heap.size = w.heap.size + 1 + 1 := by simp
  refine ⟨heap_alloc (heap_alloc (heap_alloc_last _ _) _) _, ?_, ?_⟩
  · rw [← h1]
    exact heap_alloc (heap_alloc_last _ _) _
  · rw [← h2]
    exact heap_alloc_last _ _
/- What a call at a place answers. -/
def topR {α : Type} (R : Nat → RS α) (z : α) (l : List Int) (x : Int) : α × Int × Int :=
  if 0 ≤ x ∧ x ≤ l.length then match R x.toNat with
    | .ok (a, q) => (a, q, 0)
    | .error (f, e) => (z, f, e)
  else (z, 0, 1)
theorem topR_in {α : Type} {R : Nat → RS α} {z : α} {l : List Int} {p : Nat} (hp : p ≤ l.length) : topR R z l p = match R p with
    | .ok (a, q) => (a, (q : Int), 0)
    | .error (f, e) => (z, (f : Int), (e : Int)) := by
  unfold topR
  rw [if_pos (by omega), Int.toNat_natCast]
theorem topR_out {α : Type} {R : Nat → RS α} {z : α} {l : List Int} {x : Int} (h : ¬ (0 ≤ x ∧ x ≤ l.length)) : topR R z l x = (z, 0, 1) := by
  unfold topR; rw [if_neg h]
def ansV (x : VT × Int × Int) : Value := .tuple #[x.1.v, .int .i64 x.2.1, .int .i64 x.2.2]
def ansR (x : VT × Int × Int) : Value := .tuple #[x.1.v, .int .i64 x.2.1, .int .i64 x.2.2]
end Go.Proofs.YtohapnninjdlfaaGreatDoor
