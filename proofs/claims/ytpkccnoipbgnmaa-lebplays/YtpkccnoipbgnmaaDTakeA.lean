/-
  The walks of the document's cursor: fail, Fail, Take; no statement is proved here.
-/
import Derived.Test.YtpkccnoipbgnmaaNext
namespace Go.Proofs.Ytpkccnoipbgnmaa
open Go.RowKit
set_option linter.unusedVariables false

theorem DBelow (w : World) (n : Nat) : Below w.heap.size w (w.drewN n) := ⟨rfl, rfl, rfl, Nat.le_refl _, fun _ _ => rfl⟩
theorem DReads {w : World} {v : Value} {l : List Int} (h : Reads w v l) (n : Nat) : Reads (w.drewN n) v l := h.below (DBelow w n)

set_option maxHeartbeats 400000 in
theorem dfail_good (bd : Nat) (vb : Value) (f t pl at_ e : Int) (w : World) (h : w.heap[bd]? = some (dcur vb f t pl 0)) :
    Calls Try.prog 62 #[.pointer (some ⟨bd, 0, none⟩), .int .i64 at_, .int .i64 e] w fun en w' => en = .returned (.tuple #[]) ∧ Put bd (dcur vb f t at_ e) w w' := by
  have hp := Put.refl h
  have c3 := cell_of h 3
  have c4 := cell_of h 4
  have f3 := free_of h 3
  have f4 := free_of h 4
  simp at c3 c4
  clear h
  go_enter Try.func62, Try.ntmps62
  go_wp2
  go_end0
  exact ⟨rfl, (hp.setOwn 3 _).setOwn 4 _⟩
set_option maxHeartbeats 400000 in
theorem dfail_bad (bd : Nat) (vb : Value) (f t pl wy at_ e : Int) (w : World) (h : w.heap[bd]? = some (dcur vb f t pl wy)) (hw : ¬ wy = 0) :
    Calls Try.prog 62 #[.pointer (some ⟨bd, 0, none⟩), .int .i64 at_, .int .i64 e] w fun en w' => en = .returned (.tuple #[]) ∧ w' = w := by
  have c4 := cell_of h 4
  simp at c4
  have hw' : (wy == 0) = false := by simpa using hw
  clear h hw
  go_enter Try.func62, Try.ntmps62
  go_wp2
  go_end0
  exact ⟨rfl, rfl⟩
set_option maxHeartbeats 400000 in
theorem tk_bad (bd : Nat) (vb : Value) (f t pl wy x z : Int) (y : Bool) (w : World) (h : w.heap[bd]? = some (dcur vb f t pl wy)) (hw : ¬ wy = 0) :
    Calls Try.prog 52 #[.pointer (some ⟨bd, 0, none⟩), .int .i64 x, .bool y, .int .i64 z] w fun en w' => en = .returned (.int .u64 0) ∧ Put bd (dcur vb f t pl wy) w w' := by
  have hp := Put.refl h
  have c4 := cell_of h 4
  simp at c4
  have hw' : (wy != 0) = true := by simpa using hw
  clear h hw
  go_enter Try.func52, Try.ntmps52
  go_wp2
  go_ret
  exact ⟨rfl, hp⟩
set_option maxHeartbeats 1000000 in
theorem tk32u_ok (bd : Nat) (l : List Int) (f t pl n p q : Int) (a : Option Addr) (cap : Nat) (w : World) (h : w.heap[bd]? = some (dcur (.slice a l.length cap) f t pl 0))
    (hR : Reads w (.slice a l.length cap) l) (hB : Byt l) (hlen : l.length ≤ 140737488351232) (hr : rd 32 false l f t = (n, p, q)) (hq : q = 0) :
    Calls Try.prog 52 #[.pointer (some ⟨bd, 0, none⟩), .int .i64 32, .bool false, .int .i64 0] w fun en w' => en = .returned (.int .u64 n) ∧ Put bd (dcur (.slice a l.length cap) p t pl 0) w w' := by
  subst hq
  have hp := Put.refl h
  have c0 := cell_of h 0
  have c1 := cell_of h 1
  have c2 := cell_of h 2
  have c4 := cell_of h 4
  have f1 := free_of h 1
  simp at c0 c1 c2 c4
  have HK : ∀ nq, Calls Try.prog 11 #[.slice a l.length cap, .int .i64 f, .int .i64 t, .int .i64 32, .bool false] (w.drewN nq) fun en w' => en = .returned (.tuple #[.int .u64 n, .int .i64 p, .int .i64 0]) ∧ w' = w.drewN nq := by
    intro nq
    have := num32u_any (.slice a l.length cap) l f t (w.drewN nq) (DReads hR nq) hB hlen
    rw [hr] at this
    exact this
  clear h hR hB hr
  go_enter Try.func52, Try.ntmps52
  go_wp2_with fail
  go_quiet ((go_at_call 11; exact Calls.quiet_of_same (HK _)))
  clear HK
  go_wp2
  go_ret
  exact ⟨rfl, (hp.setOwn 1 _).drewN _⟩
set_option maxHeartbeats 1000000 in
theorem tk32u_fault (bd : Nat) (l : List Int) (f t pl n p q : Int) (a : Option Addr) (cap : Nat) (w : World) (h : w.heap[bd]? = some (dcur (.slice a l.length cap) f t pl 0))
    (hR : Reads w (.slice a l.length cap) l) (hB : Byt l) (hlen : l.length ≤ 140737488351232) (hr : rd 32 false l f t = (n, p, q)) (hq : ¬ q = 0) :
    Calls Try.prog 52 #[.pointer (some ⟨bd, 0, none⟩), .int .i64 32, .bool false, .int .i64 0] w fun en w' => en = .returned (.int .u64 0) ∧ Put bd (dcur (.slice a l.length cap) f t p q) w w' := by
  have hp := Put.refl h
  have hq' : (q != 0) = true := by simpa using hq
  have c0 := cell_of h 0
  have c1 := cell_of h 1
  have c2 := cell_of h 2
  have c4 := cell_of h 4
  simp at c0 c1 c2 c4
  have HK : ∀ nq, Calls Try.prog 11 #[.slice a l.length cap, .int .i64 f, .int .i64 t, .int .i64 32, .bool false] (w.drewN nq) fun en w' => en = .returned (.tuple #[.int .u64 n, .int .i64 p, .int .i64 q]) ∧ w' = w.drewN nq := by
    intro nq
    have := num32u_any (.slice a l.length cap) l f t (w.drewN nq) (DReads hR nq) hB hlen
    rw [hr] at this
    exact this
  clear h hR hB hr hq
  go_enter Try.func52, Try.ntmps52
  go_wp2_with fail
  go_quiet ((go_at_call 11; exact Calls.quiet_of_same (HK _)))
  clear HK
  go_wp2_with fail
  refine (dfail_good bd _ f t pl _ _ _ (by exact (hp.drewN _).now)).mono ?_
  rintro en w2 ⟨rfl, hq2⟩
  go_wp2_with fail
  go_ret
  exact ⟨rfl, (hp.drewN _).trans hq2⟩
theorem tk32u_step (bd : Nat) (l : List Int) (f t pl wy : Int) (a : Option Addr) (cap : Nat) (w : World) (h : w.heap[bd]? = some (dcur (.slice a l.length cap) f t pl wy))
    (hR : Reads w (.slice a l.length cap) l) (hB : Byt l) (hlen : l.length ≤ 140737488351232) :
    Calls Try.prog 52 #[.pointer (some ⟨bd, 0, none⟩), .int .i64 32, .bool false, .int .i64 0] w fun en w' => en = .returned (.int .u64 (stepN (rd 32 false l f t) f pl wy).1) ∧
      Put bd (dcur (.slice a l.length cap) (stepN (rd 32 false l f t) f pl wy).2.1 t (stepN (rd 32 false l f t) f pl wy).2.2.1 (stepN (rd 32 false l f t) f pl wy).2.2.2) w w' := by
  rcases hr : rd 32 false l f t with ⟨n, p, q⟩
  by_cases hw : wy = 0
  · subst hw
    by_cases hq : q = 0
    · have e : stepN (n, p, q) f pl 0 = (n, p, pl, 0) := by simp [stepN, hq]
      rw [e]
      exact tk32u_ok bd l f t pl n p q a cap w h hR hB hlen hr hq
    · have e : stepN (n, p, q) f pl 0 = (0, f, p, q) := by simp [stepN, hq]
      rw [e]
      exact tk32u_fault bd l f t pl n p q a cap w h hR hB hlen hr hq
  · have e : stepN (n, p, q) f pl wy = (0, f, pl, wy) := by simp [stepN, hw]
    rw [e]
    exact tk_bad bd _ f t pl wy 32 0 false w h hw

set_option maxHeartbeats 1000000 in
theorem tk64u_ok (bd : Nat) (l : List Int) (f t pl n p q : Int) (a : Option Addr) (cap : Nat) (w : World) (h : w.heap[bd]? = some (dcur (.slice a l.length cap) f t pl 0))
    (hR : Reads w (.slice a l.length cap) l) (hB : Byt l) (hlen : l.length ≤ 140737488351232) (hr : rd 64 false l f t = (n, p, q)) (hq : q = 0) :
    Calls Try.prog 52 #[.pointer (some ⟨bd, 0, none⟩), .int .i64 64, .bool false, .int .i64 0] w fun en w' => en = .returned (.int .u64 n) ∧ Put bd (dcur (.slice a l.length cap) p t pl 0) w w' := by
  subst hq
  have hp := Put.refl h
  have c0 := cell_of h 0
  have c1 := cell_of h 1
  have c2 := cell_of h 2
  have c4 := cell_of h 4
  have f1 := free_of h 1
  simp at c0 c1 c2 c4
  have HK : ∀ nq, Calls Try.prog 11 #[.slice a l.length cap, .int .i64 f, .int .i64 t, .int .i64 64, .bool false] (w.drewN nq) fun en w' => en = .returned (.tuple #[.int .u64 n, .int .i64 p, .int .i64 0]) ∧ w' = w.drewN nq := by
    intro nq
    have := num64u_any (.slice a l.length cap) l f t (w.drewN nq) (DReads hR nq) hB hlen
    rw [hr] at this
    exact this
  clear h hR hB hr
  go_enter Try.func52, Try.ntmps52
  go_wp2_with fail
  go_quiet ((go_at_call 11; exact Calls.quiet_of_same (HK _)))
  clear HK
  go_wp2
  go_ret
  exact ⟨rfl, (hp.setOwn 1 _).drewN _⟩
set_option maxHeartbeats 1000000 in
theorem tk64u_fault (bd : Nat) (l : List Int) (f t pl n p q : Int) (a : Option Addr) (cap : Nat) (w : World) (h : w.heap[bd]? = some (dcur (.slice a l.length cap) f t pl 0))
    (hR : Reads w (.slice a l.length cap) l) (hB : Byt l) (hlen : l.length ≤ 140737488351232) (hr : rd 64 false l f t = (n, p, q)) (hq : ¬ q = 0) :
    Calls Try.prog 52 #[.pointer (some ⟨bd, 0, none⟩), .int .i64 64, .bool false, .int .i64 0] w fun en w' => en = .returned (.int .u64 0) ∧ Put bd (dcur (.slice a l.length cap) f t p q) w w' := by
  have hp := Put.refl h
  have hq' : (q != 0) = true := by simpa using hq
  have c0 := cell_of h 0
  have c1 := cell_of h 1
  have c2 := cell_of h 2
  have c4 := cell_of h 4
  simp at c0 c1 c2 c4
  have HK : ∀ nq, Calls Try.prog 11 #[.slice a l.length cap, .int .i64 f, .int .i64 t, .int .i64 64, .bool false] (w.drewN nq) fun en w' => en = .returned (.tuple #[.int .u64 n, .int .i64 p, .int .i64 q]) ∧ w' = w.drewN nq := by
    intro nq
    have := num64u_any (.slice a l.length cap) l f t (w.drewN nq) (DReads hR nq) hB hlen
    rw [hr] at this
    exact this
  clear h hR hB hr hq
  go_enter Try.func52, Try.ntmps52
  go_wp2_with fail
  go_quiet ((go_at_call 11; exact Calls.quiet_of_same (HK _)))
  clear HK
  go_wp2_with fail
  refine (dfail_good bd _ f t pl _ _ _ (by exact (hp.drewN _).now)).mono ?_
  rintro en w2 ⟨rfl, hq2⟩
  go_wp2_with fail
  go_ret
  exact ⟨rfl, (hp.drewN _).trans hq2⟩
theorem tk64u_step (bd : Nat) (l : List Int) (f t pl wy : Int) (a : Option Addr) (cap : Nat) (w : World) (h : w.heap[bd]? = some (dcur (.slice a l.length cap) f t pl wy))
    (hR : Reads w (.slice a l.length cap) l) (hB : Byt l) (hlen : l.length ≤ 140737488351232) :
    Calls Try.prog 52 #[.pointer (some ⟨bd, 0, none⟩), .int .i64 64, .bool false, .int .i64 0] w fun en w' => en = .returned (.int .u64 (stepN (rd 64 false l f t) f pl wy).1) ∧
      Put bd (dcur (.slice a l.length cap) (stepN (rd 64 false l f t) f pl wy).2.1 t (stepN (rd 64 false l f t) f pl wy).2.2.1 (stepN (rd 64 false l f t) f pl wy).2.2.2) w w' := by
  rcases hr : rd 64 false l f t with ⟨n, p, q⟩
  by_cases hw : wy = 0
  · subst hw
    by_cases hq : q = 0
    · have e : stepN (n, p, q) f pl 0 = (n, p, pl, 0) := by simp [stepN, hq]
      rw [e]
      exact tk64u_ok bd l f t pl n p q a cap w h hR hB hlen hr hq
    · have e : stepN (n, p, q) f pl 0 = (0, f, p, q) := by simp [stepN, hq]
      rw [e]
      exact tk64u_fault bd l f t pl n p q a cap w h hR hB hlen hr hq
  · have e : stepN (n, p, q) f pl wy = (0, f, pl, wy) := by simp [stepN, hw]
    rw [e]
    exact tk_bad bd _ f t pl wy 64 0 false w h hw

set_option maxHeartbeats 1000000 in
theorem tk32s_ok (bd : Nat) (l : List Int) (f t pl n p q : Int) (a : Option Addr) (cap : Nat) (w : World) (h : w.heap[bd]? = some (dcur (.slice a l.length cap) f t pl 0))
    (hR : Reads w (.slice a l.length cap) l) (hB : Byt l) (hlen : l.length ≤ 140737488351232) (hr : rd 32 true l f t = (n, p, q)) (hq : q = 0) :
    Calls Try.prog 52 #[.pointer (some ⟨bd, 0, none⟩), .int .i64 32, .bool true, .int .i64 0] w fun en w' => en = .returned (.int .u64 n) ∧ Put bd (dcur (.slice a l.length cap) p t pl 0) w w' := by
  subst hq
  have hp := Put.refl h
  have c0 := cell_of h 0
  have c1 := cell_of h 1
  have c2 := cell_of h 2
  have c4 := cell_of h 4
  have f1 := free_of h 1
  simp at c0 c1 c2 c4
  have HK : ∀ nq, Calls Try.prog 11 #[.slice a l.length cap, .int .i64 f, .int .i64 t, .int .i64 32, .bool true] (w.drewN nq) fun en w' => en = .returned (.tuple #[.int .u64 n, .int .i64 p, .int .i64 0]) ∧ w' = w.drewN nq := by
    intro nq
    have := num32s_any (.slice a l.length cap) l f t (w.drewN nq) (DReads hR nq) hB hlen
    rw [hr] at this
    exact this
  clear h hR hB hr
  go_enter Try.func52, Try.ntmps52
  go_wp2_with fail
  go_quiet ((go_at_call 11; exact Calls.quiet_of_same (HK _)))
  clear HK
  go_wp2
  go_ret
  exact ⟨rfl, (hp.setOwn 1 _).drewN _⟩
set_option maxHeartbeats 1000000 in
theorem tk32s_fault (bd : Nat) (l : List Int) (f t pl n p q : Int) (a : Option Addr) (cap : Nat) (w : World) (h : w.heap[bd]? = some (dcur (.slice a l.length cap) f t pl 0))
    (hR : Reads w (.slice a l.length cap) l) (hB : Byt l) (hlen : l.length ≤ 140737488351232) (hr : rd 32 true l f t = (n, p, q)) (hq : ¬ q = 0) :
    Calls Try.prog 52 #[.pointer (some ⟨bd, 0, none⟩), .int .i64 32, .bool true, .int .i64 0] w fun en w' => en = .returned (.int .u64 0) ∧ Put bd (dcur (.slice a l.length cap) f t p q) w w' := by
  have hp := Put.refl h
  have hq' : (q != 0) = true := by simpa using hq
  have c0 := cell_of h 0
  have c1 := cell_of h 1
  have c2 := cell_of h 2
  have c4 := cell_of h 4
  simp at c0 c1 c2 c4
  have HK : ∀ nq, Calls Try.prog 11 #[.slice a l.length cap, .int .i64 f, .int .i64 t, .int .i64 32, .bool true] (w.drewN nq) fun en w' => en = .returned (.tuple #[.int .u64 n, .int .i64 p, .int .i64 q]) ∧ w' = w.drewN nq := by
    intro nq
    have := num32s_any (.slice a l.length cap) l f t (w.drewN nq) (DReads hR nq) hB hlen
    rw [hr] at this
    exact this
  clear h hR hB hr hq
  go_enter Try.func52, Try.ntmps52
  go_wp2_with fail
  go_quiet ((go_at_call 11; exact Calls.quiet_of_same (HK _)))
  clear HK
  go_wp2_with fail
  refine (dfail_good bd _ f t pl _ _ _ (by exact (hp.drewN _).now)).mono ?_
  rintro en w2 ⟨rfl, hq2⟩
  go_wp2_with fail
  go_ret
  exact ⟨rfl, (hp.drewN _).trans hq2⟩
theorem tk32s_step (bd : Nat) (l : List Int) (f t pl wy : Int) (a : Option Addr) (cap : Nat) (w : World) (h : w.heap[bd]? = some (dcur (.slice a l.length cap) f t pl wy))
    (hR : Reads w (.slice a l.length cap) l) (hB : Byt l) (hlen : l.length ≤ 140737488351232) :
    Calls Try.prog 52 #[.pointer (some ⟨bd, 0, none⟩), .int .i64 32, .bool true, .int .i64 0] w fun en w' => en = .returned (.int .u64 (stepN (rd 32 true l f t) f pl wy).1) ∧
      Put bd (dcur (.slice a l.length cap) (stepN (rd 32 true l f t) f pl wy).2.1 t (stepN (rd 32 true l f t) f pl wy).2.2.1 (stepN (rd 32 true l f t) f pl wy).2.2.2) w w' := by
  rcases hr : rd 32 true l f t with ⟨n, p, q⟩
  by_cases hw : wy = 0
  · subst hw
    by_cases hq : q = 0
    · have e : stepN (n, p, q) f pl 0 = (n, p, pl, 0) := by simp [stepN, hq]
      rw [e]
      exact tk32s_ok bd l f t pl n p q a cap w h hR hB hlen hr hq
    · have e : stepN (n, p, q) f pl 0 = (0, f, p, q) := by simp [stepN, hq]
      rw [e]
      exact tk32s_fault bd l f t pl n p q a cap w h hR hB hlen hr hq
  · have e : stepN (n, p, q) f pl wy = (0, f, pl, wy) := by simp [stepN, hw]
    rw [e]
    exact tk_bad bd _ f t pl wy 32 0 true w h hw

set_option maxHeartbeats 1000000 in
theorem tk33s_ok (bd : Nat) (l : List Int) (f t pl n p q : Int) (a : Option Addr) (cap : Nat) (w : World) (h : w.heap[bd]? = some (dcur (.slice a l.length cap) f t pl 0))
    (hR : Reads w (.slice a l.length cap) l) (hB : Byt l) (hlen : l.length ≤ 140737488351232) (hr : rd 33 true l f t = (n, p, q)) (hq : q = 0) :
    Calls Try.prog 52 #[.pointer (some ⟨bd, 0, none⟩), .int .i64 33, .bool true, .int .i64 0] w fun en w' => en = .returned (.int .u64 n) ∧ Put bd (dcur (.slice a l.length cap) p t pl 0) w w' := by
  subst hq
  have hp := Put.refl h
  have c0 := cell_of h 0
  have c1 := cell_of h 1
  have c2 := cell_of h 2
  have c4 := cell_of h 4
  have f1 := free_of h 1
  simp at c0 c1 c2 c4
  have HK : ∀ nq, Calls Try.prog 11 #[.slice a l.length cap, .int .i64 f, .int .i64 t, .int .i64 33, .bool true] (w.drewN nq) fun en w' => en = .returned (.tuple #[.int .u64 n, .int .i64 p, .int .i64 0]) ∧ w' = w.drewN nq := by
    intro nq
    have := num33s_any (.slice a l.length cap) l f t (w.drewN nq) (DReads hR nq) hB hlen
    rw [hr] at this
    exact this
  clear h hR hB hr
  go_enter Try.func52, Try.ntmps52
  go_wp2_with fail
  go_quiet ((go_at_call 11; exact Calls.quiet_of_same (HK _)))
  clear HK
  go_wp2
  go_ret
  exact ⟨rfl, (hp.setOwn 1 _).drewN _⟩
set_option maxHeartbeats 1000000 in
theorem tk33s_fault (bd : Nat) (l : List Int) (f t pl n p q : Int) (a : Option Addr) (cap : Nat) (w : World) (h : w.heap[bd]? = some (dcur (.slice a l.length cap) f t pl 0))
    (hR : Reads w (.slice a l.length cap) l) (hB : Byt l) (hlen : l.length ≤ 140737488351232) (hr : rd 33 true l f t = (n, p, q)) (hq : ¬ q = 0) :
    Calls Try.prog 52 #[.pointer (some ⟨bd, 0, none⟩), .int .i64 33, .bool true, .int .i64 0] w fun en w' => en = .returned (.int .u64 0) ∧ Put bd (dcur (.slice a l.length cap) f t p q) w w' := by
  have hp := Put.refl h
  have hq' : (q != 0) = true := by simpa using hq
  have c0 := cell_of h 0
  have c1 := cell_of h 1
  have c2 := cell_of h 2
  have c4 := cell_of h 4
  simp at c0 c1 c2 c4
  have HK : ∀ nq, Calls Try.prog 11 #[.slice a l.length cap, .int .i64 f, .int .i64 t, .int .i64 33, .bool true] (w.drewN nq) fun en w' => en = .returned (.tuple #[.int .u64 n, .int .i64 p, .int .i64 q]) ∧ w' = w.drewN nq := by
    intro nq
    have := num33s_any (.slice a l.length cap) l f t (w.drewN nq) (DReads hR nq) hB hlen
    rw [hr] at this
    exact this
  clear h hR hB hr hq
  go_enter Try.func52, Try.ntmps52
  go_wp2_with fail
  go_quiet ((go_at_call 11; exact Calls.quiet_of_same (HK _)))
  clear HK
  go_wp2_with fail
  refine (dfail_good bd _ f t pl _ _ _ (by exact (hp.drewN _).now)).mono ?_
  rintro en w2 ⟨rfl, hq2⟩
  go_wp2_with fail
  go_ret
  exact ⟨rfl, (hp.drewN _).trans hq2⟩
theorem tk33s_step (bd : Nat) (l : List Int) (f t pl wy : Int) (a : Option Addr) (cap : Nat) (w : World) (h : w.heap[bd]? = some (dcur (.slice a l.length cap) f t pl wy))
    (hR : Reads w (.slice a l.length cap) l) (hB : Byt l) (hlen : l.length ≤ 140737488351232) :
    Calls Try.prog 52 #[.pointer (some ⟨bd, 0, none⟩), .int .i64 33, .bool true, .int .i64 0] w fun en w' => en = .returned (.int .u64 (stepN (rd 33 true l f t) f pl wy).1) ∧
      Put bd (dcur (.slice a l.length cap) (stepN (rd 33 true l f t) f pl wy).2.1 t (stepN (rd 33 true l f t) f pl wy).2.2.1 (stepN (rd 33 true l f t) f pl wy).2.2.2) w w' := by
  rcases hr : rd 33 true l f t with ⟨n, p, q⟩
  by_cases hw : wy = 0
  · subst hw
    by_cases hq : q = 0
    · have e : stepN (n, p, q) f pl 0 = (n, p, pl, 0) := by simp [stepN, hq]
      rw [e]
      exact tk33s_ok bd l f t pl n p q a cap w h hR hB hlen hr hq
    · have e : stepN (n, p, q) f pl 0 = (0, f, p, q) := by simp [stepN, hq]
      rw [e]
      exact tk33s_fault bd l f t pl n p q a cap w h hR hB hlen hr hq
  · have e : stepN (n, p, q) f pl wy = (0, f, pl, wy) := by simp [stepN, hw]
    rw [e]
    exact tk_bad bd _ f t pl wy 33 0 true w h hw

end Go.Proofs.Ytpkccnoipbgnmaa
