/-
  The walks of the cursor's readers of numbers (U32, U64, S32, S33, S64, F32, F64); no statement is proved here.
-/
import Derived.Test.YtpkccnoipbgnmaaTake
namespace Go.Proofs.Ytpkccnoipbgnmaa
open Go.RowKit
set_option linter.unusedVariables false

theorem Below.drewN' (w : World) (n : Nat) : Below w.heap.size w (w.drewN n) := ⟨rfl, rfl, rfl, Nat.le_refl _, fun _ _ => rfl⟩
theorem Reads.drewN {w : World} {v : Value} {l : List Int} (h : Reads w v l) (n : Nat) : Reads (w.drewN n) v l := h.below (Below.drewN' w n)

/- What reading a number does to a cursor: the number, the place, the first fault. r: what the reader says there. -/
def stepN (r : Int × Int × Int) (f pl wy : Int) : Int × Int × Int × Int :=
  if wy = 0 then (if r.2.2 = 0 then (r.1, r.2.1, pl, wy) else (0, f, r.2.1, r.2.2)) else (0, f, pl, wy)

set_option maxHeartbeats 1000000 in
theorem mU32_ok (bc : Nat) (l : List Int) (f t pl n p q : Int) (a : Option Addr) (cap : Nat) (w : World) (h : w.heap[bc]? = some (ccur (.slice a l.length cap) f t pl 0))
    (hR : Reads w (.slice a l.length cap) l) (hB : Byt l) (hlen : l.length ≤ 140737488351232) (hr : rd 32 false l f t = (n, p, q)) (hq : q = 0) :
    Calls Try.prog 53 #[.pointer (some ⟨bc, 0, none⟩)] w fun en w' => en = .returned (.int .u32 (n % 4294967296)) ∧ Put bc (ccur (.slice a l.length cap) p t pl 0) w w' := by
  subst hq
  have hp := Put.refl h
  have c0 := cell_of h 0
  have c1 := cell_of h 1
  have c2 := cell_of h 2
  have f1 := free_of h 1
  simp at c0 c1 c2
  have HK : ∀ nq, Calls Try.prog 9 #[.slice a l.length cap, .int .i64 f, .int .i64 t] (w.drewN nq) fun en w' => en = .returned (.tuple #[.int .u32 (n % 4294967296), .int .i64 p, .int .i64 0]) ∧ w' = w.drewN nq := by
    intro nq
    have := u32_any (.slice a l.length cap) l f t (w.drewN nq) (hR.drewN nq) hB hlen
    rw [hr] at this
    exact this
  have G := isGood_yes bc (.slice a l.length cap) f t pl w h
  clear h hR hB hr
  go_enter Try.func53, Try.ntmps53
  go_wp2_with (first | (go_at_call 64; refine G.mono ?_; rintro en w1 ⟨rfl, rfl⟩) | go_in)
  go_quiet ((go_at_call 9; exact Calls.quiet_of_same (HK _)))
  clear HK G
  go_wp2
  go_ret
  exact ⟨rfl, (hp.setOwn 1 _).drewN _⟩
set_option maxHeartbeats 1000000 in
theorem mU32_fault (bc : Nat) (l : List Int) (f t pl n p q : Int) (a : Option Addr) (cap : Nat) (w : World) (h : w.heap[bc]? = some (ccur (.slice a l.length cap) f t pl 0))
    (hR : Reads w (.slice a l.length cap) l) (hB : Byt l) (hlen : l.length ≤ 140737488351232) (hr : rd 32 false l f t = (n, p, q)) (hq : ¬ q = 0) :
    Calls Try.prog 53 #[.pointer (some ⟨bc, 0, none⟩)] w fun en w' => en = .returned (.int .u32 0) ∧ Put bc (ccur (.slice a l.length cap) f t p q) w w' := by
  have hp := Put.refl h
  have hq' : (q != 0) = true := by simpa using hq
  have HQ : Hid (¬ q = 0) := hq
  have c0 := cell_of h 0
  have c1 := cell_of h 1
  have c2 := cell_of h 2
  simp at c0 c1 c2
  have HK : ∀ nq, Calls Try.prog 9 #[.slice a l.length cap, .int .i64 f, .int .i64 t] (w.drewN nq) fun en w' => en = .returned (.tuple #[.int .u32 (n % 4294967296), .int .i64 p, .int .i64 q]) ∧ w' = w.drewN nq := by
    intro nq
    have := u32_any (.slice a l.length cap) l f t (w.drewN nq) (hR.drewN nq) hB hlen
    rw [hr] at this
    exact this
  have G := isGood_yes bc (.slice a l.length cap) f t pl w h
  clear h hR hB hr hq
  go_enter Try.func53, Try.ntmps53
  go_wp2_with (first | (go_at_call 64; refine G.mono ?_; rintro en w1 ⟨rfl, rfl⟩) | go_in)
  go_quiet ((go_at_call 9; exact Calls.quiet_of_same (HK _)))
  clear HK G
  go_wp2_with (first | (go_at_call 32; refine (fail_good bc _ f t pl _ _ _ (by exact (hp.drewN _).now) HQ.out).mono ?_; rintro en w2 ⟨rfl, hq2⟩) | go_in)
  go_ret
  exact ⟨rfl, (hp.drewN _).trans hq2⟩
set_option maxHeartbeats 400000 in
theorem mU32_bad (bc : Nat) (vb : Value) (f t pl wy : Int) (w : World) (h : w.heap[bc]? = some (ccur vb f t pl wy)) (hw : ¬ wy = 0) :
    Calls Try.prog 53 #[.pointer (some ⟨bc, 0, none⟩)] w fun en w' => en = .returned (.int .u32 0) ∧ Put bc (ccur vb f t pl wy) w w' := by
  have hp := Put.refl h
  have G := isGood_no bc vb f t pl wy w h hw
  clear h hw
  go_enter Try.func53, Try.ntmps53
  go_wp2_with (first | (go_at_call 64; refine G.mono ?_; rintro en w1 ⟨rfl, rfl⟩) | go_in)
  go_ret
  exact ⟨rfl, hp⟩
theorem mU32_step (bc : Nat) (l : List Int) (f t pl wy : Int) (a : Option Addr) (cap : Nat) (w : World) (h : w.heap[bc]? = some (ccur (.slice a l.length cap) f t pl wy))
    (hR : Reads w (.slice a l.length cap) l) (hB : Byt l) (hlen : l.length ≤ 140737488351232) :
    Calls Try.prog 53 #[.pointer (some ⟨bc, 0, none⟩)] w fun en w' => en = .returned (.int .u32 ((stepN (rd 32 false l f t) f pl wy).1 % 4294967296)) ∧
      Put bc (ccur (.slice a l.length cap) (stepN (rd 32 false l f t) f pl wy).2.1 t (stepN (rd 32 false l f t) f pl wy).2.2.1 (stepN (rd 32 false l f t) f pl wy).2.2.2) w w' := by
  rcases hr : rd 32 false l f t with ⟨n, p, q⟩
  by_cases hw : wy = 0
  · subst hw
    by_cases hq : q = 0
    · have e : stepN (n, p, q) f pl 0 = (n, p, pl, 0) := by simp [stepN, hq]
      rw [e]
      exact mU32_ok bc l f t pl n p q a cap w h hR hB hlen hr hq
    · have e : stepN (n, p, q) f pl 0 = (0, f, p, q) := by simp [stepN, hq]
      rw [e]
      refine (mU32_fault bc l f t pl n p q a cap w h hR hB hlen hr hq).mono ?_
      rintro en w' ⟨rfl, hp⟩
      exact ⟨ret_int rfl, hp⟩
  · have e : stepN (n, p, q) f pl wy = (0, f, pl, wy) := by simp [stepN, hw]
    rw [e]
    refine (mU32_bad bc _ f t pl wy w h hw).mono ?_
    rintro en w' ⟨rfl, hp⟩
    exact ⟨ret_int rfl, hp⟩

set_option maxHeartbeats 1000000 in
theorem mU64_ok (bc : Nat) (l : List Int) (f t pl n p q : Int) (a : Option Addr) (cap : Nat) (w : World) (h : w.heap[bc]? = some (ccur (.slice a l.length cap) f t pl 0))
    (hR : Reads w (.slice a l.length cap) l) (hB : Byt l) (hlen : l.length ≤ 140737488351232) (hr : rd 64 false l f t = (n, p, q)) (hq : q = 0) :
    Calls Try.prog 54 #[.pointer (some ⟨bc, 0, none⟩)] w fun en w' => en = .returned (.int .u64 (n)) ∧ Put bc (ccur (.slice a l.length cap) p t pl 0) w w' := by
  subst hq
  have hp := Put.refl h
  have c0 := cell_of h 0
  have c1 := cell_of h 1
  have c2 := cell_of h 2
  have f1 := free_of h 1
  simp at c0 c1 c2
  have HK : ∀ nq, Calls Try.prog 12 #[.slice a l.length cap, .int .i64 f, .int .i64 t] (w.drewN nq) fun en w' => en = .returned (.tuple #[.int .u64 (n), .int .i64 p, .int .i64 0]) ∧ w' = w.drewN nq := by
    intro nq
    have := u64_any (.slice a l.length cap) l f t (w.drewN nq) (hR.drewN nq) hB hlen
    rw [hr] at this
    exact this
  have G := isGood_yes bc (.slice a l.length cap) f t pl w h
  clear h hR hB hr
  go_enter Try.func54, Try.ntmps54
  go_wp2_with (first | (go_at_call 64; refine G.mono ?_; rintro en w1 ⟨rfl, rfl⟩) | go_in)
  go_quiet ((go_at_call 12; exact Calls.quiet_of_same (HK _)))
  clear HK G
  go_wp2
  go_ret
  exact ⟨rfl, (hp.setOwn 1 _).drewN _⟩
set_option maxHeartbeats 1000000 in
theorem mU64_fault (bc : Nat) (l : List Int) (f t pl n p q : Int) (a : Option Addr) (cap : Nat) (w : World) (h : w.heap[bc]? = some (ccur (.slice a l.length cap) f t pl 0))
    (hR : Reads w (.slice a l.length cap) l) (hB : Byt l) (hlen : l.length ≤ 140737488351232) (hr : rd 64 false l f t = (n, p, q)) (hq : ¬ q = 0) :
    Calls Try.prog 54 #[.pointer (some ⟨bc, 0, none⟩)] w fun en w' => en = .returned (.int .u64 0) ∧ Put bc (ccur (.slice a l.length cap) f t p q) w w' := by
  have hp := Put.refl h
  have hq' : (q != 0) = true := by simpa using hq
  have HQ : Hid (¬ q = 0) := hq
  have c0 := cell_of h 0
  have c1 := cell_of h 1
  have c2 := cell_of h 2
  simp at c0 c1 c2
  have HK : ∀ nq, Calls Try.prog 12 #[.slice a l.length cap, .int .i64 f, .int .i64 t] (w.drewN nq) fun en w' => en = .returned (.tuple #[.int .u64 (n), .int .i64 p, .int .i64 q]) ∧ w' = w.drewN nq := by
    intro nq
    have := u64_any (.slice a l.length cap) l f t (w.drewN nq) (hR.drewN nq) hB hlen
    rw [hr] at this
    exact this
  have G := isGood_yes bc (.slice a l.length cap) f t pl w h
  clear h hR hB hr hq
  go_enter Try.func54, Try.ntmps54
  go_wp2_with (first | (go_at_call 64; refine G.mono ?_; rintro en w1 ⟨rfl, rfl⟩) | go_in)
  go_quiet ((go_at_call 12; exact Calls.quiet_of_same (HK _)))
  clear HK G
  go_wp2_with (first | (go_at_call 32; refine (fail_good bc _ f t pl _ _ _ (by exact (hp.drewN _).now) HQ.out).mono ?_; rintro en w2 ⟨rfl, hq2⟩) | go_in)
  go_ret
  exact ⟨rfl, (hp.drewN _).trans hq2⟩
set_option maxHeartbeats 400000 in
theorem mU64_bad (bc : Nat) (vb : Value) (f t pl wy : Int) (w : World) (h : w.heap[bc]? = some (ccur vb f t pl wy)) (hw : ¬ wy = 0) :
    Calls Try.prog 54 #[.pointer (some ⟨bc, 0, none⟩)] w fun en w' => en = .returned (.int .u64 0) ∧ Put bc (ccur vb f t pl wy) w w' := by
  have hp := Put.refl h
  have G := isGood_no bc vb f t pl wy w h hw
  clear h hw
  go_enter Try.func54, Try.ntmps54
  go_wp2_with (first | (go_at_call 64; refine G.mono ?_; rintro en w1 ⟨rfl, rfl⟩) | go_in)
  go_ret
  exact ⟨rfl, hp⟩
theorem mU64_step (bc : Nat) (l : List Int) (f t pl wy : Int) (a : Option Addr) (cap : Nat) (w : World) (h : w.heap[bc]? = some (ccur (.slice a l.length cap) f t pl wy))
    (hR : Reads w (.slice a l.length cap) l) (hB : Byt l) (hlen : l.length ≤ 140737488351232) :
    Calls Try.prog 54 #[.pointer (some ⟨bc, 0, none⟩)] w fun en w' => en = .returned (.int .u64 ((stepN (rd 64 false l f t) f pl wy).1)) ∧
      Put bc (ccur (.slice a l.length cap) (stepN (rd 64 false l f t) f pl wy).2.1 t (stepN (rd 64 false l f t) f pl wy).2.2.1 (stepN (rd 64 false l f t) f pl wy).2.2.2) w w' := by
  rcases hr : rd 64 false l f t with ⟨n, p, q⟩
  by_cases hw : wy = 0
  · subst hw
    by_cases hq : q = 0
    · have e : stepN (n, p, q) f pl 0 = (n, p, pl, 0) := by simp [stepN, hq]
      rw [e]
      exact mU64_ok bc l f t pl n p q a cap w h hR hB hlen hr hq
    · have e : stepN (n, p, q) f pl 0 = (0, f, p, q) := by simp [stepN, hq]
      rw [e]
      refine (mU64_fault bc l f t pl n p q a cap w h hR hB hlen hr hq).mono ?_
      rintro en w' ⟨rfl, hp⟩
      exact ⟨ret_int rfl, hp⟩
  · have e : stepN (n, p, q) f pl wy = (0, f, pl, wy) := by simp [stepN, hw]
    rw [e]
    refine (mU64_bad bc _ f t pl wy w h hw).mono ?_
    rintro en w' ⟨rfl, hp⟩
    exact ⟨ret_int rfl, hp⟩

set_option maxHeartbeats 1000000 in
theorem mS32_ok (bc : Nat) (l : List Int) (f t pl n p q : Int) (a : Option Addr) (cap : Nat) (w : World) (h : w.heap[bc]? = some (ccur (.slice a l.length cap) f t pl 0))
    (hR : Reads w (.slice a l.length cap) l) (hB : Byt l) (hlen : l.length ≤ 140737488351232) (hr : rd 32 true l f t = (n, p, q)) (hq : q = 0) :
    Calls Try.prog 55 #[.pointer (some ⟨bc, 0, none⟩)] w fun en w' => en = .returned (.int .i32 (wrap32 n)) ∧ Put bc (ccur (.slice a l.length cap) p t pl 0) w w' := by
  subst hq
  have hp := Put.refl h
  have c0 := cell_of h 0
  have c1 := cell_of h 1
  have c2 := cell_of h 2
  have f1 := free_of h 1
  simp at c0 c1 c2
  have HK : ∀ nq, Calls Try.prog 13 #[.slice a l.length cap, .int .i64 f, .int .i64 t] (w.drewN nq) fun en w' => en = .returned (.tuple #[.int .i32 (wrap32 n), .int .i64 p, .int .i64 0]) ∧ w' = w.drewN nq := by
    intro nq
    have := s32_any (.slice a l.length cap) l f t (w.drewN nq) (hR.drewN nq) hB hlen
    rw [hr] at this
    exact this
  have G := isGood_yes bc (.slice a l.length cap) f t pl w h
  clear h hR hB hr
  go_enter Try.func55, Try.ntmps55
  go_wp2_with (first | (go_at_call 64; refine G.mono ?_; rintro en w1 ⟨rfl, rfl⟩) | go_in)
  go_quiet ((go_at_call 13; exact Calls.quiet_of_same (HK _)))
  clear HK G
  go_wp2
  go_ret
  exact ⟨rfl, (hp.setOwn 1 _).drewN _⟩
set_option maxHeartbeats 1000000 in
theorem mS32_fault (bc : Nat) (l : List Int) (f t pl n p q : Int) (a : Option Addr) (cap : Nat) (w : World) (h : w.heap[bc]? = some (ccur (.slice a l.length cap) f t pl 0))
    (hR : Reads w (.slice a l.length cap) l) (hB : Byt l) (hlen : l.length ≤ 140737488351232) (hr : rd 32 true l f t = (n, p, q)) (hq : ¬ q = 0) :
    Calls Try.prog 55 #[.pointer (some ⟨bc, 0, none⟩)] w fun en w' => en = .returned (.int .i32 0) ∧ Put bc (ccur (.slice a l.length cap) f t p q) w w' := by
  have hp := Put.refl h
  have hq' : (q != 0) = true := by simpa using hq
  have HQ : Hid (¬ q = 0) := hq
  have c0 := cell_of h 0
  have c1 := cell_of h 1
  have c2 := cell_of h 2
  simp at c0 c1 c2
  have HK : ∀ nq, Calls Try.prog 13 #[.slice a l.length cap, .int .i64 f, .int .i64 t] (w.drewN nq) fun en w' => en = .returned (.tuple #[.int .i32 (wrap32 n), .int .i64 p, .int .i64 q]) ∧ w' = w.drewN nq := by
    intro nq
    have := s32_any (.slice a l.length cap) l f t (w.drewN nq) (hR.drewN nq) hB hlen
    rw [hr] at this
    exact this
  have G := isGood_yes bc (.slice a l.length cap) f t pl w h
  clear h hR hB hr hq
  go_enter Try.func55, Try.ntmps55
  go_wp2_with (first | (go_at_call 64; refine G.mono ?_; rintro en w1 ⟨rfl, rfl⟩) | go_in)
  go_quiet ((go_at_call 13; exact Calls.quiet_of_same (HK _)))
  clear HK G
  go_wp2_with (first | (go_at_call 32; refine (fail_good bc _ f t pl _ _ _ (by exact (hp.drewN _).now) HQ.out).mono ?_; rintro en w2 ⟨rfl, hq2⟩) | go_in)
  go_ret
  exact ⟨rfl, (hp.drewN _).trans hq2⟩
set_option maxHeartbeats 400000 in
theorem mS32_bad (bc : Nat) (vb : Value) (f t pl wy : Int) (w : World) (h : w.heap[bc]? = some (ccur vb f t pl wy)) (hw : ¬ wy = 0) :
    Calls Try.prog 55 #[.pointer (some ⟨bc, 0, none⟩)] w fun en w' => en = .returned (.int .i32 0) ∧ Put bc (ccur vb f t pl wy) w w' := by
  have hp := Put.refl h
  have G := isGood_no bc vb f t pl wy w h hw
  clear h hw
  go_enter Try.func55, Try.ntmps55
  go_wp2_with (first | (go_at_call 64; refine G.mono ?_; rintro en w1 ⟨rfl, rfl⟩) | go_in)
  go_ret
  exact ⟨rfl, hp⟩
theorem mS32_step (bc : Nat) (l : List Int) (f t pl wy : Int) (a : Option Addr) (cap : Nat) (w : World) (h : w.heap[bc]? = some (ccur (.slice a l.length cap) f t pl wy))
    (hR : Reads w (.slice a l.length cap) l) (hB : Byt l) (hlen : l.length ≤ 140737488351232) :
    Calls Try.prog 55 #[.pointer (some ⟨bc, 0, none⟩)] w fun en w' => en = .returned (.int .i32 (wrap32 (stepN (rd 32 true l f t) f pl wy).1)) ∧
      Put bc (ccur (.slice a l.length cap) (stepN (rd 32 true l f t) f pl wy).2.1 t (stepN (rd 32 true l f t) f pl wy).2.2.1 (stepN (rd 32 true l f t) f pl wy).2.2.2) w w' := by
  rcases hr : rd 32 true l f t with ⟨n, p, q⟩
  by_cases hw : wy = 0
  · subst hw
    by_cases hq : q = 0
    · have e : stepN (n, p, q) f pl 0 = (n, p, pl, 0) := by simp [stepN, hq]
      rw [e]
      exact mS32_ok bc l f t pl n p q a cap w h hR hB hlen hr hq
    · have e : stepN (n, p, q) f pl 0 = (0, f, p, q) := by simp [stepN, hq]
      rw [e]
      refine (mS32_fault bc l f t pl n p q a cap w h hR hB hlen hr hq).mono ?_
      rintro en w' ⟨rfl, hp⟩
      exact ⟨ret_int (by simp [wrap32]), hp⟩
  · have e : stepN (n, p, q) f pl wy = (0, f, pl, wy) := by simp [stepN, hw]
    rw [e]
    refine (mS32_bad bc _ f t pl wy w h hw).mono ?_
    rintro en w' ⟨rfl, hp⟩
    exact ⟨ret_int (by simp [wrap32]), hp⟩

set_option maxHeartbeats 1000000 in
theorem mS33_ok (bc : Nat) (l : List Int) (f t pl n p q : Int) (a : Option Addr) (cap : Nat) (w : World) (h : w.heap[bc]? = some (ccur (.slice a l.length cap) f t pl 0))
    (hR : Reads w (.slice a l.length cap) l) (hB : Byt l) (hlen : l.length ≤ 140737488351232) (hr : rd 33 true l f t = (n, p, q)) (hq : q = 0) :
    Calls Try.prog 56 #[.pointer (some ⟨bc, 0, none⟩)] w fun en w' => en = .returned (.int .i64 (wrap64 n)) ∧ Put bc (ccur (.slice a l.length cap) p t pl 0) w w' := by
  subst hq
  have hp := Put.refl h
  have c0 := cell_of h 0
  have c1 := cell_of h 1
  have c2 := cell_of h 2
  have f1 := free_of h 1
  simp at c0 c1 c2
  have HK : ∀ nq, Calls Try.prog 14 #[.slice a l.length cap, .int .i64 f, .int .i64 t] (w.drewN nq) fun en w' => en = .returned (.tuple #[.int .i64 (wrap64 n), .int .i64 p, .int .i64 0]) ∧ w' = w.drewN nq := by
    intro nq
    have := s33_any (.slice a l.length cap) l f t (w.drewN nq) (hR.drewN nq) hB hlen
    rw [hr] at this
    exact this
  have G := isGood_yes bc (.slice a l.length cap) f t pl w h
  clear h hR hB hr
  go_enter Try.func56, Try.ntmps56
  go_wp2_with (first | (go_at_call 64; refine G.mono ?_; rintro en w1 ⟨rfl, rfl⟩) | go_in)
  go_quiet ((go_at_call 14; exact Calls.quiet_of_same (HK _)))
  clear HK G
  go_wp2
  go_ret
  exact ⟨rfl, (hp.setOwn 1 _).drewN _⟩
set_option maxHeartbeats 1000000 in
theorem mS33_fault (bc : Nat) (l : List Int) (f t pl n p q : Int) (a : Option Addr) (cap : Nat) (w : World) (h : w.heap[bc]? = some (ccur (.slice a l.length cap) f t pl 0))
    (hR : Reads w (.slice a l.length cap) l) (hB : Byt l) (hlen : l.length ≤ 140737488351232) (hr : rd 33 true l f t = (n, p, q)) (hq : ¬ q = 0) :
    Calls Try.prog 56 #[.pointer (some ⟨bc, 0, none⟩)] w fun en w' => en = .returned (.int .i64 0) ∧ Put bc (ccur (.slice a l.length cap) f t p q) w w' := by
  have hp := Put.refl h
  have hq' : (q != 0) = true := by simpa using hq
  have HQ : Hid (¬ q = 0) := hq
  have c0 := cell_of h 0
  have c1 := cell_of h 1
  have c2 := cell_of h 2
  simp at c0 c1 c2
  have HK : ∀ nq, Calls Try.prog 14 #[.slice a l.length cap, .int .i64 f, .int .i64 t] (w.drewN nq) fun en w' => en = .returned (.tuple #[.int .i64 (wrap64 n), .int .i64 p, .int .i64 q]) ∧ w' = w.drewN nq := by
    intro nq
    have := s33_any (.slice a l.length cap) l f t (w.drewN nq) (hR.drewN nq) hB hlen
    rw [hr] at this
    exact this
  have G := isGood_yes bc (.slice a l.length cap) f t pl w h
  clear h hR hB hr hq
  go_enter Try.func56, Try.ntmps56
  go_wp2_with (first | (go_at_call 64; refine G.mono ?_; rintro en w1 ⟨rfl, rfl⟩) | go_in)
  go_quiet ((go_at_call 14; exact Calls.quiet_of_same (HK _)))
  clear HK G
  go_wp2_with (first | (go_at_call 32; refine (fail_good bc _ f t pl _ _ _ (by exact (hp.drewN _).now) HQ.out).mono ?_; rintro en w2 ⟨rfl, hq2⟩) | go_in)
  go_ret
  exact ⟨rfl, (hp.drewN _).trans hq2⟩
set_option maxHeartbeats 400000 in
theorem mS33_bad (bc : Nat) (vb : Value) (f t pl wy : Int) (w : World) (h : w.heap[bc]? = some (ccur vb f t pl wy)) (hw : ¬ wy = 0) :
    Calls Try.prog 56 #[.pointer (some ⟨bc, 0, none⟩)] w fun en w' => en = .returned (.int .i64 0) ∧ Put bc (ccur vb f t pl wy) w w' := by
  have hp := Put.refl h
  have G := isGood_no bc vb f t pl wy w h hw
  clear h hw
  go_enter Try.func56, Try.ntmps56
  go_wp2_with (first | (go_at_call 64; refine G.mono ?_; rintro en w1 ⟨rfl, rfl⟩) | go_in)
  go_ret
  exact ⟨rfl, hp⟩
theorem mS33_step (bc : Nat) (l : List Int) (f t pl wy : Int) (a : Option Addr) (cap : Nat) (w : World) (h : w.heap[bc]? = some (ccur (.slice a l.length cap) f t pl wy))
    (hR : Reads w (.slice a l.length cap) l) (hB : Byt l) (hlen : l.length ≤ 140737488351232) :
    Calls Try.prog 56 #[.pointer (some ⟨bc, 0, none⟩)] w fun en w' => en = .returned (.int .i64 (wrap64 (stepN (rd 33 true l f t) f pl wy).1)) ∧
      Put bc (ccur (.slice a l.length cap) (stepN (rd 33 true l f t) f pl wy).2.1 t (stepN (rd 33 true l f t) f pl wy).2.2.1 (stepN (rd 33 true l f t) f pl wy).2.2.2) w w' := by
  rcases hr : rd 33 true l f t with ⟨n, p, q⟩
  by_cases hw : wy = 0
  · subst hw
    by_cases hq : q = 0
    · have e : stepN (n, p, q) f pl 0 = (n, p, pl, 0) := by simp [stepN, hq]
      rw [e]
      exact mS33_ok bc l f t pl n p q a cap w h hR hB hlen hr hq
    · have e : stepN (n, p, q) f pl 0 = (0, f, p, q) := by simp [stepN, hq]
      rw [e]
      refine (mS33_fault bc l f t pl n p q a cap w h hR hB hlen hr hq).mono ?_
      rintro en w' ⟨rfl, hp⟩
      exact ⟨ret_int (by simp [wrap64]), hp⟩
  · have e : stepN (n, p, q) f pl wy = (0, f, pl, wy) := by simp [stepN, hw]
    rw [e]
    refine (mS33_bad bc _ f t pl wy w h hw).mono ?_
    rintro en w' ⟨rfl, hp⟩
    exact ⟨ret_int (by simp [wrap64]), hp⟩

set_option maxHeartbeats 1000000 in
theorem mS64_ok (bc : Nat) (l : List Int) (f t pl n p q : Int) (a : Option Addr) (cap : Nat) (w : World) (h : w.heap[bc]? = some (ccur (.slice a l.length cap) f t pl 0))
    (hR : Reads w (.slice a l.length cap) l) (hB : Byt l) (hlen : l.length ≤ 140737488351232) (hr : rd 64 true l f t = (n, p, q)) (hq : q = 0) :
    Calls Try.prog 57 #[.pointer (some ⟨bc, 0, none⟩)] w fun en w' => en = .returned (.int .i64 (wrap64 n)) ∧ Put bc (ccur (.slice a l.length cap) p t pl 0) w w' := by
  subst hq
  have hp := Put.refl h
  have c0 := cell_of h 0
  have c1 := cell_of h 1
  have c2 := cell_of h 2
  have f1 := free_of h 1
  simp at c0 c1 c2
  have HK : ∀ nq, Calls Try.prog 15 #[.slice a l.length cap, .int .i64 f, .int .i64 t] (w.drewN nq) fun en w' => en = .returned (.tuple #[.int .i64 (wrap64 n), .int .i64 p, .int .i64 0]) ∧ w' = w.drewN nq := by
    intro nq
    have := s64_any (.slice a l.length cap) l f t (w.drewN nq) (hR.drewN nq) hB hlen
    rw [hr] at this
    exact this
  have G := isGood_yes bc (.slice a l.length cap) f t pl w h
  clear h hR hB hr
  go_enter Try.func57, Try.ntmps57
  go_wp2_with (first | (go_at_call 64; refine G.mono ?_; rintro en w1 ⟨rfl, rfl⟩) | go_in)
  go_quiet ((go_at_call 15; exact Calls.quiet_of_same (HK _)))
  clear HK G
  go_wp2
  go_ret
  exact ⟨rfl, (hp.setOwn 1 _).drewN _⟩
set_option maxHeartbeats 1000000 in
theorem mS64_fault (bc : Nat) (l : List Int) (f t pl n p q : Int) (a : Option Addr) (cap : Nat) (w : World) (h : w.heap[bc]? = some (ccur (.slice a l.length cap) f t pl 0))
    (hR : Reads w (.slice a l.length cap) l) (hB : Byt l) (hlen : l.length ≤ 140737488351232) (hr : rd 64 true l f t = (n, p, q)) (hq : ¬ q = 0) :
    Calls Try.prog 57 #[.pointer (some ⟨bc, 0, none⟩)] w fun en w' => en = .returned (.int .i64 0) ∧ Put bc (ccur (.slice a l.length cap) f t p q) w w' := by
  have hp := Put.refl h
  have hq' : (q != 0) = true := by simpa using hq
  have HQ : Hid (¬ q = 0) := hq
  have c0 := cell_of h 0
  have c1 := cell_of h 1
  have c2 := cell_of h 2
  simp at c0 c1 c2
  have HK : ∀ nq, Calls Try.prog 15 #[.slice a l.length cap, .int .i64 f, .int .i64 t] (w.drewN nq) fun en w' => en = .returned (.tuple #[.int .i64 (wrap64 n), .int .i64 p, .int .i64 q]) ∧ w' = w.drewN nq := by
    intro nq
    have := s64_any (.slice a l.length cap) l f t (w.drewN nq) (hR.drewN nq) hB hlen
    rw [hr] at this
    exact this
  have G := isGood_yes bc (.slice a l.length cap) f t pl w h
  clear h hR hB hr hq
  go_enter Try.func57, Try.ntmps57
  go_wp2_with (first | (go_at_call 64; refine G.mono ?_; rintro en w1 ⟨rfl, rfl⟩) | go_in)
  go_quiet ((go_at_call 15; exact Calls.quiet_of_same (HK _)))
  clear HK G
  go_wp2_with (first | (go_at_call 32; refine (fail_good bc _ f t pl _ _ _ (by exact (hp.drewN _).now) HQ.out).mono ?_; rintro en w2 ⟨rfl, hq2⟩) | go_in)
  go_ret
  exact ⟨rfl, (hp.drewN _).trans hq2⟩
set_option maxHeartbeats 400000 in
theorem mS64_bad (bc : Nat) (vb : Value) (f t pl wy : Int) (w : World) (h : w.heap[bc]? = some (ccur vb f t pl wy)) (hw : ¬ wy = 0) :
    Calls Try.prog 57 #[.pointer (some ⟨bc, 0, none⟩)] w fun en w' => en = .returned (.int .i64 0) ∧ Put bc (ccur vb f t pl wy) w w' := by
  have hp := Put.refl h
  have G := isGood_no bc vb f t pl wy w h hw
  clear h hw
  go_enter Try.func57, Try.ntmps57
  go_wp2_with (first | (go_at_call 64; refine G.mono ?_; rintro en w1 ⟨rfl, rfl⟩) | go_in)
  go_ret
  exact ⟨rfl, hp⟩
theorem mS64_step (bc : Nat) (l : List Int) (f t pl wy : Int) (a : Option Addr) (cap : Nat) (w : World) (h : w.heap[bc]? = some (ccur (.slice a l.length cap) f t pl wy))
    (hR : Reads w (.slice a l.length cap) l) (hB : Byt l) (hlen : l.length ≤ 140737488351232) :
    Calls Try.prog 57 #[.pointer (some ⟨bc, 0, none⟩)] w fun en w' => en = .returned (.int .i64 (wrap64 (stepN (rd 64 true l f t) f pl wy).1)) ∧
      Put bc (ccur (.slice a l.length cap) (stepN (rd 64 true l f t) f pl wy).2.1 t (stepN (rd 64 true l f t) f pl wy).2.2.1 (stepN (rd 64 true l f t) f pl wy).2.2.2) w w' := by
  rcases hr : rd 64 true l f t with ⟨n, p, q⟩
  by_cases hw : wy = 0
  · subst hw
    by_cases hq : q = 0
    · have e : stepN (n, p, q) f pl 0 = (n, p, pl, 0) := by simp [stepN, hq]
      rw [e]
      exact mS64_ok bc l f t pl n p q a cap w h hR hB hlen hr hq
    · have e : stepN (n, p, q) f pl 0 = (0, f, p, q) := by simp [stepN, hq]
      rw [e]
      refine (mS64_fault bc l f t pl n p q a cap w h hR hB hlen hr hq).mono ?_
      rintro en w' ⟨rfl, hp⟩
      exact ⟨ret_int (by simp [wrap64]), hp⟩
  · have e : stepN (n, p, q) f pl wy = (0, f, pl, wy) := by simp [stepN, hw]
    rw [e]
    refine (mS64_bad bc _ f t pl wy w h hw).mono ?_
    rintro en w' ⟨rfl, hp⟩
    exact ⟨ret_int (by simp [wrap64]), hp⟩

set_option maxHeartbeats 1000000 in
theorem mF32_ok (bc : Nat) (l : List Int) (f t pl n p q : Int) (a : Option Addr) (cap : Nat) (w : World) (h : w.heap[bc]? = some (ccur (.slice a l.length cap) f t pl 0))
    (hR : Reads w (.slice a l.length cap) l) (hB : Byt l) (hlen : l.length ≤ 140737488351232) (hr : fx 4 l f t = (n, p, q)) (hq : q = 0) :
    Calls Try.prog 58 #[.pointer (some ⟨bc, 0, none⟩)] w fun en w' => en = .returned (.int .u32 (n)) ∧ Put bc (ccur (.slice a l.length cap) p t pl 0) w w' := by
  subst hq
  have hp := Put.refl h
  have c0 := cell_of h 0
  have c1 := cell_of h 1
  have c2 := cell_of h 2
  have f1 := free_of h 1
  simp at c0 c1 c2
  have HK : ∀ nq, Calls Try.prog 42 #[.slice a l.length cap, .int .i64 f, .int .i64 t] (w.drewN nq) fun en w' => en = .returned (.tuple #[.int .u32 (n), .int .i64 p, .int .i64 0]) ∧ w' = w.drewN nq := by
    intro nq
    have := f32_any (.slice a l.length cap) l f t (w.drewN nq) (hR.drewN nq) hB hlen
    rw [hr] at this
    exact this
  have G := isGood_yes bc (.slice a l.length cap) f t pl w h
  clear h hR hB hr
  go_enter Try.func58, Try.ntmps58
  go_wp2_with (first | (go_at_call 64; refine G.mono ?_; rintro en w1 ⟨rfl, rfl⟩) | go_in)
  go_quiet ((go_at_call 42; exact Calls.quiet_of_same (HK _)))
  clear HK G
  go_wp2
  go_ret
  exact ⟨rfl, (hp.setOwn 1 _).drewN _⟩
set_option maxHeartbeats 1000000 in
theorem mF32_fault (bc : Nat) (l : List Int) (f t pl n p q : Int) (a : Option Addr) (cap : Nat) (w : World) (h : w.heap[bc]? = some (ccur (.slice a l.length cap) f t pl 0))
    (hR : Reads w (.slice a l.length cap) l) (hB : Byt l) (hlen : l.length ≤ 140737488351232) (hr : fx 4 l f t = (n, p, q)) (hq : ¬ q = 0) :
    Calls Try.prog 58 #[.pointer (some ⟨bc, 0, none⟩)] w fun en w' => en = .returned (.int .u32 0) ∧ Put bc (ccur (.slice a l.length cap) f t p q) w w' := by
  have hp := Put.refl h
  have hq' : (q != 0) = true := by simpa using hq
  have HQ : Hid (¬ q = 0) := hq
  have c0 := cell_of h 0
  have c1 := cell_of h 1
  have c2 := cell_of h 2
  simp at c0 c1 c2
  have HK : ∀ nq, Calls Try.prog 42 #[.slice a l.length cap, .int .i64 f, .int .i64 t] (w.drewN nq) fun en w' => en = .returned (.tuple #[.int .u32 (n), .int .i64 p, .int .i64 q]) ∧ w' = w.drewN nq := by
    intro nq
    have := f32_any (.slice a l.length cap) l f t (w.drewN nq) (hR.drewN nq) hB hlen
    rw [hr] at this
    exact this
  have G := isGood_yes bc (.slice a l.length cap) f t pl w h
  clear h hR hB hr hq
  go_enter Try.func58, Try.ntmps58
  go_wp2_with (first | (go_at_call 64; refine G.mono ?_; rintro en w1 ⟨rfl, rfl⟩) | go_in)
  go_quiet ((go_at_call 42; exact Calls.quiet_of_same (HK _)))
  clear HK G
  go_wp2_with (first | (go_at_call 32; refine (fail_good bc _ f t pl _ _ _ (by exact (hp.drewN _).now) HQ.out).mono ?_; rintro en w2 ⟨rfl, hq2⟩) | go_in)
  go_ret
  exact ⟨rfl, (hp.drewN _).trans hq2⟩
set_option maxHeartbeats 400000 in
theorem mF32_bad (bc : Nat) (vb : Value) (f t pl wy : Int) (w : World) (h : w.heap[bc]? = some (ccur vb f t pl wy)) (hw : ¬ wy = 0) :
    Calls Try.prog 58 #[.pointer (some ⟨bc, 0, none⟩)] w fun en w' => en = .returned (.int .u32 0) ∧ Put bc (ccur vb f t pl wy) w w' := by
  have hp := Put.refl h
  have G := isGood_no bc vb f t pl wy w h hw
  clear h hw
  go_enter Try.func58, Try.ntmps58
  go_wp2_with (first | (go_at_call 64; refine G.mono ?_; rintro en w1 ⟨rfl, rfl⟩) | go_in)
  go_ret
  exact ⟨rfl, hp⟩
theorem mF32_step (bc : Nat) (l : List Int) (f t pl wy : Int) (a : Option Addr) (cap : Nat) (w : World) (h : w.heap[bc]? = some (ccur (.slice a l.length cap) f t pl wy))
    (hR : Reads w (.slice a l.length cap) l) (hB : Byt l) (hlen : l.length ≤ 140737488351232) :
    Calls Try.prog 58 #[.pointer (some ⟨bc, 0, none⟩)] w fun en w' => en = .returned (.int .u32 ((stepN (fx 4 l f t) f pl wy).1)) ∧
      Put bc (ccur (.slice a l.length cap) (stepN (fx 4 l f t) f pl wy).2.1 t (stepN (fx 4 l f t) f pl wy).2.2.1 (stepN (fx 4 l f t) f pl wy).2.2.2) w w' := by
  rcases hr : fx 4 l f t with ⟨n, p, q⟩
  by_cases hw : wy = 0
  · subst hw
    by_cases hq : q = 0
    · have e : stepN (n, p, q) f pl 0 = (n, p, pl, 0) := by simp [stepN, hq]
      rw [e]
      exact mF32_ok bc l f t pl n p q a cap w h hR hB hlen hr hq
    · have e : stepN (n, p, q) f pl 0 = (0, f, p, q) := by simp [stepN, hq]
      rw [e]
      refine (mF32_fault bc l f t pl n p q a cap w h hR hB hlen hr hq).mono ?_
      rintro en w' ⟨rfl, hp⟩
      exact ⟨ret_int rfl, hp⟩
  · have e : stepN (n, p, q) f pl wy = (0, f, pl, wy) := by simp [stepN, hw]
    rw [e]
    refine (mF32_bad bc _ f t pl wy w h hw).mono ?_
    rintro en w' ⟨rfl, hp⟩
    exact ⟨ret_int rfl, hp⟩

set_option maxHeartbeats 1000000 in
theorem mF64_ok (bc : Nat) (l : List Int) (f t pl n p q : Int) (a : Option Addr) (cap : Nat) (w : World) (h : w.heap[bc]? = some (ccur (.slice a l.length cap) f t pl 0))
    (hR : Reads w (.slice a l.length cap) l) (hB : Byt l) (hlen : l.length ≤ 140737488351232) (hr : fx 8 l f t = (n, p, q)) (hq : q = 0) :
    Calls Try.prog 59 #[.pointer (some ⟨bc, 0, none⟩)] w fun en w' => en = .returned (.int .u64 (n)) ∧ Put bc (ccur (.slice a l.length cap) p t pl 0) w w' := by
  subst hq
  have hp := Put.refl h
  have c0 := cell_of h 0
  have c1 := cell_of h 1
  have c2 := cell_of h 2
  have f1 := free_of h 1
  simp at c0 c1 c2
  have HK : ∀ nq, Calls Try.prog 44 #[.slice a l.length cap, .int .i64 f, .int .i64 t] (w.drewN nq) fun en w' => en = .returned (.tuple #[.int .u64 (n), .int .i64 p, .int .i64 0]) ∧ w' = w.drewN nq := by
    intro nq
    have := f64_any (.slice a l.length cap) l f t (w.drewN nq) (hR.drewN nq) hB hlen
    rw [hr] at this
    exact this
  have G := isGood_yes bc (.slice a l.length cap) f t pl w h
  clear h hR hB hr
  go_enter Try.func59, Try.ntmps59
  go_wp2_with (first | (go_at_call 64; refine G.mono ?_; rintro en w1 ⟨rfl, rfl⟩) | go_in)
  go_quiet ((go_at_call 44; exact Calls.quiet_of_same (HK _)))
  clear HK G
  go_wp2
  go_ret
  exact ⟨rfl, (hp.setOwn 1 _).drewN _⟩
set_option maxHeartbeats 1000000 in
theorem mF64_fault (bc : Nat) (l : List Int) (f t pl n p q : Int) (a : Option Addr) (cap : Nat) (w : World) (h : w.heap[bc]? = some (ccur (.slice a l.length cap) f t pl 0))
    (hR : Reads w (.slice a l.length cap) l) (hB : Byt l) (hlen : l.length ≤ 140737488351232) (hr : fx 8 l f t = (n, p, q)) (hq : ¬ q = 0) :
    Calls Try.prog 59 #[.pointer (some ⟨bc, 0, none⟩)] w fun en w' => en = .returned (.int .u64 0) ∧ Put bc (ccur (.slice a l.length cap) f t p q) w w' := by
  have hp := Put.refl h
  have hq' : (q != 0) = true := by simpa using hq
  have HQ : Hid (¬ q = 0) := hq
  have c0 := cell_of h 0
  have c1 := cell_of h 1
  have c2 := cell_of h 2
  simp at c0 c1 c2
  have HK : ∀ nq, Calls Try.prog 44 #[.slice a l.length cap, .int .i64 f, .int .i64 t] (w.drewN nq) fun en w' => en = .returned (.tuple #[.int .u64 (n), .int .i64 p, .int .i64 q]) ∧ w' = w.drewN nq := by
    intro nq
    have := f64_any (.slice a l.length cap) l f t (w.drewN nq) (hR.drewN nq) hB hlen
    rw [hr] at this
    exact this
  have G := isGood_yes bc (.slice a l.length cap) f t pl w h
  clear h hR hB hr hq
  go_enter Try.func59, Try.ntmps59
  go_wp2_with (first | (go_at_call 64; refine G.mono ?_; rintro en w1 ⟨rfl, rfl⟩) | go_in)
  go_quiet ((go_at_call 44; exact Calls.quiet_of_same (HK _)))
  clear HK G
  go_wp2_with (first | (go_at_call 32; refine (fail_good bc _ f t pl _ _ _ (by exact (hp.drewN _).now) HQ.out).mono ?_; rintro en w2 ⟨rfl, hq2⟩) | go_in)
  go_ret
  exact ⟨rfl, (hp.drewN _).trans hq2⟩
set_option maxHeartbeats 400000 in
theorem mF64_bad (bc : Nat) (vb : Value) (f t pl wy : Int) (w : World) (h : w.heap[bc]? = some (ccur vb f t pl wy)) (hw : ¬ wy = 0) :
    Calls Try.prog 59 #[.pointer (some ⟨bc, 0, none⟩)] w fun en w' => en = .returned (.int .u64 0) ∧ Put bc (ccur vb f t pl wy) w w' := by
  have hp := Put.refl h
  have G := isGood_no bc vb f t pl wy w h hw
  clear h hw
  go_enter Try.func59, Try.ntmps59
  go_wp2_with (first | (go_at_call 64; refine G.mono ?_; rintro en w1 ⟨rfl, rfl⟩) | go_in)
  go_ret
  exact ⟨rfl, hp⟩
theorem mF64_step (bc : Nat) (l : List Int) (f t pl wy : Int) (a : Option Addr) (cap : Nat) (w : World) (h : w.heap[bc]? = some (ccur (.slice a l.length cap) f t pl wy))
    (hR : Reads w (.slice a l.length cap) l) (hB : Byt l) (hlen : l.length ≤ 140737488351232) :
    Calls Try.prog 59 #[.pointer (some ⟨bc, 0, none⟩)] w fun en w' => en = .returned (.int .u64 ((stepN (fx 8 l f t) f pl wy).1)) ∧
      Put bc (ccur (.slice a l.length cap) (stepN (fx 8 l f t) f pl wy).2.1 t (stepN (fx 8 l f t) f pl wy).2.2.1 (stepN (fx 8 l f t) f pl wy).2.2.2) w w' := by
  rcases hr : fx 8 l f t with ⟨n, p, q⟩
  by_cases hw : wy = 0
  · subst hw
    by_cases hq : q = 0
    · have e : stepN (n, p, q) f pl 0 = (n, p, pl, 0) := by simp [stepN, hq]
      rw [e]
      exact mF64_ok bc l f t pl n p q a cap w h hR hB hlen hr hq
    · have e : stepN (n, p, q) f pl 0 = (0, f, p, q) := by simp [stepN, hq]
      rw [e]
      refine (mF64_fault bc l f t pl n p q a cap w h hR hB hlen hr hq).mono ?_
      rintro en w' ⟨rfl, hp⟩
      exact ⟨ret_int rfl, hp⟩
  · have e : stepN (n, p, q) f pl wy = (0, f, pl, wy) := by simp [stepN, hw]
    rw [e]
    refine (mF64_bad bc _ f t pl wy w h hw).mono ?_
    rintro en w' ⟨rfl, hp⟩
    exact ⟨ret_int rfl, hp⟩

end Go.Proofs.Ytpkccnoipbgnmaa
