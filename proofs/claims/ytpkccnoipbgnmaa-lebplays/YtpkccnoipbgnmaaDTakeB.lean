/-
  The walks of the document's cursor: fail, Fail, Take; no statement is proved here.
-/
import Derived.Test.YtpkccnoipbgnmaaDTakeA
namespace Go.Proofs.Ytpkccnoipbgnmaa
open Go.RowKit
set_option linter.unusedVariables false

theorem fixed1_any (v : Value) (l : List Int) (x y : Int) (w : World) (hR : Reads w v l) (hb : Byt l) (hlen : l.length ≤ 140737488351232) :
    Calls Try.prog 43 #[v, .int .i64 x, .int .i64 y, .int .i64 1] w fun en w' => en = .returned (.tuple #[.int .u64 ((fx 1 l x y).1), .int .i64 (fx 1 l x y).2.1, .int .i64 (fx 1 l x y).2.2]) ∧ w' = w := by
  obtain ⟨ad, cap, rfl, hlc, hm, _, h⟩ := hR
  by_cases hin : 0 ≤ x ∧ x ≤ y ∧ y ≤ (l.length : Int)
  · obtain ⟨a, e, rfl, rfl, hae, he⟩ := split_in hin
    by_cases hs : a + 1 ≤ e
    · rcases h with rfl | ⟨b, off, rfl, hc⟩
      · simp only [List.length_nil] at he
        omega
      · refine (fixed_in 1 b off cap l a e w (by omega) (by omega) hlen hs he hc hb).mono ?_
        rintro en w' ⟨rfl, rfl⟩
        obtain ⟨h1, h2, h3⟩ := loop_pair (fx_in he hs)
        exact ⟨ret_3 (by rw [h1]) (by rw [h2]) (by rw [h3]), rfl⟩
    · refine (fixed_short 1 ad l.length cap a e w (by omega) hlen hae he (by omega)).mono ?_
      rintro en w' ⟨rfl, rfl⟩
      obtain ⟨h1, h2, h3⟩ := loop_pair (fx_short (s := 1) hae he (by omega))
      exact ⟨ret_3 (by rw [h1]) (by rw [h2]) (by rw [h3]), rfl⟩
  · refine (fixed_no 1 ad l.length cap x y w hin).mono ?_
    rintro en w' ⟨rfl, rfl⟩
    obtain ⟨h1, h2, h3⟩ := loop_pair (fx_out (s := 1) hin)
    exact ⟨ret_3 (by rw [h1]) (by rw [h2]) (by rw [h3]), rfl⟩

set_option maxHeartbeats 1000000 in
theorem tk64s_ok (bd : Nat) (l : List Int) (f t pl n p q : Int) (a : Option Addr) (cap : Nat) (w : World) (h : w.heap[bd]? = some (dcur (.slice a l.length cap) f t pl 0))
    (hR : Reads w (.slice a l.length cap) l) (hB : Byt l) (hlen : l.length ≤ 140737488351232) (hr : rd 64 true l f t = (n, p, q)) (hq : q = 0) :
    Calls Try.prog 52 #[.pointer (some ⟨bd, 0, none⟩), .int .i64 64, .bool true, .int .i64 0] w fun en w' => en = .returned (.int .u64 n) ∧ Put bd (dcur (.slice a l.length cap) p t pl 0) w w' := by
  subst hq
  have hp := Put.refl h
  have c0 := cell_of h 0
  have c1 := cell_of h 1
  have c2 := cell_of h 2
  have c4 := cell_of h 4
  have f1 := free_of h 1
  simp at c0 c1 c2 c4
  have HK : ∀ nq, Calls Try.prog 11 #[.slice a l.length cap, .int .i64 f, .int .i64 t, .int .i64 64, .bool true] (w.drewN nq) fun en w' => en = .returned (.tuple #[.int .u64 n, .int .i64 p, .int .i64 0]) ∧ w' = w.drewN nq := by
    intro nq
    have := num64s_any (.slice a l.length cap) l f t (w.drewN nq) (DReads hR nq) hB hlen
    rw [hr] at this
    exact this
  clear h hR hB hr
  go_enter Try.func52, Try.ntmps52
  go_wp2_with fail
  go_quiet ((go_at_call 11; exact Calls.quiet_of_same (HK _)))
  clear HK
  go_wp2
  go_ret
  exact ⟨rfl, (hp.setOwn 1 _).drewN _⟩
set_option maxHeartbeats 1000000 in
theorem tk64s_fault (bd : Nat) (l : List Int) (f t pl n p q : Int) (a : Option Addr) (cap : Nat) (w : World) (h : w.heap[bd]? = some (dcur (.slice a l.length cap) f t pl 0))
    (hR : Reads w (.slice a l.length cap) l) (hB : Byt l) (hlen : l.length ≤ 140737488351232) (hr : rd 64 true l f t = (n, p, q)) (hq : ¬ q = 0) :
    Calls Try.prog 52 #[.pointer (some ⟨bd, 0, none⟩), .int .i64 64, .bool true, .int .i64 0] w fun en w' => en = .returned (.int .u64 0) ∧ Put bd (dcur (.slice a l.length cap) f t p q) w w' := by
  have hp := Put.refl h
  have hq' : (q != 0) = true := by simpa using hq
  have c0 := cell_of h 0
  have c1 := cell_of h 1
  have c2 := cell_of h 2
  have c4 := cell_of h 4
  simp at c0 c1 c2 c4
  have HK : ∀ nq, Calls Try.prog 11 #[.slice a l.length cap, .int .i64 f, .int .i64 t, .int .i64 64, .bool true] (w.drewN nq) fun en w' => en = .returned (.tuple #[.int .u64 n, .int .i64 p, .int .i64 q]) ∧ w' = w.drewN nq := by
    intro nq
    have := num64s_any (.slice a l.length cap) l f t (w.drewN nq) (DReads hR nq) hB hlen
    rw [hr] at this
    exact this
  clear h hR hB hr hq
  go_enter Try.func52, Try.ntmps52
  go_wp2_with fail
  go_quiet ((go_at_call 11; exact Calls.quiet_of_same (HK _)))
  clear HK
  go_wp2_with fail
  refine (dfail_good bd _ f t pl _ _ _ (by exact (hp.drewN _).now)).mono ?_
  rintro en w2 ⟨rfl, hq2⟩
  go_wp2_with fail
  go_ret
  exact ⟨rfl, (hp.drewN _).trans hq2⟩
theorem tk64s_step (bd : Nat) (l : List Int) (f t pl wy : Int) (a : Option Addr) (cap : Nat) (w : World) (h : w.heap[bd]? = some (dcur (.slice a l.length cap) f t pl wy))
    (hR : Reads w (.slice a l.length cap) l) (hB : Byt l) (hlen : l.length ≤ 140737488351232) :
    Calls Try.prog 52 #[.pointer (some ⟨bd, 0, none⟩), .int .i64 64, .bool true, .int .i64 0] w fun en w' => en = .returned (.int .u64 (stepN (rd 64 true l f t) f pl wy).1) ∧
      Put bd (dcur (.slice a l.length cap) (stepN (rd 64 true l f t) f pl wy).2.1 t (stepN (rd 64 true l f t) f pl wy).2.2.1 (stepN (rd 64 true l f t) f pl wy).2.2.2) w w' := by
  rcases hr : rd 64 true l f t with ⟨n, p, q⟩
  by_cases hw : wy = 0
  · subst hw
    by_cases hq : q = 0
    · have e : stepN (n, p, q) f pl 0 = (n, p, pl, 0) := by simp [stepN, hq]
      rw [e]
      exact tk64s_ok bd l f t pl n p q a cap w h hR hB hlen hr hq
    · have e : stepN (n, p, q) f pl 0 = (0, f, p, q) := by simp [stepN, hq]
      rw [e]
      exact tk64s_fault bd l f t pl n p q a cap w h hR hB hlen hr hq
  · have e : stepN (n, p, q) f pl wy = (0, f, pl, wy) := by simp [stepN, hw]
    rw [e]
    exact tk_bad bd _ f t pl wy 64 0 true w h hw

set_option maxHeartbeats 1000000 in
theorem tkF1_ok (bd : Nat) (l : List Int) (f t pl n p q : Int) (a : Option Addr) (cap : Nat) (w : World) (h : w.heap[bd]? = some (dcur (.slice a l.length cap) f t pl 0))
    (hR : Reads w (.slice a l.length cap) l) (hB : Byt l) (hlen : l.length ≤ 140737488351232) (hr : fx 1 l f t = (n, p, q)) (hq : q = 0) :
    Calls Try.prog 52 #[.pointer (some ⟨bd, 0, none⟩), .int .i64 0, .bool false, .int .i64 1] w fun en w' => en = .returned (.int .u64 n) ∧ Put bd (dcur (.slice a l.length cap) p t pl 0) w w' := by
  subst hq
  have hp := Put.refl h
  have c0 := cell_of h 0
  have c1 := cell_of h 1
  have c2 := cell_of h 2
  have c4 := cell_of h 4
  have f1 := free_of h 1
  simp at c0 c1 c2 c4
  have HK : ∀ nq, Calls Try.prog 43 #[.slice a l.length cap, .int .i64 f, .int .i64 t, .int .i64 1] (w.drewN nq) fun en w' => en = .returned (.tuple #[.int .u64 n, .int .i64 p, .int .i64 0]) ∧ w' = w.drewN nq := by
    intro nq
    have := fixed1_any (.slice a l.length cap) l f t (w.drewN nq) (DReads hR nq) hB hlen
    rw [hr] at this
    exact this
  clear h hR hB hr
  go_enter Try.func52, Try.ntmps52
  go_wp2_with fail
  go_quiet ((go_at_call 43; exact Calls.quiet_of_same (HK _)))
  clear HK
  go_wp2
  go_ret
  exact ⟨rfl, (hp.setOwn 1 _).drewN _⟩
set_option maxHeartbeats 1000000 in
theorem tkF1_fault (bd : Nat) (l : List Int) (f t pl n p q : Int) (a : Option Addr) (cap : Nat) (w : World) (h : w.heap[bd]? = some (dcur (.slice a l.length cap) f t pl 0))
    (hR : Reads w (.slice a l.length cap) l) (hB : Byt l) (hlen : l.length ≤ 140737488351232) (hr : fx 1 l f t = (n, p, q)) (hq : ¬ q = 0) :
    Calls Try.prog 52 #[.pointer (some ⟨bd, 0, none⟩), .int .i64 0, .bool false, .int .i64 1] w fun en w' => en = .returned (.int .u64 0) ∧ Put bd (dcur (.slice a l.length cap) f t p q) w w' := by
  have hp := Put.refl h
  have hq' : (q != 0) = true := by simpa using hq
  have c0 := cell_of h 0
  have c1 := cell_of h 1
  have c2 := cell_of h 2
  have c4 := cell_of h 4
  simp at c0 c1 c2 c4
  have HK : ∀ nq, Calls Try.prog 43 #[.slice a l.length cap, .int .i64 f, .int .i64 t, .int .i64 1] (w.drewN nq) fun en w' => en = .returned (.tuple #[.int .u64 n, .int .i64 p, .int .i64 q]) ∧ w' = w.drewN nq := by
    intro nq
    have := fixed1_any (.slice a l.length cap) l f t (w.drewN nq) (DReads hR nq) hB hlen
    rw [hr] at this
    exact this
  clear h hR hB hr hq
  go_enter Try.func52, Try.ntmps52
  go_wp2_with fail
  go_quiet ((go_at_call 43; exact Calls.quiet_of_same (HK _)))
  clear HK
  go_wp2_with fail
  refine (dfail_good bd _ f t pl _ _ _ (by exact (hp.drewN _).now)).mono ?_
  rintro en w2 ⟨rfl, hq2⟩
  go_wp2_with fail
  go_ret
  exact ⟨rfl, (hp.drewN _).trans hq2⟩
theorem tkF1_step (bd : Nat) (l : List Int) (f t pl wy : Int) (a : Option Addr) (cap : Nat) (w : World) (h : w.heap[bd]? = some (dcur (.slice a l.length cap) f t pl wy))
    (hR : Reads w (.slice a l.length cap) l) (hB : Byt l) (hlen : l.length ≤ 140737488351232) :
    Calls Try.prog 52 #[.pointer (some ⟨bd, 0, none⟩), .int .i64 0, .bool false, .int .i64 1] w fun en w' => en = .returned (.int .u64 (stepN (fx 1 l f t) f pl wy).1) ∧
      Put bd (dcur (.slice a l.length cap) (stepN (fx 1 l f t) f pl wy).2.1 t (stepN (fx 1 l f t) f pl wy).2.2.1 (stepN (fx 1 l f t) f pl wy).2.2.2) w w' := by
  rcases hr : fx 1 l f t with ⟨n, p, q⟩
  by_cases hw : wy = 0
  · subst hw
    by_cases hq : q = 0
    · have e : stepN (n, p, q) f pl 0 = (n, p, pl, 0) := by simp [stepN, hq]
      rw [e]
      exact tkF1_ok bd l f t pl n p q a cap w h hR hB hlen hr hq
    · have e : stepN (n, p, q) f pl 0 = (0, f, p, q) := by simp [stepN, hq]
      rw [e]
      exact tkF1_fault bd l f t pl n p q a cap w h hR hB hlen hr hq
  · have e : stepN (n, p, q) f pl wy = (0, f, pl, wy) := by simp [stepN, hw]
    rw [e]
    exact tk_bad bd _ f t pl wy 0 1 false w h hw

set_option maxHeartbeats 1000000 in
theorem tkF4_ok (bd : Nat) (l : List Int) (f t pl n p q : Int) (a : Option Addr) (cap : Nat) (w : World) (h : w.heap[bd]? = some (dcur (.slice a l.length cap) f t pl 0))
    (hR : Reads w (.slice a l.length cap) l) (hB : Byt l) (hlen : l.length ≤ 140737488351232) (hr : fx 4 l f t = (n, p, q)) (hq : q = 0) :
    Calls Try.prog 52 #[.pointer (some ⟨bd, 0, none⟩), .int .i64 0, .bool false, .int .i64 4] w fun en w' => en = .returned (.int .u64 n) ∧ Put bd (dcur (.slice a l.length cap) p t pl 0) w w' := by
  subst hq
  have hp := Put.refl h
  have c0 := cell_of h 0
  have c1 := cell_of h 1
  have c2 := cell_of h 2
  have c4 := cell_of h 4
  have f1 := free_of h 1
  simp at c0 c1 c2 c4
  have HK : ∀ nq, Calls Try.prog 43 #[.slice a l.length cap, .int .i64 f, .int .i64 t, .int .i64 4] (w.drewN nq) fun en w' => en = .returned (.tuple #[.int .u64 n, .int .i64 p, .int .i64 0]) ∧ w' = w.drewN nq := by
    intro nq
    have := fixed4_any (.slice a l.length cap) l f t (w.drewN nq) (DReads hR nq) hB hlen
    rw [hr] at this
    exact this
  clear h hR hB hr
  go_enter Try.func52, Try.ntmps52
  go_wp2_with fail
  go_quiet ((go_at_call 43; exact Calls.quiet_of_same (HK _)))
  clear HK
  go_wp2
  go_ret
  exact ⟨rfl, (hp.setOwn 1 _).drewN _⟩
set_option maxHeartbeats 1000000 in
theorem tkF4_fault (bd : Nat) (l : List Int) (f t pl n p q : Int) (a : Option Addr) (cap : Nat) (w : World) (h : w.heap[bd]? = some (dcur (.slice a l.length cap) f t pl 0))
    (hR : Reads w (.slice a l.length cap) l) (hB : Byt l) (hlen : l.length ≤ 140737488351232) (hr : fx 4 l f t = (n, p, q)) (hq : ¬ q = 0) :
    Calls Try.prog 52 #[.pointer (some ⟨bd, 0, none⟩), .int .i64 0, .bool false, .int .i64 4] w fun en w' => en = .returned (.int .u64 0) ∧ Put bd (dcur (.slice a l.length cap) f t p q) w w' := by
  have hp := Put.refl h
  have hq' : (q != 0) = true := by simpa using hq
  have c0 := cell_of h 0
  have c1 := cell_of h 1
  have c2 := cell_of h 2
  have c4 := cell_of h 4
  simp at c0 c1 c2 c4
  have HK : ∀ nq, Calls Try.prog 43 #[.slice a l.length cap, .int .i64 f, .int .i64 t, .int .i64 4] (w.drewN nq) fun en w' => en = .returned (.tuple #[.int .u64 n, .int .i64 p, .int .i64 q]) ∧ w' = w.drewN nq := by
    intro nq
    have := fixed4_any (.slice a l.length cap) l f t (w.drewN nq) (DReads hR nq) hB hlen
    rw [hr] at this
    exact this
  clear h hR hB hr hq
  go_enter Try.func52, Try.ntmps52
  go_wp2_with fail
  go_quiet ((go_at_call 43; exact Calls.quiet_of_same (HK _)))
  clear HK
  go_wp2_with fail
  refine (dfail_good bd _ f t pl _ _ _ (by exact (hp.drewN _).now)).mono ?_
  rintro en w2 ⟨rfl, hq2⟩
  go_wp2_with fail
  go_ret
  exact ⟨rfl, (hp.drewN _).trans hq2⟩
theorem tkF4_step (bd : Nat) (l : List Int) (f t pl wy : Int) (a : Option Addr) (cap : Nat) (w : World) (h : w.heap[bd]? = some (dcur (.slice a l.length cap) f t pl wy))
    (hR : Reads w (.slice a l.length cap) l) (hB : Byt l) (hlen : l.length ≤ 140737488351232) :
    Calls Try.prog 52 #[.pointer (some ⟨bd, 0, none⟩), .int .i64 0, .bool false, .int .i64 4] w fun en w' => en = .returned (.int .u64 (stepN (fx 4 l f t) f pl wy).1) ∧
      Put bd (dcur (.slice a l.length cap) (stepN (fx 4 l f t) f pl wy).2.1 t (stepN (fx 4 l f t) f pl wy).2.2.1 (stepN (fx 4 l f t) f pl wy).2.2.2) w w' := by
  rcases hr : fx 4 l f t with ⟨n, p, q⟩
  by_cases hw : wy = 0
  · subst hw
    by_cases hq : q = 0
    · have e : stepN (n, p, q) f pl 0 = (n, p, pl, 0) := by simp [stepN, hq]
      rw [e]
      exact tkF4_ok bd l f t pl n p q a cap w h hR hB hlen hr hq
    · have e : stepN (n, p, q) f pl 0 = (0, f, p, q) := by simp [stepN, hq]
      rw [e]
      exact tkF4_fault bd l f t pl n p q a cap w h hR hB hlen hr hq
  · have e : stepN (n, p, q) f pl wy = (0, f, pl, wy) := by simp [stepN, hw]
    rw [e]
    exact tk_bad bd _ f t pl wy 0 4 false w h hw

set_option maxHeartbeats 1000000 in
theorem tkF8_ok (bd : Nat) (l : List Int) (f t pl n p q : Int) (a : Option Addr) (cap : Nat) (w : World) (h : w.heap[bd]? = some (dcur (.slice a l.length cap) f t pl 0))
    (hR : Reads w (.slice a l.length cap) l) (hB : Byt l) (hlen : l.length ≤ 140737488351232) (hr : fx 8 l f t = (n, p, q)) (hq : q = 0) :
    Calls Try.prog 52 #[.pointer (some ⟨bd, 0, none⟩), .int .i64 0, .bool false, .int .i64 8] w fun en w' => en = .returned (.int .u64 n) ∧ Put bd (dcur (.slice a l.length cap) p t pl 0) w w' := by
  subst hq
  have hp := Put.refl h
  have c0 := cell_of h 0
  have c1 := cell_of h 1
  have c2 := cell_of h 2
  have c4 := cell_of h 4
  have f1 := free_of h 1
  simp at c0 c1 c2 c4
  have HK : ∀ nq, Calls Try.prog 43 #[.slice a l.length cap, .int .i64 f, .int .i64 t, .int .i64 8] (w.drewN nq) fun en w' => en = .returned (.tuple #[.int .u64 n, .int .i64 p, .int .i64 0]) ∧ w' = w.drewN nq := by
    intro nq
    have := fixed8_any (.slice a l.length cap) l f t (w.drewN nq) (DReads hR nq) hB hlen
    rw [hr] at this
    exact this
  clear h hR hB hr
  go_enter Try.func52, Try.ntmps52
  go_wp2_with fail
  go_quiet ((go_at_call 43; exact Calls.quiet_of_same (HK _)))
  clear HK
  go_wp2
  go_ret
  exact ⟨rfl, (hp.setOwn 1 _).drewN _⟩
set_option maxHeartbeats 1000000 in
theorem tkF8_fault (bd : Nat) (l : List Int) (f t pl n p q : Int) (a : Option Addr) (cap : Nat) (w : World) (h : w.heap[bd]? = some (dcur (.slice a l.length cap) f t pl 0))
    (hR : Reads w (.slice a l.length cap) l) (hB : Byt l) (hlen : l.length ≤ 140737488351232) (hr : fx 8 l f t = (n, p, q)) (hq : ¬ q = 0) :
    Calls Try.prog 52 #[.pointer (some ⟨bd, 0, none⟩), .int .i64 0, .bool false, .int .i64 8] w fun en w' => en = .returned (.int .u64 0) ∧ Put bd (dcur (.slice a l.length cap) f t p q) w w' := by
  have hp := Put.refl h
  have hq' : (q != 0) = true := by simpa using hq
  have c0 := cell_of h 0
  have c1 := cell_of h 1
  have c2 := cell_of h 2
  have c4 := cell_of h 4
  simp at c0 c1 c2 c4
  have HK : ∀ nq, Calls Try.prog 43 #[.slice a l.length cap, .int .i64 f, .int .i64 t, .int .i64 8] (w.drewN nq) fun en w' => en = .returned (.tuple #[.int .u64 n, .int .i64 p, .int .i64 q]) ∧ w' = w.drewN nq := by
    intro nq
    have := fixed8_any (.slice a l.length cap) l f t (w.drewN nq) (DReads hR nq) hB hlen
    rw [hr] at this
    exact this
  clear h hR hB hr hq
  go_enter Try.func52, Try.ntmps52
  go_wp2_with fail
  go_quiet ((go_at_call 43; exact Calls.quiet_of_same (HK _)))
  clear HK
  go_wp2_with fail
  refine (dfail_good bd _ f t pl _ _ _ (by exact (hp.drewN _).now)).mono ?_
  rintro en w2 ⟨rfl, hq2⟩
  go_wp2_with fail
  go_ret
  exact ⟨rfl, (hp.drewN _).trans hq2⟩
theorem tkF8_step (bd : Nat) (l : List Int) (f t pl wy : Int) (a : Option Addr) (cap : Nat) (w : World) (h : w.heap[bd]? = some (dcur (.slice a l.length cap) f t pl wy))
    (hR : Reads w (.slice a l.length cap) l) (hB : Byt l) (hlen : l.length ≤ 140737488351232) :
    Calls Try.prog 52 #[.pointer (some ⟨bd, 0, none⟩), .int .i64 0, .bool false, .int .i64 8] w fun en w' => en = .returned (.int .u64 (stepN (fx 8 l f t) f pl wy).1) ∧
      Put bd (dcur (.slice a l.length cap) (stepN (fx 8 l f t) f pl wy).2.1 t (stepN (fx 8 l f t) f pl wy).2.2.1 (stepN (fx 8 l f t) f pl wy).2.2.2) w w' := by
  rcases hr : fx 8 l f t with ⟨n, p, q⟩
  by_cases hw : wy = 0
  · subst hw
    by_cases hq : q = 0
    · have e : stepN (n, p, q) f pl 0 = (n, p, pl, 0) := by simp [stepN, hq]
      rw [e]
      exact tkF8_ok bd l f t pl n p q a cap w h hR hB hlen hr hq
    · have e : stepN (n, p, q) f pl 0 = (0, f, p, q) := by simp [stepN, hq]
      rw [e]
      exact tkF8_fault bd l f t pl n p q a cap w h hR hB hlen hr hq
  · have e : stepN (n, p, q) f pl wy = (0, f, pl, wy) := by simp [stepN, hw]
    rw [e]
    exact tk_bad bd _ f t pl wy 0 8 false w h hw

end Go.Proofs.Ytpkccnoipbgnmaa
