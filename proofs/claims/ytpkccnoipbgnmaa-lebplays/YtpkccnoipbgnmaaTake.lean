/-
  The walks of the cursor's inner methods: Fail, left, holds, cut, isGood, isMade, take; no statement is proved here.
-/
import Derived.Test.YtpkccnoipbgnmaaCur
namespace Go.Proofs.Ytpkccnoipbgnmaa
open Go.RowKit
set_option linter.unusedVariables false
set_option maxHeartbeats 400000 in
theorem fail_good (bc : Nat) (vb : Value) (f t pl at_ e : Int) (w : World) (h : w.heap[bc]? = some (ccur vb f t pl 0)) (he : ¬ e = 0) :
    Calls Try.prog 32 #[.pointer (some ⟨bc, 0, none⟩), .int .i64 at_, .int .i64 e] w fun en w' => en = .returned (.tuple #[]) ∧ Put bc (ccur vb f t at_ e) w w' := by
  have hp := Put.refl h
  have c3 := cell_of h 3
  have c4 := cell_of h 4
  have c5 := cell_of h 5
  have f4 := free_of h 4
  have f5 := free_of h 5
  simp at c3 c4 c5
  have he' : (e != 0) = true := by simpa using he
  clear he h
  go_enter Try.func32, Try.ntmps32
  go_wp2
  go_end0
  exact ⟨rfl, (hp.setOwn 4 _).setOwn 5 _⟩
set_option maxHeartbeats 400000 in
theorem fail_bad (bc : Nat) (vb : Value) (f t pl wy at_ e : Int) (w : World) (h : w.heap[bc]? = some (ccur vb f t pl wy)) (hw : ¬ wy = 0) :
    Calls Try.prog 32 #[.pointer (some ⟨bc, 0, none⟩), .int .i64 at_, .int .i64 e] w fun en w' => en = .returned (.tuple #[]) ∧ w' = w := by
  have c3 := cell_of h 3
  have c5 := cell_of h 5
  simp at c3 c5
  have hw' : (wy == 0) = false := by simpa using hw
  clear hw h
  go_enter Try.func32, Try.ntmps32
  go_wp2
  go_end0
  exact ⟨rfl, rfl⟩
set_option maxHeartbeats 400000 in
theorem fail_ok (bc : Nat) (vb : Value) (f t pl wy at_ : Int) (w : World) (h : w.heap[bc]? = some (ccur vb f t pl wy)) :
    Calls Try.prog 32 #[.pointer (some ⟨bc, 0, none⟩), .int .i64 at_, .int .i64 0] w fun en w' => en = .returned (.tuple #[]) ∧ w' = w := by
  by_cases hw : wy = 0
  · subst hw
    have c3 := cell_of h 3
    have c5 := cell_of h 5
    simp at c3 c5
    clear h
    go_enter Try.func32, Try.ntmps32
    go_wp2
    go_end0
    exact ⟨rfl, rfl⟩
  · exact fail_bad bc vb f t pl wy at_ 0 w h hw
set_option maxHeartbeats 400000 in
theorem left_any (bc : Nat) (cs : Array Value) (ty : TypeId) (f t : Int) (w : World) (h : w.heap[bc]? = some (.cells cs ty (0, 0))) (h1 : cs[1]? = some (.int .i64 f)) (h2 : cs[2]? = some (.int .i64 t))
    (hf : 0 ≤ f) (hft : f ≤ t) (ht : t ≤ 140737488351232) :
    Calls Try.prog 70 #[.pointer (some ⟨bc, 0, none⟩)] w fun en w' => en = .returned (.int .i64 (t - f)) ∧ ∃ n, w' = w.drewN n := by
  have c1 := (cell_of h 1).trans h1
  have c2 := (cell_of h 2).trans h2
  clear h h1 h2
  go_enter Try.func70, Try.ntmps70
  go_wp2
  go_quiet (fail)
  go_wp2
  go_ret
  exact ⟨rfl, _, rfl⟩
set_option maxHeartbeats 400000 in
theorem holds_any (bc : Nat) (cs : Array Value) (ty : TypeId) (f t n : Int) (w : World) (h : w.heap[bc]? = some (.cells cs ty (0, 0))) (h1 : cs[1]? = some (.int .i64 f)) (h2 : cs[2]? = some (.int .i64 t))
    (hf : 0 ≤ f) (hft : f ≤ t) (ht : t ≤ 140737488351232) (hn : 0 ≤ n) (hn' : n ≤ 4294967295) :
    Calls Try.prog 75 #[.pointer (some ⟨bc, 0, none⟩), .int .u32 n] w fun en w' => en = .returned (.bool (decide (n ≤ t - f))) ∧ ∃ n, w' = w.drewN n := by
  have c := left_any bc cs ty f t w h h1 h2 hf hft ht
  clear h h1 h2
  go_enter Try.func75, Try.ntmps75
  go_wp2_with fail
  refine c.mono ?_
  rintro en w' ⟨rfl, k, rfl⟩
  clear c
  go_wp2
  go_ret
  exact ⟨rfl, _, rfl⟩
set_option maxHeartbeats 1000000 in
theorem cut_any (bc : Nat) (f t pl n : Int) (a : Option Addr) (len cap : Nat) (w : World) (h : w.heap[bc]? = some (ccur (.slice a len cap) f t pl 0))
    (hf : 0 ≤ f) (hn : 0 ≤ n) (hnt : f + n ≤ t) (ht : t ≤ 140737488351232) :
    Calls Try.prog 76 #[.pointer (some ⟨bc, 0, none⟩), .int .i64 n] w fun en w' => en = .returned (.agg #[.slice a len cap, .int .i64 f, .int .i64 (f + n)]) ∧ Put bc (ccur (.slice a len cap) (f + n) t pl 0) w w' := by
  have hp := Put.refl h
  have hlt := lt_of_obj h
  have c0 := cell_of h 0
  have c1 := cell_of h 1
  have f1 := free_of h 1
  simp at c0 c1
  clear h
  go_enter Try.func76, Try.ntmps76
  go_wp2
  go_region
  go_wp2
  refine bodyPost_ret (v := .agg #[.slice a len cap, .int .i64 f, .int .i64 (f + n)]) (by simp [results, Try.results76, go_sem]) rfl ⟨rfl, (((hp.setOwn 1 _).alloc _).alloc _).drew⟩

set_option maxHeartbeats 400000 in
theorem isGood_yes (bc : Nat) (vb : Value) (f t pl : Int) (w : World) (h : w.heap[bc]? = some (ccur vb f t pl 0)) :
    Calls Try.prog 64 #[.pointer (some ⟨bc, 0, none⟩)] w fun en w' => en = .returned (.bool true) ∧ w' = w := by
  have c3 := cell_of h 3
  have c5 := cell_of h 5
  simp at c3 c5
  clear h
  go_enter Try.func64, Try.ntmps64
  go_wp2
  go_ret
  exact ⟨rfl, rfl⟩
set_option maxHeartbeats 400000 in
theorem isGood_no (bc : Nat) (vb : Value) (f t pl wy : Int) (w : World) (h : w.heap[bc]? = some (ccur vb f t pl wy)) (hw : ¬ wy = 0) :
    Calls Try.prog 64 #[.pointer (some ⟨bc, 0, none⟩)] w fun en w' => en = .returned (.bool false) ∧ w' = w := by
  have c3 := cell_of h 3
  have c5 := cell_of h 5
  simp at c3 c5
  have hw' : (wy == 0) = false := by simpa using hw
  clear h hw
  go_enter Try.func64, Try.ntmps64
  go_wp2
  go_ret
  exact ⟨rfl, rfl⟩
set_option maxHeartbeats 400000 in
theorem isMade_yes (bc : Nat) (vb : Value) (f t pl wy : Int) (w : World) (h : w.heap[bc]? = some (ccur vb f t pl wy)) :
    Calls Try.prog 63 #[.pointer (some ⟨bc, 0, none⟩)] w fun en w' => en = .returned (.bool true) ∧ w' = w := by
  have c3 := cell_of h 3
  simp at c3
  clear h
  go_enter Try.func63, Try.ntmps63
  go_wp2
  go_ret
  exact ⟨rfl, rfl⟩

theorem new_obj (w : World) (o : Obj) : (w.alloc o).heap[w.heap.size]? = some o := by
  show (w.heap.push o)[w.heap.size]? = _
  simp
/- take: a bad cursor; too few bytes; enough. -/
set_option maxHeartbeats 1000000 in
theorem take_bad (bc : Nat) (vb : Value) (f t pl wy n : Int) (w : World) (h : w.heap[bc]? = some (ccur vb f t pl wy)) (hw : ¬ wy = 0) :
    Calls Try.prog 60 #[.pointer (some ⟨bc, 0, none⟩), .int .u32 n] w fun en w' => en = .returned (.tuple #[.agg #[.slice none 0 0, .int .i64 0, .int .i64 0], .bool false]) ∧ Put bc (ccur vb f t pl wy) w w' := by
  have hp := Put.refl h
  have hlt := lt_of_obj h
  have c3 := cell_of h 3
  have c5 := cell_of h 5
  simp at c3 c5
  have hw' : (wy == 0) = false := by simpa using hw
  clear h hw
  go_enter Try.func60, Try.ntmps60
  go_wp2
  refine bodyPost_ret (v := .tuple #[.agg #[.slice none 0 0, .int .i64 0, .int .i64 0], .bool false]) (by simp [results, Try.results60, go_sem]) rfl ⟨rfl, hp.alloc _⟩
set_option maxHeartbeats 1000000 in
theorem take_short (bc : Nat) (vb : Value) (f t pl n : Int) (w : World) (h : w.heap[bc]? = some (ccur vb f t pl 0)) (hf : 0 ≤ f) (hft : f ≤ t) (ht : t ≤ 140737488351232) (hn : 0 ≤ n) (hn' : n ≤ 4294967295) (hs : t - f < n) :
    Calls Try.prog 60 #[.pointer (some ⟨bc, 0, none⟩), .int .u32 n] w fun en w' => en = .returned (.tuple #[.agg #[.slice none 0 0, .int .i64 0, .int .i64 0], .bool false]) ∧ Put bc (ccur vb f t t 3) w w' := by
  have hp := Put.refl h
  have hlt := lt_of_obj h
  have c2 := cell_of h 2
  have c3 := cell_of h 3
  have c5 := cell_of h 5
  simp at c2 c3 c5
  have hd : decide (n ≤ t - f) = false := decide_eq_false (by omega)
  clear h
  go_enter Try.func60, Try.ntmps60
  go_wp2_with fail
  refine (isGood_yes bc vb f t pl _ (by exact (hp.alloc _).now)).mono ?_
  rintro en w1 ⟨rfl, rfl⟩
  go_wp2_with fail
  refine (holds_any bc _ 72 f t n _ (by exact (hp.alloc _).now) rfl rfl hf hft ht hn hn').mono ?_
  rintro en w1 ⟨rfl, k, rfl⟩
  go_wp2_with fail
  refine (fail_good bc vb f t pl t 3 _ (by exact ((hp.alloc _).drewN _).now) (by omega)).mono ?_
  rintro en w1 ⟨rfl, hq⟩
  have hr := hq.other (b := w.heap.size) (o' := .cells #[.slice none 0 0, .int .i64 0, .int .i64 0] 70 (0, 0)) (new_obj w _) (by omega)
  have r0 := cell_of hr 0
  have r1 := cell_of hr 1
  have r2 := cell_of hr 2
  have z0 := free_of hr 0
  have z1 := free_of hr 1
  have z2 := free_of hr 2
  simp at r0 r1 r2
  have HQ : Hid (Put bc (ccur vb f t t 3) w w1) := (((hp.alloc _).drewN k).trans hq)
  clear hr hq hp c2 c3 c5 hd
  go_wp2_with fail
  refine bodyPost_ret (v := .tuple #[.agg #[.slice none 0 0, .int .i64 0, .int .i64 0], .bool false]) (by simp [results, Try.results60, go_sem, r0, r1, r2]) rfl ⟨rfl, ?_⟩
  exact ((HQ.out.setNew (Nat.le_refl _) _).setNew (Nat.le_refl _) _).setNew (Nat.le_refl _) _
set_option maxHeartbeats 1000000 in
theorem take_good (bc : Nat) (f t pl n : Int) (a : Option Addr) (len cap : Nat) (w : World) (h : w.heap[bc]? = some (ccur (.slice a len cap) f t pl 0)) (hf : 0 ≤ f) (hft : f ≤ t) (ht : t ≤ 140737488351232) (hn : 0 ≤ n) (hn' : n ≤ 4294967295) (hs : n ≤ t - f) :
    Calls Try.prog 60 #[.pointer (some ⟨bc, 0, none⟩), .int .u32 n] w fun en w' => en = .returned (.tuple #[.agg #[.slice a len cap, .int .i64 f, .int .i64 (f + n)], .bool true]) ∧ Put bc (ccur (.slice a len cap) (f + n) t pl 0) w w' := by
  have hp := Put.refl h
  have hlt := lt_of_obj h
  have hd : decide (n ≤ t - f) = true := decide_eq_true (by omega)
  clear h
  go_enter Try.func60, Try.ntmps60
  go_wp2_with fail
  refine (isGood_yes bc (.slice a len cap) f t pl _ (by exact (hp.alloc _).now)).mono ?_
  rintro en w1 ⟨rfl, rfl⟩
  go_wp2_with fail
  refine (holds_any bc _ 72 f t n _ (by exact (hp.alloc _).now) rfl rfl hf hft ht hn hn').mono ?_
  rintro en w1 ⟨rfl, k, rfl⟩
  go_wp2_with fail
  refine (cut_any bc f t pl n a len cap _ (by exact ((hp.alloc _).drewN _).now) hf hn (by omega) ht).mono ?_
  rintro en w1 ⟨rfl, hq⟩
  have hr := hq.other (b := w.heap.size) (o' := .cells #[.slice none 0 0, .int .i64 0, .int .i64 0] 70 (0, 0)) (new_obj w _) (by omega)
  have r0 := cell_of hr 0
  have r1 := cell_of hr 1
  have r2 := cell_of hr 2
  have z0 := free_of hr 0
  have z1 := free_of hr 1
  have z2 := free_of hr 2
  simp at r0 r1 r2
  have HQ : Hid (Put bc (ccur (.slice a len cap) (f + n) t pl 0) w w1) := (((hp.alloc _).drewN k).trans hq)
  clear hr hq hp hd
  go_wp2_with fail
  refine bodyPost_ret (v := .tuple #[.agg #[.slice a len cap, .int .i64 f, .int .i64 (f + n)], .bool true]) (by simp [results, Try.results60, go_sem, r0, r1, r2]) rfl ⟨rfl, ?_⟩
  exact ((HQ.out.setNew (Nat.le_refl _) _).setNew (Nat.le_refl _) _).setNew (Nat.le_refl _) _
end Go.Proofs.Ytpkccnoipbgnmaa
