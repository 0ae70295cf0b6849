/-
  The walks of both cursors: Bytes (bad, short), Left, Fail, End; no statement is proved here.
-/
import Derived.Test.YtpkccnoipbgnmaaDBytes
namespace Go.Proofs.Ytpkccnoipbgnmaa
open Go.RowKit
set_option linter.unusedVariables false

set_option maxHeartbeats 1000000 in
theorem dbytes_bad (bd : Nat) (v : Value) (f t pl wy n : Int) (w : World) (h : w.heap[bd]? = some (dcur v f t pl wy)) (hw : ¬ wy = 0) :
    Calls Try.prog 29 #[.pointer (some ⟨bd, 0, none⟩), .int .u32 n] w fun en w' => ∃ v', en = .returned v' ∧ Reads w' v' [] ∧ Put bd (dcur v f t pl wy) w w' := by
  have hp := Put.refl h
  have c4 := cell_of h 4
  simp at c4
  have hw' : (wy != 0) = true := by simpa using hw
  clear h hw
  go_enter Try.func29, Try.ntmps29
  go_wp2
  go_ret
  exact ⟨_, rfl, reads_nil _, hp⟩
set_option maxHeartbeats 1000000 in
theorem dbytes_short (bd : Nat) (v : Value) (f t pl n : Int) (w : World) (h : w.heap[bd]? = some (dcur v f t pl 0)) (hf : 0 ≤ f) (hft : f ≤ t) (ht : t ≤ 140737488351232) (hn : 0 ≤ n) (hn' : n ≤ 4294967295) (hs : t - f < n) :
    Calls Try.prog 29 #[.pointer (some ⟨bd, 0, none⟩), .int .u32 n] w fun en w' => ∃ v', en = .returned v' ∧ Reads w' v' [] ∧ Put bd (dcur v f t t 3) w w' := by
  have hp := Put.refl h
  have c1 := cell_of h 1
  have c2 := cell_of h 2
  have c4 := cell_of h 4
  simp at c1 c2 c4
  clear h
  go_enter Try.func29, Try.ntmps29
  go_wp2
  go_quiet (fail)
  go_wp2_with fail
  refine (dfail_good bd v f t pl t 3 _ (by exact (hp.drewN _).now)).mono ?_
  rintro en w1 ⟨rfl, hq⟩
  go_wp2_with fail
  go_ret
  exact ⟨_, rfl, reads_nil _, (hp.drewN _).trans hq⟩
theorem dbytes_step (bd : Nat) (l : List Int) (F T n : Nat) (pl wy : Int) (a : Option Addr) (cap : Nat) (w : World) (h : w.heap[bd]? = some (dcur (.slice a l.length cap) F T pl wy)) (hR : Reads w (.slice a l.length cap) l) (hft : F ≤ T) (ht : T ≤ l.length) (hlen : l.length ≤ 140737488351232) (hn' : n ≤ 4294967295) :
    Calls Try.prog 29 #[.pointer (some ⟨bd, 0, none⟩), .int .u32 n] w fun en w' => ∃ v', en = .returned v' ∧ Reads w' v' (stepB l n F T pl wy).1 ∧
      Put bd (dcur (.slice a l.length cap) (stepB l n F T pl wy).2.1 T (stepB l n F T pl wy).2.2.1 (stepB l n F T pl wy).2.2.2) w w' := by
  by_cases hw : wy = 0
  · subst hw
    by_cases hn : n ≤ T - F
    · have e : stepB l n F T pl 0 = (seg l F (F + n), (F : Int) + n, pl, 0) := by simp [stepB, hn]
      rw [e]
      exact dbytes_good bd l F T n pl a cap w h hR (by omega) ht hlen hn'
    · have e : stepB l n F T pl 0 = ([], (F : Int), (T : Int), 3) := by simp [stepB, hn]
      rw [e]
      exact dbytes_short bd _ F T pl n w h (by omega) (by omega) (by omega) (by omega) (by omega) (by omega)
  · have e : stepB l n F T pl wy = ([], (F : Int), pl, wy) := by simp [stepB, hw]
    rw [e]
    exact dbytes_bad bd _ F T pl wy n w h hw

set_option maxHeartbeats 400000 in
theorem dleft_step (bd : Nat) (v : Value) (f t pl wy : Int) (w : World) (h : w.heap[bd]? = some (dcur v f t pl wy)) (hf : 0 ≤ f) (hft : f ≤ t) (ht : t ≤ 140737488351232) :
    Calls Try.prog 48 #[.pointer (some ⟨bd, 0, none⟩)] w fun en w' => en = .returned (.int .i64 (leftV f t wy)) ∧ ∃ n, w' = w.drewN n := by
  have c1 := cell_of h 1
  have c2 := cell_of h 2
  have c4 := cell_of h 4
  simp at c1 c2 c4
  clear h
  by_cases hw : wy = 0
  · subst hw
    have e : leftV f t 0 = t - f := by simp [leftV]
    rw [e]
    clear e
    go_enter Try.func48, Try.ntmps48
    go_wp2
    go_quiet (fail)
    go_wp2
    go_ret
    exact ⟨rfl, _, rfl⟩
  · have e : leftV f t wy = 0 := by simp [leftV, hw]
    have hw' : (wy != 0) = true := by simpa using hw
    rw [e]
    clear e hw
    go_enter Try.func48, Try.ntmps48
    go_wp2
    go_ret
    exact ⟨rfl, 0, rfl⟩

/- Fail of both cursors. -/
def stepF (at_ e pl wy : Int) : Int × Int := if wy = 0 ∧ ¬ e = 0 then (at_, e) else (pl, wy)
theorem failm_step (bc : Nat) (v : Value) (f t pl wy at_ e : Int) (w : World) (h : w.heap[bc]? = some (ccur v f t pl wy)) :
    Calls Try.prog 32 #[.pointer (some ⟨bc, 0, none⟩), .int .i64 at_, .int .i64 e] w fun en w' => en = .returned (.tuple #[]) ∧ Put bc (ccur v f t (stepF at_ e pl wy).1 (stepF at_ e pl wy).2) w w' := by
  by_cases hw : wy = 0
  · subst hw
    by_cases he : e = 0
    · subst he
      have q : stepF at_ 0 pl 0 = (pl, 0) := by simp [stepF]
      rw [q]
      refine (fail_ok bc v f t pl 0 at_ w h).mono ?_
      rintro en w' ⟨rfl, rfl⟩
      exact ⟨rfl, Put.refl h⟩
    · have q : stepF at_ e pl 0 = (at_, e) := by simp [stepF, he]
      rw [q]
      exact fail_good bc v f t pl at_ e w h he
  · have q : stepF at_ e pl wy = (pl, wy) := by simp [stepF, hw]
    rw [q]
    refine (fail_bad bc v f t pl wy at_ e w h hw).mono ?_
    rintro en w' ⟨rfl, rfl⟩
    exact ⟨rfl, Put.refl h⟩
set_option maxHeartbeats 400000 in
theorem dfailm_step (bd : Nat) (v : Value) (f t pl wy at_ e : Int) (w : World) (h : w.heap[bd]? = some (dcur v f t pl wy)) :
    Calls Try.prog 33 #[.pointer (some ⟨bd, 0, none⟩), .int .i64 at_, .int .i64 e] w fun en w' => en = .returned (.tuple #[]) ∧ Put bd (dcur v f t (stepF at_ e pl wy).1 (stepF at_ e pl wy).2) w w' := by
  have hp := Put.refl h
  by_cases he : e = 0
  · subst he
    have q : stepF at_ 0 pl wy = (pl, wy) := by simp [stepF]
    rw [q]
    clear h q
    go_enter Try.func33, Try.ntmps33
    go_wp2_with fail
    go_end0
    exact ⟨rfl, hp⟩
  · have he' : (e != 0) = true := by simpa using he
    by_cases hw : wy = 0
    · subst hw
      have q : stepF at_ e pl 0 = (at_, e) := by simp [stepF, he]
      rw [q]
      have D := dfail_good bd v f t pl at_ e w h
      clear h q he hp
      go_enter Try.func33, Try.ntmps33
      go_wp2_with fail
      refine D.mono ?_
      rintro en w' ⟨rfl, hq⟩
      clear D
      go_wp2_with fail
      go_end0
      exact ⟨rfl, hq⟩
    · have q : stepF at_ e pl wy = (pl, wy) := by simp [stepF, hw]
      rw [q]
      have D := dfail_bad bd v f t pl wy at_ e w h hw
      clear h q he hw
      go_enter Try.func33, Try.ntmps33
      go_wp2_with fail
      refine D.mono ?_
      rintro en w' ⟨rfl, rfl⟩
      clear D
      go_wp2_with fail
      go_end0
      exact ⟨rfl, hp⟩
set_option maxHeartbeats 400000 in
theorem dend_step (bd : Nat) (v : Value) (f t pl wy : Int) (w : World) (h : w.heap[bd]? = some (dcur v f t pl wy)) :
    Calls Try.prog 35 #[.pointer (some ⟨bd, 0, none⟩)] w fun en w' => en = .returned (.tuple #[]) ∧ Put bd (dcur v f t (stepE f t pl wy).1 (stepE f t pl wy).2) w w' := by
  have hp := Put.refl h
  have c1 := cell_of h 1
  have c2 := cell_of h 2
  have c4 := cell_of h 4
  simp at c1 c2 c4
  by_cases hw : wy = 0
  · subst hw
    by_cases hlt : f < t
    · have e : stepE f t pl 0 = (f, 9) := by simp [stepE, hlt]
      have hd : decide (f < t) = true := by simpa using hlt
      rw [e]
      clear h e
      go_enter Try.func35, Try.ntmps35
      go_wp2_with fail
      go_quiet (fail)
      go_wp2_with fail
      refine (dfail_good bd v f t pl f 9 _ (by exact (hp.drewN _).now)).mono ?_
      rintro en w' ⟨rfl, hq⟩
      go_wp2_with fail
      go_end0
      exact ⟨rfl, (hp.drewN _).trans hq⟩
    · have e : stepE f t pl 0 = (pl, 0) := by simp [stepE, hlt]
      have hd : decide (f < t) = false := by simpa using hlt
      rw [e]
      clear h e hlt
      go_enter Try.func35, Try.ntmps35
      go_wp2_with fail
      go_quiet (fail)
      go_wp2_with fail
      go_end0
      exact ⟨rfl, hp.drewN _⟩
  · have e : stepE f t pl wy = (pl, wy) := by simp [stepE, hw]
    have hw' : (wy == 0) = false := by simpa using hw
    rw [e]
    clear h e hw
    go_enter Try.func35, Try.ntmps35
    go_wp2_with fail
    go_quiet (fail)
    go_wp2_with fail
    go_end0
    exact ⟨rfl, hp.drewN _⟩
end Go.Proofs.Ytpkccnoipbgnmaa
