/-
  The walks of the cursor's Left, At, Err, Peek and End; no statement is proved here.
-/
import Derived.Test.YtpkccnoipbgnmaaBytes
namespace Go.Proofs.Ytpkccnoipbgnmaa
open Go.RowKit
set_option linter.unusedVariables false

def leftV (f t wy : Int) : Int := if wy = 0 then t - f else 0
set_option maxHeartbeats 400000 in
theorem leftm_step (bc : Nat) (v : Value) (f t pl wy : Int) (w : World) (h : w.heap[bc]? = some (ccur v f t pl wy)) (hf : 0 ≤ f) (hft : f ≤ t) (ht : t ≤ 140737488351232) :
    Calls Try.prog 50 #[.pointer (some ⟨bc, 0, none⟩)] w fun en w' => en = .returned (.int .i64 (leftV f t wy)) ∧ ∃ n, w' = w.drewN n := by
  by_cases hw : wy = 0
  · subst hw
    have e : leftV f t 0 = t - f := by simp [leftV]
    rw [e]
    have G := isGood_yes bc v f t pl w h
    have L := left_any bc _ 72 f t w h rfl rfl hf hft ht
    clear h e
    go_enter Try.func50, Try.ntmps50
    go_wp2_with fail
    refine G.mono ?_
    rintro en w1 ⟨rfl, rfl⟩
    go_wp2_with fail
    refine L.mono ?_
    rintro en w1 ⟨rfl, k, rfl⟩
    clear G L
    go_wp2_with fail
    go_ret
    exact ⟨rfl, _, rfl⟩
  · have e : leftV f t wy = 0 := by simp [leftV, hw]
    rw [e]
    have G := isGood_no bc v f t pl wy w h hw
    clear h e hw
    go_enter Try.func50, Try.ntmps50
    go_wp2_with fail
    refine G.mono ?_
    rintro en w1 ⟨rfl, rfl⟩
    clear G
    go_wp2_with fail
    go_ret
    exact ⟨rfl, 0, rfl⟩
set_option maxHeartbeats 400000 in
theorem atm_step (bc : Nat) (v : Value) (f t pl wy : Int) (w : World) (h : w.heap[bc]? = some (ccur v f t pl wy)) :
    Calls Try.prog 49 #[.pointer (some ⟨bc, 0, none⟩)] w fun en w' => en = .returned (.int .i64 f) ∧ w' = w := by
  have G := isMade_yes bc v f t pl wy w h
  have c1 := cell_of h 1
  simp at c1
  clear h
  go_enter Try.func49, Try.ntmps49
  go_wp2_with fail
  refine G.mono ?_
  rintro en w1 ⟨rfl, rfl⟩
  clear G
  go_wp2_with fail
  go_ret
  exact ⟨rfl, rfl⟩
set_option maxHeartbeats 400000 in
theorem errm_step (bc : Nat) (v : Value) (f t pl wy : Int) (w : World) (h : w.heap[bc]? = some (ccur v f t pl wy)) :
    Calls Try.prog 46 #[.pointer (some ⟨bc, 0, none⟩)] w fun en w' => en = .returned (.tuple #[.int .i64 pl, .int .i64 wy]) ∧ ∃ n, w' = w.drewN n := by
  have G := isMade_yes bc v f t pl wy w h
  have c4 := cell_of h 4
  have c5 := cell_of h 5
  simp at c4 c5
  clear h
  go_enter Try.func46, Try.ntmps46
  go_wp2_with fail
  refine G.mono ?_
  rintro en w1 ⟨rfl, rfl⟩
  clear G
  go_wp2_with fail
  go_quiet (fail)
  go_wp2_with fail
  go_ret2
  exact ⟨rfl, _, rfl⟩
set_option maxHeartbeats 400000 in
theorem peek_no (bc : Nat) (v : Value) (f t pl wy : Int) (w : World) (h : w.heap[bc]? = some (ccur v f t pl wy)) (hf : 0 ≤ f) (hft : f ≤ t) (ht : t ≤ 140737488351232) (hl : leftV f t wy = 0) :
    Calls Try.prog 47 #[.pointer (some ⟨bc, 0, none⟩)] w fun en w' => en = .returned (.tuple #[.int .u8 0, .bool false]) ∧ ∃ n, w' = w.drewN n := by
  have L := leftm_step bc v f t pl wy w h hf hft ht
  rw [hl] at L
  clear h hl
  go_enter Try.func47, Try.ntmps47
  go_wp2_with fail
  refine L.mono ?_
  rintro en w1 ⟨rfl, k, rfl⟩
  clear L
  go_wp2_with fail
  go_ret2
  exact ⟨rfl, _, rfl⟩
set_option maxHeartbeats 1000000 in
theorem peek_yes (bc : Nat) (l : List Int) (v : Value) (F T : Nat) (pl : Int) (w : World) (h : w.heap[bc]? = some (ccur v F T pl 0)) (hO : OwnB w v l) (hft : F < T) (ht : T ≤ l.length) (hlen : l.length ≤ 140737488351232) :
    Calls Try.prog 47 #[.pointer (some ⟨bc, 0, none⟩)] w fun en w' => en = .returned (.tuple #[.int .u8 (l.getD F 0), .bool true]) ∧ ∃ n, w' = w.drewN n := by
  have L := leftm_step bc v F T pl 0 w h (by omega) (by omega) (by omega)
  have e : leftV F T 0 = (T : Int) - F := by simp [leftV]
  rw [e] at L
  have hz : ((T : Int) - (F : Int) == 0) = false := beq_eq_false_iff_ne.2 (by omega)
  have RS := fun k => rest_any bc F T l v _ 72 (w.drewN k) h rfl rfl rfl (by omega) ht (hO.below (Below.drewN' w k))
  have hl0 := seg_len (l := l) (F := F) (T := T) (by omega) ht
  have hg0 := seg_getD (l := l) (F := F) (T := T) (j := 0) (by omega)
  clear h hO e
  go_enter Try.func47, Try.ntmps47
  go_wp2_with fail
  refine L.mono ?_
  rintro en w1 ⟨rfl, k, rfl⟩
  clear L
  have R1 := RS k
  clear RS
  go_wp2_with fail
  refine R1.mono ?_
  rintro en w2 ⟨v2, rfl, hR2, k2, rfl⟩
  clear R1
  obtain ⟨a2, c2, rfl, h1, h2, h3, h4⟩ := hR2
  rcases h4 with h4 | ⟨b, off, rfl, hc⟩
  · rw [h4] at hl0; simp at hl0; omega
  · have hc0 := hc 0 (by omega)
    rw [hg0, Nat.add_zero] at hc0
    have hc1 : w.cell? ⟨b, off, none⟩ = some (.int .u8 (l.getD F 0)) := hc0
    clear hc0
    have hlt : 0 < (seg l F T).length := by omega
    clear hc h3 hl0 hg0 h1
    obtain ⟨c, hcc⟩ : ∃ c, c = l.getD F 0 := ⟨_, rfl⟩
    rw [← hcc] at hc1
    have HC : Hid (c = l.getD F 0) := hcc
    clear hcc
    go_wp2_with fail
    go_ret2
    exact ⟨by rw [← HC.out]; rfl, _, rfl⟩

/- End: bytes are left: the fault 9 at the place. -/
def stepE (f t pl wy : Int) : Int × Int := if wy = 0 ∧ f < t then (f, 9) else (pl, wy)
set_option maxHeartbeats 400000 in
theorem endm_step (bc : Nat) (v : Value) (f t pl wy : Int) (w : World) (h : w.heap[bc]? = some (ccur v f t pl wy)) (hf : 0 ≤ f) (hft : f ≤ t) (ht : t ≤ 140737488351232) :
    Calls Try.prog 34 #[.pointer (some ⟨bc, 0, none⟩)] w fun en w' => en = .returned (.tuple #[]) ∧ Put bc (ccur v f t (stepE f t pl wy).1 (stepE f t pl wy).2) w w' := by
  have L := leftm_step bc v f t pl wy w h hf hft ht
  have hp := Put.refl h
  by_cases hg : wy = 0 ∧ f < t
  · obtain ⟨rfl, hlt⟩ := hg
    have e : stepE f t pl 0 = (f, 9) := by simp [stepE, hlt]
    have e2 : leftV f t 0 = t - f := by simp [leftV]
    rw [e]
    rw [e2] at L
    have c1 := cell_of h 1
    simp at c1
    have q : (0 : Int) < t - f := by omega
    clear h e e2
    go_enter Try.func34, Try.ntmps34
    go_wp2_with fail
    refine L.mono ?_
    rintro en w1 ⟨rfl, k, rfl⟩
    clear L
    go_wp2_with fail
    refine (fail_good bc v f t pl f 9 _ (by exact (hp.drewN _).now) (by omega)).mono ?_
    rintro en w1 ⟨rfl, hq⟩
    go_wp2_with fail
    go_end0
    exact ⟨rfl, (hp.drewN _).trans hq⟩
  · have e : stepE f t pl wy = (pl, wy) := by simp only [stepE, if_neg hg]
    have e2 : leftV f t wy = 0 := by
      unfold leftV
      by_cases hw : wy = 0
      · rw [if_pos hw]; omega
      · rw [if_neg hw]
    rw [e]
    rw [e2] at L
    clear h e e2 hg
    go_enter Try.func34, Try.ntmps34
    go_wp2_with fail
    refine L.mono ?_
    rintro en w1 ⟨rfl, k, rfl⟩
    clear L
    go_wp2_with fail
    go_end0
    exact ⟨rfl, hp.drewN _⟩
end Go.Proofs.Ytpkccnoipbgnmaa
