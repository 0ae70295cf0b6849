/-
  Two cursors that agree: told, Bytes, Within, Fail and End leave them agreeing; no statement is proved here.
-/
import Derived.Test.YtpkccnoipbgnmaaTold
import Derived.Test.YtpkccnoipbgnmaaTwo
namespace Go.Proofs.Ytpkccnoipbgnmaa
open Go.RowKit
set_option linter.unusedVariables false

theorem told_any {B : Nat} {w0 w : World} {bc bd : Nat} {vb vB : Value} {l : List Int} {F T : Nat} {pl wy : Int} (h : Two B w0 w bc bd vb vB l F T pl wy) (hlen : l.length ≤ 140737488351232) :
    Calls Try.prog 26 #[.pointer (some ⟨bc, 0, none⟩), .pointer (some ⟨bd, 0, none⟩)] w fun en w' => en = .returned (.bool true) ∧ Below w.heap.size w w' := by
  obtain ⟨ab, cb, rfl⟩ := h.own.form
  obtain ⟨aB, cB, rfl⟩ := h.reads.len
  by_cases hw : wy = 0
  · subst hw
    by_cases hlt : F < T
    · exact told_yes bc bd l F T pl ab aB cb cB w h.c h.d h.own h.reads hlt h.tl hlen
    · exact told_no bc bd l F T pl 0 ab aB cb cB w h.c h.d h.ft h.tl hlen (by have := h.ft; simp [leftV]; omega)
  · exact told_no bc bd l F T pl wy ab aB cb cB w h.c h.d h.ft h.tl hlen (by simp [leftV, hw])

theorem stepB_place {l : List Int} {n F T : Nat} {pl wy : Int} (h : F ≤ T) : ∃ k : Nat, (stepB l n F T pl wy).2.1 = k ∧ k ≤ T := by
  unfold stepB
  split
  · split
    · exact ⟨F + n, by simp, by omega⟩
    · exact ⟨F, rfl, h⟩
  · exact ⟨F, rfl, h⟩

/- Within: the cursor behind it, and the one within. -/
def stepW (n F T : Nat) (pl wy : Int) : (Nat × Int × Int) × (Nat × Int × Int) :=
  if wy = 0 then (if n ≤ T - F then ((F + n, pl, 0), (F + n, 0, 0)) else ((F, (T : Int), 3), (T, (T : Int), 3))) else ((F, pl, wy), (T, pl, wy))
theorem within_step (bc : Nat) (l : List Int) (F T n : Nat) (pl wy : Int) (a : Option Addr) (len cap : Nat) (w : World) (h : w.heap[bc]? = some (ccur (.slice a len cap) F T pl wy)) (hft : F ≤ T) (ht : T ≤ 140737488351232) (hn' : n ≤ 4294967295) :
    Calls Try.prog 30 #[.pointer (some ⟨bc, 0, none⟩), .int .u32 n] w fun en w' => ∃ b', en = .returned (.pointer (some ⟨b', 0, none⟩)) ∧ w.heap.size ≤ b' ∧ w'.heap[b']? = some (ccur (.slice a len cap) F (stepW n F T pl wy).2.1 (stepW n F T pl wy).2.2.1 (stepW n F T pl wy).2.2.2) ∧
      Put bc (ccur (.slice a len cap) (stepW n F T pl wy).1.1 T (stepW n F T pl wy).1.2.1 (stepW n F T pl wy).1.2.2) w w' := by
  by_cases hw : wy = 0
  · subst hw
    by_cases hn : n ≤ T - F
    · have e : stepW n F T pl 0 = ((F + n, pl, 0), (F + n, 0, 0)) := by simp [stepW, hn]
      rw [e]
      have := within_good bc F T pl n a len cap w h (by omega) (by omega) (by omega) (by omega) (by omega) (by omega)
      simpa using this
    · have e : stepW n F T pl 0 = ((F, (T : Int), 3), (T, (T : Int), 3)) := by simp [stepW, hn]
      rw [e]
      exact within_short bc F T pl n a len cap w h (by omega) (by omega) (by omega) (by omega) (by omega) (by omega)
  · have e : stepW n F T pl wy = ((F, pl, wy), (T, pl, wy)) := by simp [stepW, hw]
    rw [e]
    exact within_bad bc F T pl wy n a len cap w h hw
theorem dwithin_step (bc : Nat) (l : List Int) (F T n : Nat) (pl wy : Int) (a : Option Addr) (len cap : Nat) (w : World) (h : w.heap[bc]? = some (dcur (.slice a len cap) F T pl wy)) (hft : F ≤ T) (ht : T ≤ 140737488351232) (hn' : n ≤ 4294967295) :
    Calls Try.prog 31 #[.pointer (some ⟨bc, 0, none⟩), .int .u32 n] w fun en w' => ∃ b', en = .returned (.pointer (some ⟨b', 0, none⟩)) ∧ w.heap.size ≤ b' ∧ w'.heap[b']? = some (dcur (.slice a len cap) F (stepW n F T pl wy).2.1 (stepW n F T pl wy).2.2.1 (stepW n F T pl wy).2.2.2) ∧
      Put bc (dcur (.slice a len cap) (stepW n F T pl wy).1.1 T (stepW n F T pl wy).1.2.1 (stepW n F T pl wy).1.2.2) w w' := by
  by_cases hw : wy = 0
  · subst hw
    by_cases hn : n ≤ T - F
    · have e : stepW n F T pl 0 = ((F + n, pl, 0), (F + n, 0, 0)) := by simp [stepW, hn]
      rw [e]
      have := dwithin_good bc F T pl n a len cap w h (by omega) (by omega) (by omega) (by omega) (by omega) (by omega)
      simpa using this
    · have e : stepW n F T pl 0 = ((F, (T : Int), 3), (T, (T : Int), 3)) := by simp [stepW, hn]
      rw [e]
      exact dwithin_short bc F T pl n a len cap w h (by omega) (by omega) (by omega) (by omega) (by omega) (by omega)
  · have e : stepW n F T pl wy = ((F, pl, wy), (T, pl, wy)) := by simp [stepW, hw]
    rw [e]
    exact dwithin_bad bc F T pl wy n a len cap w h hw
theorem stepW_in {n F T : Nat} {pl wy : Int} (h : F ≤ T) : F ≤ (stepW n F T pl wy).1.1 ∧ (stepW n F T pl wy).1.1 ≤ T ∧ F ≤ (stepW n F T pl wy).2.1 ∧ (stepW n F T pl wy).2.1 ≤ T := by
  unfold stepW
  split
  · split <;> simp <;> omega
  · simp; omega
end Go.Proofs.Ytpkccnoipbgnmaa
