/-
  The walk of the statements' told: what both cursors tell of themselves agrees; no statement is proved here.
-/
import Derived.Test.YtpkccnoipbgnmaaWith
import Derived.Test.YtpkccnoipbgnmaaDWith
namespace Go.Proofs.Ytpkccnoipbgnmaa
open Go.RowKit
set_option linter.unusedVariables false

theorem drewNN {B : Nat} {a w : World} (h : Below B a w) (n : Nat) : Below B a (w.drewN n) := ⟨h.os, h.tape, h.output, h.size, h.block⟩
theorem q_same {f : FuncId} {args : Array Value} {w : World} {M x : Nat} {v : Value} (h : ∀ k, Calls Try.prog f args (w.drewN k) fun e w' => e = .returned v ∧ w' = w.drewN k) :
    Calls Try.prog f args (w.drewN (M + x)) fun e w'' => e = .returned v ∧ ∃ n, w'' = w.drewN (M + n) := (h (M + x)).mono fun _ _ ⟨he, hm⟩ => ⟨he, x, hm⟩
theorem q_drew {f : FuncId} {args : Array Value} {w : World} {M x : Nat} {v : Value} (h : ∀ k, Calls Try.prog f args (w.drewN k) fun e w' => e = .returned v ∧ ∃ n, w' = (w.drewN k).drewN n) :
    Calls Try.prog f args (w.drewN (M + x)) fun e w'' => e = .returned v ∧ ∃ n, w'' = w.drewN (M + n) :=
  (h (M + x)).mono fun _ _ ⟨he, n, hm⟩ => ⟨he, x + n, by rw [hm, World.drewN_drewN, Nat.add_assoc]⟩
set_option maxRecDepth 100000 in
set_option maxHeartbeats 4000000 in
theorem told_yes (bc bd : Nat) (l : List Int) (F T : Nat) (pl : Int) (ab aB : Option Addr) (cb cB : Nat) (w : World)
    (h : w.heap[bc]? = some (ccur (.slice ab l.length cb) F T pl 0)) (hd : w.heap[bd]? = some (dcur (.slice aB l.length cB) F T pl 0))
    (hO : OwnB w (.slice ab l.length cb) l) (hR : Reads w (.slice aB l.length cB) l) (hft : F < T) (ht : T ≤ l.length) (hlen : l.length ≤ 140737488351232) :
    Calls Try.prog 26 #[.pointer (some ⟨bc, 0, none⟩), .pointer (some ⟨bd, 0, none⟩)] w fun en w' => en = .returned (.bool true) ∧ Below w.heap.size w w' := by
  have E := errm_step bc _ F T pl 0 w h
  have PK := fun k => peek_yes bc l _ F T pl (w.drewN k) h (hO.below (Below.drewN' w k)) hft ht hlen
  have A := fun k => atm_step bc _ F T pl 0 (w.drewN k) h
  have e : leftV F T 0 = (T : Int) - F := by simp [leftV]
  have L := fun k => leftm_step bc _ F T pl 0 (w.drewN k) h (by omega) (by omega) (by omega)
  have D := fun k => dleft_step bd _ F T pl 0 (w.drewN k) hd (by omega) (by omega) (by omega)
  rw [e] at L D
  obtain ⟨a', cap', hv, _, _, _, hor⟩ := hR
  rcases hor with hnil | ⟨b, off, ha, hcell⟩
  · rw [hnil] at ht; simp at ht; omega
  · injection hv with hva _ hvc
    subst hva; subst hvc; subst ha
    have hc1 := hcell F (by omega)
    have d0 := cell_of hd 0
    have d1 := cell_of hd 1
    have d3 := cell_of hd 3
    have d4 := cell_of hd 4
    simp at d0 d1 d3 d4
    obtain ⟨c, hcc⟩ : ∃ c, c = l.getD F 0 := ⟨_, rfl⟩
    rw [← hcc] at hc1
    simp only [← hcc] at PK
    have q1 : (0 : Int) ≤ (F : Int) := by omega
    have q2 : (F : Int) < (l.length : Int) := by omega
    have q3 : (0 : Int) < (T : Int) - (F : Int) := by omega
    clear hcell hcc e h hd hO
    go_enter Try.func26, Try.ntmps26
    go_wp2_with fail
    refine E.mono ?_
    rintro en w1 ⟨rfl, k1, rfl⟩
    clear E
    go_wp2_with fail
    refine (PK _).mono ?_
    rintro en w1 ⟨rfl, k2, rfl⟩
    clear PK
    go_wp2_with fail
    refine (D _).mono ?_
    rintro en w1 ⟨rfl, k3, rfl⟩
    go_wp2_with fail
    go_quiet (fail)
    go_wp2_with fail
    go_quiet ((first | (go_at_call 49; exact q_same A) | (go_at_call 50; exact q_drew L) | (go_at_call 48; exact q_drew D)))
    go_wp2_with fail
    go_ret
    refine ⟨by simp, ?_⟩
    exact drewNN (drewNN (Below.drewN' w _) _) _
set_option maxRecDepth 100000 in
set_option maxHeartbeats 4000000 in
theorem told_no (bc bd : Nat) (l : List Int) (F T : Nat) (pl wy : Int) (ab aB : Option Addr) (cb cB : Nat) (w : World)
    (h : w.heap[bc]? = some (ccur (.slice ab l.length cb) F T pl wy)) (hd : w.heap[bd]? = some (dcur (.slice aB l.length cB) F T pl wy))
    (hft : F ≤ T) (ht : T ≤ l.length) (hlen : l.length ≤ 140737488351232) (hl : leftV F T wy = 0) :
    Calls Try.prog 26 #[.pointer (some ⟨bc, 0, none⟩), .pointer (some ⟨bd, 0, none⟩)] w fun en w' => en = .returned (.bool true) ∧ Below w.heap.size w w' := by
  have E := errm_step bc _ F T pl wy w h
  have PK := fun k => peek_no bc _ F T pl wy (w.drewN k) h (by omega) (by omega) (by omega) hl
  have A := fun k => atm_step bc _ F T pl wy (w.drewN k) h
  have L := fun k => leftm_step bc _ F T pl wy (w.drewN k) h (by omega) (by omega) (by omega)
  have D := fun k => dleft_step bd _ F T pl wy (w.drewN k) hd (by omega) (by omega) (by omega)
  rw [hl] at L D
  have d1 := cell_of hd 1
  have d3 := cell_of hd 3
  have d4 := cell_of hd 4
  simp at d1 d3 d4
  clear h hd hl
  go_enter Try.func26, Try.ntmps26
  go_wp2_with fail
  refine E.mono ?_
  rintro en w1 ⟨rfl, k1, rfl⟩
  clear E
  go_wp2_with fail
  refine (PK _).mono ?_
  rintro en w1 ⟨rfl, k2, rfl⟩
  clear PK
  go_wp2_with fail
  refine (D _).mono ?_
  rintro en w1 ⟨rfl, k3, rfl⟩
  go_wp2_with fail
  go_quiet ((first | (go_at_call 49; exact q_same A) | (go_at_call 50; exact q_drew L) | (go_at_call 48; exact q_drew D)))
  go_wp2_with fail
  go_ret
  refine ⟨by simp, ?_⟩
  exact drewNN (Below.drewN' w _) _
end Go.Proofs.Ytpkccnoipbgnmaa
