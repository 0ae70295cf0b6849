/-
  Sub's closed, defines and the kind's heap type; no statement is proved here.
-/
import Derived.Test.YtojkonoffdlbpaaDoorOrd
namespace Go.Proofs.YtojkonoffdlbpaaDoor
open Go.RowKit
set_option linter.unusedVariables false
set_option linter.unusedSimpArgs false

set_option maxRecDepth 100000 in
set_option maxHeartbeats 1000000 in
theorem oclosed_no {w : World} {v : Value} {L : List RT} (h : LR w v L) (hf : Fit L) (hc : closedP 0 L = false) :
    Calls Tryd.prog 13 #[v] w fun en w' => en = .returned (.tuple #[.pointer none, .bool false]) ∧ Grew w w' := by
  have C : Hid (Calls Tryd.prog 10 #[v] w fun en w' => ∃ p : Int, en = .returned (.tuple #[.int .i64 p, .int .i64 50]) ∧ Grew w w') := by
    have := closed_any h hf.sml
    rw [hc] at this
    exact this
  obtain ⟨va, vc, ev, _⟩ := h.one
  subst ev
  clear h hf hc
  go_enter Tryd.func13, Tryd.ntmps13
  go_wp2_with fail
  refine C.out.mono ?_
  rintro en w1 ⟨p, rfl, g1⟩
  have G1 : Hid (Grew w w1) := g1
  clear g1 C
  go_wp2_with fail
  go_ret2
  exact ⟨rfl, G1.out⟩
theorem PtS.at {B B' : Nat} {w0 w : World} {v : Value} {l : List SB} (h : PtS B w0 w v l) (g : Grew w0 w) (hB : B' ≤ B) : PtS B' w w v l := by
  obtain ⟨ps, h1, h2, h3⟩ := h
  exact ⟨ps, h1, row_low h2 hB, fun i p x a b => (h3 i p x a b).grew g⟩
set_option maxRecDepth 100000 in
set_option maxHeartbeats 1000000 in
theorem oclosed_yes {w : World} {v : Value} {L : List RT} (h : LR w v L) (hf : Fit L) (hc : closedP 0 L = true) :
    Calls Tryd.prog 13 #[v] w fun en w' => ∃ ob tv, en = .returned (.tuple #[.pointer (some ⟨ob, 0, none⟩), .bool true]) ∧ w.heap.size ≤ ob ∧ w'.heap[ob]? = some (oobj v tv NILS) ∧ PtS w.heap.size w' w' tv (flatT L) ∧ Grew w w' := by
  have C : Hid (Calls Tryd.prog 10 #[v] w fun en w' => ∃ p : Int, en = .returned (.tuple #[.int .i64 p, .int .i64 0]) ∧ Grew w w') := by
    have := closed_any h hf.sml
    rw [hc] at this
    exact this
  have CN : Hid (∀ W, Grew w W → Calls Tryd.prog 11 #[v] W fun en w' => ∃ ob tv, en = .returned (.pointer (some ⟨ob, 0, none⟩)) ∧ w.heap.size ≤ ob ∧ w'.heap[ob]? = some (oobj v tv NILS) ∧ PtS w.heap.size w' w' tv (flatT L) ∧ Grew w w') := fun W g => by
    refine (newOrder_any (h.grew g) hf).mono ?_
    rintro en w' ⟨ob, tv, e, h1, h2, h3, g'⟩
    exact ⟨ob, tv, e, Nat.le_trans g.2 h1, h2, h3.at g' g.2, g.trans g'⟩
  obtain ⟨va, vc, ev, _⟩ := h.one
  subst ev
  clear h hf hc
  go_enter Tryd.func13, Tryd.ntmps13
  go_wp2_with fail
  refine C.out.mono ?_
  rintro en w1 ⟨p, rfl, g1⟩
  have G1 : Hid (Grew w w1) := g1
  clear g1 C
  go_wp2_with fail
  refine (CN.out w1 G1.out).mono ?_
  rintro en w2 ⟨ob, tv, rfl, h1, h2, h3, g2⟩
  have K : Hid (w.heap.size ≤ ob ∧ w2.heap[ob]? = some (oobj (.slice va L.length vc) tv NILS) ∧ PtS w.heap.size w2 w2 tv (flatT L) ∧ Grew w w2) := ⟨h1, h2, h3, g2⟩
  clear h1 h2 h3 g2 CN
  go_wp2_with fail
  go_ret2
  exact ⟨ob, tv, rfl, K.out⟩
set_option maxRecDepth 100000 in
set_option maxHeartbeats 1000000 in
theorem defines_any {w : World} {ob : Nat} {v iv : Value} {pa : Option Addr} {N pcp : Nat} {n : Int} (h : w.heap[ob]? = some (oobj v (.slice pa N pcp) iv)) :
    Calls Tryd.prog 21 #[.pointer (some ⟨ob, 0, none⟩), .int .i64 n] w fun en w' => en = .returned (.bool (decide (0 ≤ n) && decide (n < (N : Int)))) ∧ Grew w w' := by
  have c1 := cell_of h 1
  simp at c1
  have hl := lt_of_obj h
  clear h
  by_cases h0 : 0 ≤ n
  · have d0 : decide (0 ≤ n) = true := by simpa using h0
    by_cases h1 : n < (N : Int)
    · have d1 : decide (n < (N : Int)) = true := by simpa using h1
      rw [d0, d1]
      go_enter Tryd.func21, Tryd.ntmps21
      go_wp2_with fail
      go_ret
      exact ⟨rfl, Grew.refl _⟩
    · have d1 : decide (n < (N : Int)) = false := by simpa using h1
      rw [d0, d1]
      go_enter Tryd.func21, Tryd.ntmps21
      go_wp2_with fail
      go_ret
      exact ⟨rfl, Grew.refl _⟩
  · have d0 : decide (0 ≤ n) = false := by simpa using h0
    rw [d0]
    go_enter Tryd.func21, Tryd.ntmps21
    go_wp2_with fail
    go_ret
    exact ⟨rfl, Grew.refl _⟩
end Go.Proofs.YtojkonoffdlbpaaDoor
