/-
  The walk of frame.headOf over a custom section; no statement is proved here.
-/
import Derived.Test.YtclamdpbdafmcaaHeadOf
import Derived.Deep.Onto
namespace Go.Proofs.Ytclamdpbdafmcaa
open Go.RowKit
set_option linter.unusedVariables false

theorem Has.up {w w1 w' : World} {v : Value} {l : List Int} (h : Has w1.heap.size w1 w' v l) (hb : Below w.heap.size w w1) (hl : w.heap.size ≤ w1.heap.size) : Has w.heap.size w w' v l :=
  ⟨World.ownsRow.mono h.1 hl, hb.trans (h.2.1.mono hl), Nat.le_trans hl h.2.2⟩
set_option maxRecDepth 100000 in
set_option maxHeartbeats 8000000 in
theorem headOf_custom (m : List Int) (v : Value) (d : List Int) (p : Int) (w : World) (hR : Reads w v d) (hm : Byt m) (hml : m.length ≤ 65536) (hlen : d.length ≤ 140737488351232) :
    Calls Try.prog 46 #[.agg #[.int .i64 0, .string (strOfNums m), v, .int .i64 p]] w fun en w' => ∃ v', en = .returned v' ∧ Has w.heap.size w w' v' (0 :: (PU ((nb m).length + d.length : Nat) ++ nb m)) := by
  obtain ⟨a, c, rfl⟩ := hR.len
  have hnl : (nb m).length ≤ 65547 := by
    unfold nb
    have := PU_len m.length
    simp; omega
  have cn := fun w => nb_any m w hm (by omega)
  generalize nb m = N at *
  obtain ⟨sm, hsm⟩ : ∃ s, s = strOfNums m := ⟨_, rfl⟩
  rw [← hsm] at cn ⊢
  obtain ⟨T, hT⟩ : ∃ T : Nat, T = N.length + d.length := ⟨_, rfl⟩
  rw [← hT]
  have hpl := PU_len ((T : Nat) : Int)
  have HPN : Hid (PU (T : Int) ≠ []) := PU_ne _
  have B0 : Hid (Below w.heap.size w (w.alloc (.cells #[.int .i64 0, .string sm, .slice a d.length c, .int .i64 p] 45))) := (Below.refl _ _).alloc (Nat.le_refl _) _
  clear hR hm hsm
  go_enter Try.func46, Try.ntmps46
  go_wp2_with fail
  refine (cn _).mono ?_
  rintro en w1 ⟨vn, rfl, hh⟩
  clear cn
  have hlt : w.heap.size < w1.heap.size := by have := hh.2.2; simp at this; omega
  have c0 : w1.cell? ⟨w.heap.size, 0, none⟩ = some (.int .i64 0) := (hh.below.cell (by simp)).trans (by simp)
  have c2 : w1.cell? ⟨w.heap.size, 2, none⟩ = some (.slice a d.length c) := (hh.below.cell (by simp)).trans (by simp)
  have B1 : Hid (Below w.heap.size w w1) := B0.out.trans (hh.below.mono (by simp))
  have RN : Hid (Reads w1 vn N) := hh.reads
  obtain ⟨an, cnn, rfl⟩ := hh.reads.len
  have hne : (w.heap.size = w1.heap.size) = False := by simp; omega
  have hne2 : (w1.heap.size = w.heap.size) = False := by simp; omega
  clear hh B0
  have hw1 : IntKind.i64.wrap ((N.length : Int) + (d.length : Int)) = ((N.length + d.length : Nat) : Int) := by rw [IntKind.wrap_i64]; omega
  have hw2 : IntKind.u64.wrap ((N.length + d.length : Nat) : Int) = ((N.length + d.length : Nat) : Int) := by rw [IntKind.wrap_u64]; omega
  have hw3 : IntKind.u8.wrap 0 = 0 := by decide
  have hw4 : IntKind.u64.wrap ((N.length : Int) + (d.length : Int)) = (T : Int) := by rw [IntKind.wrap_u64]; omega
  rw [← hT] at hw1 hw2
  have hTb : T ≤ 140737488416779 := by omega
  have S1 : Hid (w.heap.size < w1.heap.size) := hlt
  have HT : Hid (T = N.length + d.length) := hT
  clear hT
  go_wp2_with fail
  go_region_law (first
    | (refine step_putU (.tmp 21) (n := (T : Int)) rfl rfl rfl (by omega) (by omega) ?_
       intro v3 w3 h3
       have R3 : Hid (Reads w3 v3 (PU (T : Int))) := h3.reads
       have q0 : w3.cell? ⟨w.heap.size, 0, none⟩ = some (.int .i64 0) := (h3.below.cell (by first | exact S1.out | (simp; omega))).trans (by first | exact c0 | exact (((Below.refl _ _).alloc (Nat.le_refl _) _).cell S1.out).trans c0)
       have q2 : w3.cell? ⟨w.heap.size, 2, none⟩ = some (.slice a d.length c) := (h3.below.cell (by first | exact S1.out | (simp; omega))).trans (by first | exact c2 | exact (((Below.refl _ _).alloc (Nat.le_refl _) _).cell S1.out).trans c2)
       have G3 : Hid (Below w1.heap.size w1 w3 ∧ w1.heap.size ≤ w3.heap.size) := (by first
         | exact ⟨((Below.refl _ _).drew).trans (h3.below.mono (Nat.le_refl _)), h3.2.2⟩
         | exact ⟨(((Below.refl _ _).alloc (Nat.le_refl _) _).drew).trans (h3.below.mono (by simp)), Nat.le_trans (by simp) h3.2.2⟩)
       try (have L3 : Hid (Has w1.heap.size w1 w3 (.slice (some ⟨w1.heap.size, 0, none⟩) 1 1) [0]) := (by have hq := (lit_has w1.heap.size w1 _ 0 (Below.refl _ _) (Nat.le_refl _)).drw.grew h3.below; exact hq)))
    | (refine step_app (r := PU (T : Int)) (l := [0]) rfl (.tmp 14) (.tmp 22) rfl rfl rfl (by first | exact L3.out | exact lit_has w1.heap.size w1 _ 0 G3.out.1 G3.out.2) (by first | exact R3.out | exact ((Grew.refl _).alloc _).reads R3.out) (by simp; omega) HPN.out ?_; intro v4 w4 h4))
  all_goals
    have RN4 : Hid (Reads w4 (.slice an N.length cnn) N) := Grew.reads ⟨h4.below, h4.2.2⟩ RN.out
    go_wp2_with (at_builtin; refine wp_appS rfl _ _ rfl rfl rfl h4 RN4.out (by simp; omega) ?_; intro v5 w5 h5)
    go_ret
    exact ⟨_, rfl, h5.up B1.out (Nat.le_of_lt S1.out)⟩
end Go.Proofs.Ytclamdpbdafmcaa
