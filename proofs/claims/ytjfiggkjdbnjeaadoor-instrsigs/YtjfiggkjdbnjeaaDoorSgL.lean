/-
  The walk of the law InstrSigs; no statement is proved here.
-/
import Derived.Test.YtjfiggkjdbnjeaaDoorSgW
import Derived.Test.YtjfiggkjdbnjeaaDoorSgP
namespace Go.Proofs.YtjfiggkjdbnjeaaDoor
open Go.RowKit
set_option linter.unusedVariables false
set_option linter.unusedSimpArgs false

set_option maxRecDepth 100000 in
theorem awake_any (w : World) : Calls Tryd.prog 8 #[] w fun e w' => e = .returned (.bool true) ∧ Grew w w' := by
  have C := name_any 106 (by decide) (by decide) w
  have hn : nameP 106 = [105, 51, 50, 46, 97, 100, 100] := by decide +kernel
  rw [hn] at C
  have hq := BA_lit [105, 51, 50, 46, 97, 100, 100] [105, 51, 50, 46, 97, 100, 100]
  rw [decide_eq_true rfl] at hq
  generalize BA [105, 51, 50, 46, 97, 100, 100] = N at *
  clear hn
  go_enter Tryd.func8, Tryd.ntmps8
  go_wp2_with fail
  refine C.mono ?_
  rintro e w1 ⟨rfl, g1⟩
  have G1 : Hid (Grew w w1) := g1
  clear g1 C
  go_wp2_with fail
  go_ret
  exact ⟨rfl, G1.out⟩
/- What the four calls tell: the same on both sides. -/
set_option maxRecDepth 100000 in
set_option maxHeartbeats 2000000 in
theorem sigs_any (op : Int) (h0 : -9223372036854775808 ≤ op) (h1 : op ≤ 9223372036854775807) (w : World) (hS : TabS w) (hA : TabA w) :
    Calls Tryd.prog 5 #[.int .i64 op] w fun e w' => e = .returned (.bool true) ∧ Grew w w' := by
  have HS : Hid (TabS w) := hS
  have HA : Hid (TabA w) := hA
  clear hS hA
  have C1 : Hid (∃ (x : Int) (ok : Bool) (l m : List VT), ((x = 0 ∧ ok = true) ∨ (x = 6 ∧ ok = false)) ∧ l.length ≤ 1000 ∧ m.length ≤ 1000 ∧ (∀ W, Grew w W → Calls Tryd.prog 11 #[.int .i64 op] W fun e w' => ∃ u v, e = .returned (.tuple #[u, v, .int .i64 x]) ∧ RowV W.heap.size w' u l ∧ RowV W.heap.size w' v m ∧ Grew W w') ∧
      (∀ W, Grew w W → Calls Tryd.prog 12 #[.int .i64 op] W fun e w' => ∃ u v, e = .returned (.tuple #[u, v, .bool ok]) ∧ RowV W.heap.size w' u l ∧ RowV W.heap.size w' v m ∧ Grew W w')) := by
    cases hb : isOpB op with
    | false =>
      refine ⟨6, false, [], [], Or.inr ⟨rfl, rfl⟩, by simp, by simp, fun W _ => (sig_no op hb W).mono ?_, fun W _ => (rsig_no op h0 h1 hb W).mono ?_⟩
      · rintro e w' ⟨rfl, rfl⟩; exact ⟨_, _, rfl, World.ownsRow_nil _ _ _ _, World.ownsRow_nil _ _ _ _, Grew.refl _⟩
      · rintro e w' ⟨rfl, g⟩; exact ⟨_, _, rfl, World.ownsRow_nil _ _ _ _, World.ownsRow_nil _ _ _ _, g⟩
    | true =>
      obtain ⟨⟨⟨e1, e2⟩, hroom, hN⟩, hM⟩ := sig_all hb
      have f1 : List.replicate (sigRow op).2.2.1.toNat (⟨(sigRow op).2.1, false, 0⟩ : VT) = (takesD op).map NT := by rw [← e1, List.map_replicate]; rfl
      have f2 : [(⟨(sigRow op).2.2.2, false, 0⟩ : VT)] = (givesD op).map NT := by rw [← e2]; rfl
      have l1 : ((takesD op).map NT).length ≤ 1000 := by
        rw [List.length_map]; unfold takesD; split
        · simp
        · split
          · simp
          · split <;> simp
      have l2 : ((givesD op).map NT).length ≤ 1000 := by rw [← f2]; simp
      refine ⟨0, true, (takesD op).map NT, (givesD op).map NT, Or.inl ⟨rfl, rfl⟩, l1, l2, fun W g => ?_, fun W g => rsig_yes op hb W⟩
      have := sig_yes op hb W (HS.out.grew g)
      rwa [f1, f2] at this
  have C2 : Hid (∃ (n b : Int) (st sg : Bool) (x : Int) (ok : Bool), ((x = 0 ∧ ok = true) ∨ (x = 6 ∧ ok = false)) ∧ (∀ W, Grew w W → Calls Tryd.prog 14 #[.int .i64 op] W fun e w' => e = .returned (wv n b st sg (.int .i64 x)) ∧ Grew W w') ∧
      (∀ W, Calls Tryd.prog 15 #[.int .i64 op] W fun e w' => e = .returned (rwv n b st sg ok) ∧ Grew W w')) := by
    by_cases hr : 40 ≤ op ∧ op ≤ 62
    · obtain ⟨ha, hst, hN, hM⟩ := acc_all hr.1 hr.2
      refine ⟨_, _, _, _, 0, true, Or.inl ⟨rfl, rfl⟩, fun W g => width_yes op hr.1 hr.2 _ _ _ ha W (HA.out.grew g), fun W => ?_⟩
      rw [hst]
      exact rwidth_yes op hr.1 hr.2 hN hM W
    · exact ⟨0, 0, false, false, 6, false, Or.inr ⟨rfl, rfl⟩, fun W _ => width_no op (by omega) W, fun W => rwidth_no op (by omega) W⟩
  obtain ⟨x, ok, l, m, hx, hl, hm, A1, A2⟩ := C1.out
  obtain ⟨n, b, st, sg, y, ok2, hy, B1, B2⟩ := C2.out
  have A1' : Hid (∀ W, Grew w W → Calls Tryd.prog 11 #[.int .i64 op] W fun e w' => ∃ u v, e = .returned (.tuple #[u, v, .int .i64 x]) ∧ RowV W.heap.size w' u l ∧ RowV W.heap.size w' v m ∧ Grew W w') := A1
  have A2' : Hid (∀ W, Grew w W → Calls Tryd.prog 12 #[.int .i64 op] W fun e w' => ∃ u v, e = .returned (.tuple #[u, v, .bool ok]) ∧ RowV W.heap.size w' u l ∧ RowV W.heap.size w' v m ∧ Grew W w') := A2
  have B1' : Hid (∀ W, Grew w W → Calls Tryd.prog 14 #[.int .i64 op] W fun e w' => e = .returned (wv n b st sg (.int .i64 y)) ∧ Grew W w') := B1
  have B2' : Hid (∀ W, Calls Tryd.prog 15 #[.int .i64 op] W fun e w' => e = .returned (rwv n b st sg ok2) ∧ Grew W w') := B2
  have HX : Hid ((x = 0 ∧ ok = true) ∨ (x = 6 ∧ ok = false)) := hx
  have HY : Hid ((y = 0 ∧ ok2 = true) ∨ (y = 6 ∧ ok2 = false)) := hy
  clear C1 C2 A1 A2 B1 B2 hx hy
  simp only [wv] at B1'
  simp only [rwv] at B2'
  have hl' : l.length ≤ 9223372036854775807 := by omega
  have hm' : m.length ≤ 9223372036854775807 := by omega
  clear hl hm h0 h1
  rcases HX.out with ⟨rfl, rfl⟩ | ⟨rfl, rfl⟩ <;> rcases HY.out with ⟨rfl, rfl⟩ | ⟨rfl, rfl⟩
  all_goals
    clear HX HY
    go_enter Tryd.func5, Tryd.ntmps5
    go_wp2_with fail
    refine (A1'.out _ (Grew.refl w)).mono ?_
    rintro e w1 ⟨u, v, rfl, hu, hv, g1⟩
    obtain ⟨ua, uc, rfl⟩ := row_one hu
    obtain ⟨va, vc, rfl⟩ := row_one hv
    have HU : Hid (RowV w.heap.size w1 (.slice ua l.length uc) l) := hu
    have HV : Hid (RowV w.heap.size w1 (.slice va m.length vc) m) := hv
    have G1 : Hid (Grew w w1) := g1
    clear hu hv g1
    go_wp2_with fail
    refine (A2'.out _ G1.out).mono ?_
    rintro e w2 ⟨u2, v2, rfl, hu, hv, g2⟩
    obtain ⟨ua2, uc2, rfl⟩ := row_one hu
    obtain ⟨va2, vc2, rfl⟩ := row_one hv
    have HU2 : Hid (RowV w1.heap.size w2 (.slice ua2 l.length uc2) l) := hu
    have HV2 : Hid (RowV w1.heap.size w2 (.slice va2 m.length vc2) m) := hv
    have HU1 : Hid (RowV w.heap.size w2 (.slice ua l.length uc) l) := HU.out.grow g2
    have HV1 : Hid (RowV w.heap.size w2 (.slice va m.length vc) m) := HV.out.grow g2
    have G2 : Hid (Grew w w2) := G1.out.trans g2
    clear hu hv g2 HU HV
    go_wp2_with fail
    refine (sameVals_any HU1.out HU2.out hl').mono ?_
    rintro e w3 ⟨rfl, g3⟩
    have HV3 : Hid (RowV w.heap.size w3 (.slice va m.length vc) m) := HV1.out.grow g3
    have HV4 : Hid (RowV w1.heap.size w3 (.slice va2 m.length vc2) m) := HV2.out.grow g3
    have G3 : Hid (Grew w w3) := G2.out.trans g3
    clear g3 HU1 HU2 HV1 HV2
    go_wp2_with fail
    refine (sameVals_any HV3.out HV4.out hm').mono ?_
    rintro e w4 ⟨rfl, g4⟩
    have G4 : Hid (Grew w w4) := G3.out.trans g4
    clear g4 HV3 HV4
    go_wp2_with fail
    refine (B1'.out _ G4.out).mono ?_
    rintro e w5 ⟨rfl, g5⟩
    have G5 : Hid (Grew w w5) := G4.out.trans g5
    clear g5
    go_wp2_with fail
    refine (B2'.out _).mono ?_
    rintro e w6 ⟨rfl, g6⟩
    have cc := g6.c3 w5.heap.size (.int .i64 n) (.bool false) (.int .i64 0)
    have G6 : Hid (Grew w w6) := (G5.out.alloc _).trans g6
    have hlt : w5.heap.size < w6.heap.size := by have := g6.2; simp at this; omega
    obtain ⟨c0, c1, c2⟩ := cc
    clear g6
    generalize w5.heap.size = V5 at *
    go_wp2_with fail
    refine (awake_any _).mono ?_
    rintro e w7 ⟨rfl, g7⟩
    have G7 : Hid (Grew w w7) := (G6.out.alloc _).trans g7
    clear g7
    go_wp2_with fail
    go_ret
    exact ⟨rfl, G7.out⟩
end Go.Proofs.YtjfiggkjdbnjeaaDoor
