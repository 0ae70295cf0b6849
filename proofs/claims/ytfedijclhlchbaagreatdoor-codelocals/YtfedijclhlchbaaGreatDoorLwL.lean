/-
  The law CodeLocals walked; the statement itself is in the text Locals.
-/
import Derived.Test.YtfedijclhlchbaaGreatDoorKtr
import Derived.Test.YtfedijclhlchbaaGreatDoorDLo
import Derived.Test.YtfedijclhlchbaaGreatDoorDEx
import Derived.Test.YtfedijclhlchbaaGreatDoorSmL
import Derived.Test.YtfedijclhlchbaaGreatDoorKaw
namespace Go.Proofs.YtfedijclhlchbaaGreatDoor
open Go.RowKit
set_option linter.unusedVariables false
set_option linter.unusedSimpArgs false
set_option linter.constructorNameAsVariable false

theorem top_runs {l : List Int} (hB : Byt l) (x : Int) : Runs (topR (localsR l) [] l x).1 := by
  have hn : Runs [] := ⟨fun y hy => (by cases hy), by simp [sumL], by simp⟩
  by_cases hin : 0 ≤ x ∧ x ≤ l.length
  · obtain ⟨p, rfl⟩ : ∃ p : Nat, x = p := ⟨x.toNat, by omega⟩
    rw [topR_topOf (by omega)]
    unfold topOf
    cases h : localsR l p with
    | error y => exact hn
    | ok y => exact (localsR_runs hB (by omega) h).1
  · rw [topR_out hin]; exact hn
set_option maxRecDepth 100000 in
set_option maxHeartbeats 2000000 in
theorem codeLocals_any (v : Value) (l : List Int) (x : Int) (w : World) (hR : Reads w v l) (hB : Byt l) (hl : l.length ≤ 140737488351232) (hT : Tab w) :
    Calls Tryz.prog 3 #[v, .int .i64 x] w fun e w' => e = .returned (.bool true) ∧ Grew w w' := by
  have C1 := locTop_any v l x w hR hB hl hT
  have C2 : Hid (∀ X, Grew w X → Calls Tryz.prog 5 #[v, .int .i64 x] X (TopK (topR (localsR l) [] l x) X)) := fun X g => dlocals_any v l x X (g.reads hR) hB hl
  have hr := top_runs hB x
  obtain ⟨sa, cap, hv⟩ := hR.len
  subst hv
  clear hR hB hT
  generalize topR (localsR l) [] l x = Y at *
  obtain ⟨y, pl, e⟩ := Y
  have HY : Hid (Runs y) := hr
  have hlen := hr.2.2
  have hel : (expL y).length ≤ 50000 := by
    have := expL_len y hr.1
    have := hr.2.1
    simp only at *
    omega
  clear hr
  simp only at hlen
  go_enter Tryz.func3, Tryz.ntmps3
  go_wp2_with fail
  refine C1.mono ?_
  rintro en w1 ⟨rv1, rfl, r1, g1⟩
  have G1 : Hid (Grew w w1) := g1
  have R1 : Hid (RowL w.heap.size w1 rv1 y) := r1
  obtain ⟨a1, c1, hv1⟩ := row_one r1
  subst hv1
  clear C1 r1 g1
  go_wp2_with fail
  refine (C2.out w1 G1.out).mono ?_
  rintro en w2 ⟨rv2, rfl, r2, g2⟩
  have G2 : Hid (Grew w w2) := G1.out.trans g2
  have L1 : Hid (LL w2 (.slice a1 y.length c1) y) := (RowL.lst R1.out).grew g2
  have L2 : Hid (LL w2 rv2 y) := r2.lst
  obtain ⟨a2, c2, hv2⟩ := row_one r2
  subst hv2
  clear C2 r2 g2 R1 G1
  have C3 := sameLoc_any L1.out L2.out hlen
  go_wp2_with fail
  refine C3.mono ?_
  rintro en w3 ⟨rfl, g3⟩
  have G3 : Hid (Grew w w3) := G2.out.trans g3
  have L3 : Hid (LL w3 (.slice a2 y.length c2) y) := L2.out.grew g3
  clear C3 g3 L1 L2 G2
  have C4 := expand_any L3.out HY.out
  go_wp2_with fail
  refine C4.mono ?_
  rintro en w4 ⟨rv4, rfl, r4, g4⟩
  have G4 : Hid (Grew w w4) := G3.out.trans g4
  have L4 : Hid (LL w4 (.slice a2 y.length c2) y) := L3.out.grew g4
  have R4 : Hid (RowV w3.heap.size w4 rv4 (expL y)) := r4
  obtain ⟨a4, c4, hv4⟩ := row_one r4
  subst hv4
  clear C4 g4 L3 G3 r4
  have C5 := dexpand_any L4.out HY.out
  go_wp2_with fail
  refine C5.mono ?_
  rintro en w5 ⟨rv5, rfl, r5, g5⟩
  have G5 : Hid (Grew w w5) := G4.out.trans g5
  have L5 : LV w5 (.slice a4 (expL y).length c4) (expL y) := (RowV.lst R4.out).grew g5
  have L6 : LV w5 rv5 (expL y) := r5.lst
  obtain ⟨a5, c5, hv5⟩ := row_one r5
  subst hv5
  clear C5 g5 L4 G4 r5 R4
  have CA : Hid (∀ X, Calls Tryz.prog 9 #[] X fun en w' => en = .returned (.bool true) ∧ Grew X w') := awakeC_any
  generalize expL y = z at *
  obtain ⟨_, _, e4, _, _, _, h4⟩ := L5
  obtain ⟨_, _, e5, _, _, _, h5⟩ := L6
  injection e4 with e4 _ _
  injection e5 with e5 _ _
  subst e4 e5
  by_cases hz : z = []
  · subst hz
    clear h4 h5
    simp only [List.length_nil] at *
    go_wp2_with fail
    go_loopw [13] (fun i_ w' => i_ = .int .i64 0 ∧ Hid (Grew w w')) (fun _ _ => 0)
    case atStart => exact ⟨rfl, G5⟩
    case round =>
      clear G5
      obtain ⟨rfl, G⟩ := hrel
      go_wp2_with fail
      refine (CA.out _).mono ?_
      rintro en w6 ⟨rfl, g6⟩
      have G6 : Hid (Grew w w6) := G.out.trans g6
      clear g6
      go_wp2_with fail
      go_ret
      exact ⟨rfl, G6.out⟩
  · rcases h4 with h4 | ⟨b4, o4, rfl, hc4⟩
    · exact absurd h4 hz
    rcases h5 with h5 | ⟨b5, o5, rfl, hc5⟩
    · exact absurd h5 hz
    · clear hz
      have H4 : Hid (∀ i y, z[i]? = some y → EV w5 b4 (o4 + i * 3) y) := hc4
      have H5 : Hid (∀ i y, z[i]? = some y → EV w5 b5 (o5 + i * 3) y) := hc5
      clear hc4 hc5
      go_wp2_with fail
      go_loopw [13] (fun i_ w' => ∃ i : Nat, i_ = .int .i64 i ∧ i ≤ z.length ∧ Hid (Grew w5 w')) (fun i_ _ => z.length - (intOf i_).toNat)
      case atStart => exact ⟨0, rfl, Nat.zero_le _, Grew.refl _⟩
      case round =>
        obtain ⟨i, rfl, hi, G⟩ := hrel
        obtain ⟨w0, hw0⟩ : ∃ w0, w0 = wr := ⟨_, rfl⟩
        rw [← hw0] at G ⊢
        clear hw0
        by_cases hlt : i < z.length
        · obtain ⟨t, ht⟩ : ∃ t, z[i]? = some t := ⟨_, List.getElem?_eq_getElem hlt⟩
          have d1 : decide ((i : Int) < (z.length : Int)) = true := by simp; omega
          have d2 : decide (i < z.length) = true := by simp; omega
          have i2 : (i : Int) < (z.length : Int) := by omega
          obtain ⟨p0, p1, p2⟩ := (H4.out i t ht).grew G.out
          obtain ⟨q0, q1, q2⟩ := (H5.out i t ht).grew G.out
          obtain ⟨n, nul, hp⟩ := t
          simp only at p0 p1 p2 q0 q1 q2
          have hneq := neqVT n hp nul
          clear ht
          go_wp2_with fail
          go_quiet (fail)
          go_wp2_with fail
          go_roundw
          case rel => exact ⟨i + 1, by go_num, by omega, G.out.drewN _⟩
          case measure => simp [intOf]; omega
        · have d1 : decide ((i : Int) < (z.length : Int)) = false := by simp; omega
          go_wp2_with fail
          refine (CA.out _).mono ?_
          rintro en w6 ⟨rfl, g6⟩
          have G6 : Hid (Grew w w6) := (G5.out.trans G.out).trans g6
          clear g6
          go_wp2_with fail
          go_ret
          exact ⟨rfl, G6.out⟩
end Go.Proofs.YtfedijclhlchbaaGreatDoor
