/-
  The walk of EntryGroups; no statement is proved here.
-/
import Derived.Test.YtgdhocdbcgmokaaDoorDTg8
import Derived.Test.YtgdhocdbcgmokaaDoorSam8
import Derived.Test.YtgdhocdbcgmokaaDoorTopC
import Derived.Test.YtgdhocdbcgmokaaDoorTopS
import Derived.Test.YtgdhocdbcgmokaaDoorTopG
import Derived.Test.YtgdhocdbcgmokaaDoorAwk
namespace Go.Proofs.YtgdhocdbcgmokaaDoor
open Go.RowKit
set_option linter.unusedVariables false
set_option linter.unusedSimpArgs false
set_option linter.constructorNameAsVariable false

theorem neqF (n h : Int) (u m : Bool) (W : World) : (binOp .neq 48 (.agg #[.int .i64 n, .bool u, .int .i64 h, .bool m]) (.agg #[.int .i64 n, .bool u, .int .i64 h, .bool m])).run Tryd.prog W = .ok (.bool false) W := by
  simp [go_sem]
set_option maxRecDepth 100000 in
set_option maxHeartbeats 4000000 in
theorem groups_any (v : Value) (l : List Int) (x : Int) (w : World) (hR : Reads w v l) (hB : Byt l) (hl : l.length ≤ 140737488351232) (hT : Tab w) :
    Calls Tryd.prog 4 #[v, .int .i64 x] w fun en w' => en = .returned (.bool true) ∧ Grew w w' := by
  have CF : Hid (∀ w1, Grew w w1 → Calls Tryd.prog 18 #[v, .int .i64 x] w1 fun en w' => en = .returned (ansF (topR (fieldR l) ⟨⟨0, false, 0⟩, false⟩ l x)) ∧ Grew w1 w') := fun w1 g => topF_any v l x w1 (g.reads hR) hB hl (hT.grew g)
  have DF : Hid (∀ w1, Grew w w1 → Calls Tryd.prog 19 #[v, .int .i64 x] w1 fun en w' => en = .returned (ansF (topR (fieldR l) ⟨⟨0, false, 0⟩, false⟩ l x)) ∧ Grew w1 w') := fun w1 g => dtopF_any v l x w1 (g.reads hR) hB hl
  have CC : Hid (∀ w1, Grew w w1 → Calls Tryd.prog 20 #[v, .int .i64 x] w1 fun en w' => ∃ cs, en = .returned (.tuple #[.agg cs.toArray, .int .i64 (topR (compR l) ⟨0, [], [], []⟩ l x).2.1, .int .i64 (topR (compR l) ⟨0, [], [], []⟩ l x).2.2]) ∧ CompC w1.heap.size w' cs (topR (compR l) ⟨0, [], [], []⟩ l x).1 ∧ Grew w1 w') := fun w1 g => topCx_any v l x w1 (g.reads hR) hB hl (hT.grew g)
  have DC : Hid (∀ w1, Grew w w1 → Calls Tryd.prog 21 #[v, .int .i64 x] w1 fun en w' => ∃ cs, en = .returned (.tuple #[.agg cs.toArray, .int .i64 (topR (compR l) ⟨0, [], [], []⟩ l x).2.1, .int .i64 (topR (compR l) ⟨0, [], [], []⟩ l x).2.2]) ∧ CompC w1.heap.size w' cs (topR (compR l) ⟨0, [], [], []⟩ l x).1 ∧ Grew w1 w') := fun w1 g => dtopCx_any v l x w1 (g.reads hR) hB hl
  have CS : Hid (∀ w1, Grew w w1 → Calls Tryd.prog 23 #[v, .int .i64 x] w1 fun en w' => ∃ cs, en = .returned (.tuple #[.agg cs.toArray, .int .i64 (topR (subR l) ⟨false, [], ⟨0, [], [], []⟩⟩ l x).2.1, .int .i64 (topR (subR l) ⟨false, [], ⟨0, [], [], []⟩⟩ l x).2.2]) ∧ SubC w1.heap.size w' cs (topR (subR l) ⟨false, [], ⟨0, [], [], []⟩⟩ l x).1 ∧ Grew w1 w') := fun w1 g => topSx_any v l x w1 (g.reads hR) hB hl (hT.grew g)
  have DS : Hid (∀ w1, Grew w w1 → Calls Tryd.prog 24 #[v, .int .i64 x] w1 fun en w' => ∃ cs, en = .returned (.tuple #[.agg cs.toArray, .int .i64 (topR (subR l) ⟨false, [], ⟨0, [], [], []⟩⟩ l x).2.1, .int .i64 (topR (subR l) ⟨false, [], ⟨0, [], [], []⟩⟩ l x).2.2]) ∧ SubC w1.heap.size w' cs (topR (subR l) ⟨false, [], ⟨0, [], [], []⟩⟩ l x).1 ∧ Grew w1 w') := fun w1 g => dtopSx_any v l x w1 (g.reads hR) hB hl
  have CG : Hid (∀ w1, Grew w w1 → Calls Tryd.prog 25 #[v, .int .i64 x] w1 fun en w' => ∃ cs, en = .returned (.tuple #[.agg cs.toArray, .int .i64 (topR (recR l) ⟨[], false⟩ l x).2.1, .int .i64 (topR (recR l) ⟨[], false⟩ l x).2.2]) ∧ RecC w1.heap.size w' cs (topR (recR l) ⟨[], false⟩ l x).1 ∧ Grew w1 w') := fun w1 g => topRx_any v l x w1 (g.reads hR) hB hl (hT.grew g)
  have DG : Hid (∀ w1, Grew w w1 → Calls Tryd.prog 26 #[v, .int .i64 x] w1 fun en w' => ∃ cs, en = .returned (.tuple #[.agg cs.toArray, .int .i64 (topR (recR l) ⟨[], false⟩ l x).2.1, .int .i64 (topR (recR l) ⟨[], false⟩ l x).2.2]) ∧ RecC w1.heap.size w' cs (topR (recR l) ⟨[], false⟩ l x).1 ∧ Grew w1 w') := fun w1 g => dtopRx_any v l x w1 (g.reads hR) hB hl
  have AW : Hid (∀ w1, Grew w w1 → Calls Tryd.prog 17 #[] w1 fun en w' => en = .returned (.bool true) ∧ Grew w1 w') := fun w1 g => awake_any w1 (hT.grew g)
  obtain ⟨sa0, cap0, rfl⟩ := hR.len
  clear hR hB hT
  generalize topR (fieldR l) ⟨⟨0, false, 0⟩, false⟩ l x = XF at *
  generalize topR (compR l) ⟨0, [], [], []⟩ l x = XC at *
  generalize topR (subR l) ⟨false, [], ⟨0, [], [], []⟩⟩ l x = XS at *
  generalize topR (recR l) ⟨[], false⟩ l x = XG at *
  obtain ⟨⟨⟨fn, fb, fh⟩, fm⟩, fp, fe⟩ := XF
  obtain ⟨c, cp, ce⟩ := XC
  obtain ⟨t, tp, te⟩ := XS
  obtain ⟨g, gp, ge⟩ := XG
  unfold ansF FT.v at CF DF
  simp only at CF DF CC DC CS DS CG DG
  have nF := neqF
  go_enter Tryd.func4, Tryd.ntmps4
  go_wp2_with fail
  refine (CF.out _ (Grew.refl w)).mono ?_
  rintro en w1 ⟨rfl, g1⟩
  have G1 : Hid (Grew w w1) := g1
  clear g1 CF
  go_wp2_with fail
  refine (DF.out _ (G1.out.alloc _)).mono ?_
  rintro en w2 ⟨rfl, g2⟩
  have K2 := (g2.turn []).other (heap_alloc_last _ _) (by simp)
  have G2 : Hid (Grew w w2) := (G1.out.alloc _).trans g2
  have l2 : w1.heap.size < w2.heap.size := lt_of_obj K2
  have a0 := cell_of K2 0
  have a1 := cell_of K2 1
  have a2 := cell_of K2 2
  have a3 := cell_of K2 3
  simp at a0 a1 a2 a3
  have hne2 : ¬ w1.heap.size = w2.heap.size := by omega
  clear g2 DF G1 K2
  go_wp2_with fail
  refine (CC.out _ (G2.out.alloc _)).mono ?_
  rintro en w3 ⟨cs, rfl, r3, g3⟩
  have G3 : Hid (Grew w w3) := (G2.out.alloc _).trans g3
  have R3 : Hid (CompC 0 w3 cs c) := r3.low (Nat.zero_le _)
  obtain ⟨pv, rv, fv, hcs, z1, z2, z3⟩ := r3
  obtain ⟨pa_C, pc_C, e0_⟩ := row_one z1
  obtain ⟨ra_C, rc_C, e1_⟩ := row_one z2
  obtain ⟨fa_C, fc_C, e2_⟩ := row_one z3
  subst e0_
  subst e1_
  subst e2_
  subst hcs
  clear z1 z2 z3
  clear g3 CC G2
  go_wp2_with fail
  refine (DC.out _ (G3.out.alloc _)).mono ?_
  rintro en w4 ⟨cs, rfl, r4, g4⟩
  have K4 := (g4.turn []).other (heap_alloc_last _ _) (by simp)
  have G4 : Hid (Grew w w4) := (G3.out.alloc _).trans g4
  have l4 : w3.heap.size < w4.heap.size := lt_of_obj K4
  have R4 : Hid (CompC 0 w4 [.int .i64 c.kind, .slice pa_C c.params.length pc_C, .slice ra_C c.results.length rc_C, .slice fa_C c.fields.length fc_C] c) := R3.out.turn ((((Grew.refl w3).alloc _).trans g4).turn []) (by simp) (by simp)
  have Q4 : Hid (CompC 0 w4 cs c) := r4.low (Nat.zero_le _)
  obtain ⟨pv, rv, fv, hcs, z1, z2, z3⟩ := r4
  obtain ⟨paq_C, pcq_C, e0_⟩ := row_one z1
  obtain ⟨raq_C, rcq_C, e1_⟩ := row_one z2
  obtain ⟨faq_C, fcq_C, e2_⟩ := row_one z3
  subst e0_
  subst e1_
  subst e2_
  subst hcs
  clear z1 z2 z3
  have b4_0 := cell_of K4 0
  have b4_1 := cell_of K4 1
  have b4_2 := cell_of K4 2
  have b4_3 := cell_of K4 3
  simp at b4_0 b4_1 b4_2 b4_3
  have hne4 : ¬ w3.heap.size = w4.heap.size := by omega
  have SS4 : Hid (∀ w', Grew w4 w' → Calls Tryd.prog 22 #[.agg #[.bool false, .slice none 0 0, .int .i64 c.kind, .slice pa_C c.params.length pc_C, .slice ra_C c.results.length rc_C, .slice fa_C c.fields.length fc_C], .agg #[.bool false, .slice none 0 0, .int .i64 c.kind, .slice paq_C c.params.length pcq_C, .slice raq_C c.results.length rcq_C, .slice faq_C c.fields.length fcq_C]] w' fun en w'' => en = .returned (.bool true) ∧ Grew w' w'') := by
    intro w' gw
    have e1 : SubC 0 w' [.bool false, .slice none 0 0, .int .i64 c.kind, .slice pa_C c.params.length pc_C, .slice ra_C c.results.length rc_C, .slice fa_C c.fields.length fc_C] ⟨false, [], c⟩ := by
      obtain ⟨pv, rv, fv, hcs, z1, z2, z3⟩ := R4.out.turn (gw.turn []) (by simp) (by simp)
      injection hcs with _ hcs
      injection hcs with h1 hcs
      injection hcs with h2 hcs
      injection hcs with h3 _
      subst h1
      subst h2
      subst h3
      exact ⟨_, _, _, _, rfl, World.ownsRow_nil _ _ _ _, z1, z2, z3⟩
    have e2 : SubC 0 w' [.bool false, .slice none 0 0, .int .i64 c.kind, .slice paq_C c.params.length pcq_C, .slice raq_C c.results.length rcq_C, .slice faq_C c.fields.length fcq_C] ⟨false, [], c⟩ := by
      obtain ⟨pv, rv, fv, hcs, z1, z2, z3⟩ := Q4.out.turn (gw.turn []) (by simp) (by simp)
      injection hcs with _ hcs
      injection hcs with h1 hcs
      injection hcs with h2 hcs
      injection hcs with h3 _
      subst h1
      subst h2
      subst h3
      exact ⟨_, _, _, _, rfl, World.ownsRow_nil _ _ _ _, z1, z2, z3⟩
    exact sameSub_any e1 e2 e1.max
  clear g4 DC G3 K4 R3 R4 Q4
  go_wp2_with fail
  refine (SS4.out _ ((Grew.refl w4).alloc _)).mono ?_
  rintro en w5 ⟨rfl, g5⟩
  have G5 : Hid (Grew w w5) := (G4.out.alloc _).trans g5
  clear g5 SS4 b4_0 b4_1 b4_2 b4_3
  go_wp2_with fail
  refine (CS.out _ G5.out).mono ?_
  rintro en w6 ⟨cs, rfl, r6, g6⟩
  have G6 : Hid (Grew w w6) := G5.out.trans g6
  have R6 : Hid (SubC 0 w6 cs t) := r6.low (Nat.zero_le _)
  obtain ⟨sv, pv, rv, fv, hcs, z0, z1, z2, z3⟩ := r6
  obtain ⟨sa_S, sc_S, e0_⟩ := row_one z0
  obtain ⟨pa_S, pc_S, e1_⟩ := row_one z1
  obtain ⟨ra_S, rc_S, e2_⟩ := row_one z2
  obtain ⟨fa_S, fc_S, e3_⟩ := row_one z3
  subst e0_
  subst e1_
  subst e2_
  subst e3_
  subst hcs
  clear z0 z1 z2 z3
  clear g6 CS G5
  go_wp2_with fail
  refine (DS.out _ (G6.out.alloc _)).mono ?_
  rintro en w7 ⟨cs, rfl, r7, g7⟩
  have K7 := (g7.turn []).other (heap_alloc_last _ _) (by simp)
  have G7 : Hid (Grew w w7) := (G6.out.alloc _).trans g7
  have l7 : w6.heap.size < w7.heap.size := lt_of_obj K7
  have R7 : Hid (SubC 0 w7 [.bool t.final_, .slice sa_S t.supers.length sc_S, .int .i64 t.comp.kind, .slice pa_S t.comp.params.length pc_S, .slice ra_S t.comp.results.length rc_S, .slice fa_S t.comp.fields.length fc_S] t) := R6.out.turn ((((Grew.refl w6).alloc _).trans g7).turn []) (by simp) (by simp) (by simp)
  have Q7 : Hid (SubC 0 w7 cs t) := r7.low (Nat.zero_le _)
  obtain ⟨sv, pv, rv, fv, hcs, z0, z1, z2, z3⟩ := r7
  obtain ⟨saq_S, scq_S, e0_⟩ := row_one z0
  obtain ⟨paq_S, pcq_S, e1_⟩ := row_one z1
  obtain ⟨raq_S, rcq_S, e2_⟩ := row_one z2
  obtain ⟨faq_S, fcq_S, e3_⟩ := row_one z3
  subst e0_
  subst e1_
  subst e2_
  subst e3_
  subst hcs
  clear z0 z1 z2 z3
  have b7_0 := cell_of K7 0
  have b7_1 := cell_of K7 1
  have b7_2 := cell_of K7 2
  have b7_3 := cell_of K7 3
  have b7_4 := cell_of K7 4
  have b7_5 := cell_of K7 5
  simp at b7_0 b7_1 b7_2 b7_3 b7_4 b7_5
  have hne7 : ¬ w6.heap.size = w7.heap.size := by omega
  have SS7 : Hid (∀ w', Grew w7 w' → Calls Tryd.prog 22 #[.agg #[.bool t.final_, .slice sa_S t.supers.length sc_S, .int .i64 t.comp.kind, .slice pa_S t.comp.params.length pc_S, .slice ra_S t.comp.results.length rc_S, .slice fa_S t.comp.fields.length fc_S], .agg #[.bool t.final_, .slice saq_S t.supers.length scq_S, .int .i64 t.comp.kind, .slice paq_S t.comp.params.length pcq_S, .slice raq_S t.comp.results.length rcq_S, .slice faq_S t.comp.fields.length fcq_S]] w' fun en w'' => en = .returned (.bool true) ∧ Grew w' w'') := fun w' gw => sameSub_any (R7.out.grew gw) (Q7.out.grew gw) R7.out.max
  clear g7 DS G6 K7 R6 R7 Q7
  go_wp2_with fail
  refine (SS7.out _ ((Grew.refl w7).alloc _)).mono ?_
  rintro en w8 ⟨rfl, g8⟩
  have G8 : Hid (Grew w w8) := (G7.out.alloc _).trans g8
  clear g8 SS7 b7_0 b7_1 b7_2 b7_3 b7_4 b7_5
  go_wp2_with fail
  refine (CG.out _ G8.out).mono ?_
  rintro en w9 ⟨cs, rfl, r9, g9⟩
  have G9 : Hid (Grew w w9) := G8.out.trans g9
  have R9 : Hid (RecC 0 w9 cs g) := r9.low (Nat.zero_le _)
  obtain ⟨tv, hcs, z0⟩ := r9
  obtain ⟨ta_G, tc_G, e0_⟩ := z0.one
  subst e0_
  subst hcs
  clear z0
  clear g9 CG G8
  go_wp2_with fail
  refine (DG.out _ (G9.out.alloc _)).mono ?_
  rintro en w10 ⟨cs, rfl, r10, g10⟩
  have K10 := (g10.turn []).other (heap_alloc_last _ _) (by simp)
  have G10 : Hid (Grew w w10) := (G9.out.alloc _).trans g10
  have l10 : w9.heap.size < w10.heap.size := lt_of_obj K10
  have R10 : Hid (RecC 0 w10 [.slice ta_G g.types.length tc_G, .bool g.explicit] g) := R9.out.turn ((((Grew.refl w9).alloc _).trans g10).turn []) (by simp) (by simp) (by simp) (by simp)
  have Q10 : Hid (RecC 0 w10 cs g) := r10.low (Nat.zero_le _)
  obtain ⟨tv, hcs, z0⟩ := r10
  obtain ⟨taq_G, tcq_G, e0_⟩ := z0.one
  subst e0_
  subst hcs
  clear z0
  have b10_0 := cell_of K10 0
  have b10_1 := cell_of K10 1
  simp at b10_0 b10_1
  have hne10 : ¬ w9.heap.size = w10.heap.size := by omega
  have SS10 : Hid (∀ w', Grew w10 w' → Calls Tryd.prog 27 #[.agg #[.slice ta_G g.types.length tc_G, .bool g.explicit], .agg #[.slice taq_G g.types.length tcq_G, .bool g.explicit]] w' fun en w'' => en = .returned (.bool true) ∧ Grew w' w'') := by
    intro w' gw
    have e1 : RecQ 0 w' (.agg #[.slice ta_G g.types.length tc_G, .bool g.explicit]) g := by
      obtain ⟨tv, hcs, z0⟩ := R10.out.turn (gw.turn []) (by simp) (by simp) (by simp) (by simp)
      injection hcs with h1 _
      subst h1
      exact ⟨_, rfl, z0⟩
    have e2 : RecQ 0 w' (.agg #[.slice taq_G g.types.length tcq_G, .bool g.explicit]) g := by
      obtain ⟨tv, hcs, z0⟩ := Q10.out.turn (gw.turn []) (by simp) (by simp) (by simp) (by simp)
      injection hcs with h1 _
      subst h1
      exact ⟨_, rfl, z0⟩
    exact sameRec_any e1 e2
  clear g10 DG G9 K10 R9 R10 Q10
  go_wp2_with fail
  refine (SS10.out _ ((Grew.refl w10).alloc _)).mono ?_
  rintro en w11 ⟨rfl, g11⟩
  have G11 : Hid (Grew w w11) := (G10.out.alloc _).trans g11
  clear g11 SS10 b10_0 b10_1
  go_wp2_with fail
  refine (AW.out _ G11.out).mono ?_
  rintro en w12 ⟨rfl, g12⟩
  have G12 : Hid (Grew w w12) := G11.out.trans g12
  clear g12
  go_wp2_with fail
  go_ret
  exact ⟨rfl, G12.out⟩
end Go.Proofs.YtgdhocdbcgmokaaDoor
