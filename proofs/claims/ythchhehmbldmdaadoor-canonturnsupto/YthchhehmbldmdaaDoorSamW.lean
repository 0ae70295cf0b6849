/-
  The program's Same: its walk; no statement is proved here.
-/
import Derived.Test.YthchhehmbldmdaaDoorSam
namespace Go.Proofs.YthchhehmbldmdaaDoor
open Go.RowKit
set_option linter.unusedVariables false
set_option linter.unusedSimpArgs false

def inL (L : List RT) (n : Int) : Bool := decide (0 ≤ n) && decide (n < (cntT L : Int))
def atI (l : List Int) (n : Int) : Int := l.getD n.toNat 0
/- What Same answers: whether two are one, and the error. -/
def sameR (L : List RT) (a b : Int) : Bool := closedP 0 L && (inL L a && inL L b) && decide (atI (idsU L) a = atI (idsU L) b)
def sameE (L : List RT) (a b : Int) : Int := if closedP 0 L then (if inL L a && inL L b then 0 else 1) else 50
set_option maxRecDepth 100000 in
set_option maxHeartbeats 2000000 in
theorem same_any {w : World} {v : Value} {L : List RT} {a b : Int} (ht : Tab w) (h : LR w v L) (hf : Fit L) :
    Calls Tryd.prog 7 #[v, .int .i64 a, .int .i64 b] w fun en w' => en = .returned (.tuple #[.bool (sameR L a b), .int .i64 (sameE L a b)]) ∧ Grew w w' := by
  have CC : Hid (Calls Tryd.prog 11 #[v] w fun en w' => ∃ p : Int, en = .returned (.tuple #[.int .i64 p, .int .i64 (if closedP 0 L then 0 else 50)]) ∧ Grew w w') := closed_any h hf.sml
  have CH : Hid (∀ W n, Grew w W → Calls Tryd.prog 20 #[v, .int .i64 n] W fun en w' => en = .returned (.bool (inL L n)) ∧ Grew W w') := fun W n g => has_any (h.grew g) hf.sml.1 hf.sml.2.1
  have CU : Hid (∀ W, Calls Tryd.prog 21 #[] W fun en w' => ∃ db kb F, en = .returned (.pointer (some ⟨db, 0, none⟩)) ∧ InvD db kb 0 w' U0 F ∧ (∀ x, F x → W.heap.size ≤ x) ∧ Grew W w') := newUnbounded_any
  have CA : Hid (closedP 0 L = true → ∀ W db kb F, Grew w W → InvD db kb 0 W U0 F → (∀ x, F x → w.heap.size ≤ x) → Calls Tryd.prog 22 #[.pointer (some ⟨db, 0, none⟩), v] W fun en w' => ∃ iv, en = .returned iv ∧ LI w' iv (idsU L) ∧ Grew w w') :=
    fun hc W db kb F g hI hF => by
      obtain ⟨s', hn, _⟩ := idsU_eq hf.sml hc
      exact (allD_any ht (fun W' t => h.grew (t.grew g hF)) hf hc g hI hF good_U0 (by decide) (by decide) hn).mono fun en w' ⟨iv, F', e, r, _, n, _⟩ => ⟨iv, e, r.lst, n.turn.grew g hF⟩
  have HL : Hid (closedP 0 L = true → (idsU L).length = cntT L) := fun hc => by
    obtain ⟨s', _, hl, _⟩ := idsU_eq hf.sml hc
    exact hl
  have hcnt := hf.sml.2.1
  obtain ⟨va, vc, ev, _⟩ := h.one
  subst ev
  clear h hf ht
  generalize hN : L.length = N at *
  clear hN
  unfold sameR sameE
  cases hc : closedP 0 L with
  | false =>
    rw [hc] at CC
    clear CA CU CH
    go_enter Tryd.func7, Tryd.ntmps7
    go_wp2_with fail
    refine CC.out.mono ?_
    rintro en w1 ⟨p, rfl, g1⟩
    have G1 : Hid (Grew w w1) := g1
    clear g1 CC
    go_wp2_with fail
    go_ret2
    exact ⟨rfl, G1.out⟩
  | true =>
    rw [hc] at CC
    have CA' := CA.out hc
    have CAH : Hid _ := CA'
    have HL' : Hid ((idsU L).length = cntT L) := HL.out hc
    clear CA CA' HL
    by_cases ha : inL L a = true
    · by_cases hb : inL L b = true
      · have ha' : 0 ≤ a ∧ a < (cntT L : Int) := by have h := ha; unfold inL at h; simpa using h
        have hb' : 0 ≤ b ∧ b < (cntT L : Int) := by have h := hb; unfold inL at h; simpa using h
        have C1 : Hid (∀ W, Grew w W → Calls Tryd.prog 20 #[.slice va N vc, .int .i64 a] W fun en w' => en = .returned (.bool true) ∧ Grew W w') := fun W g => by have := CH.out W a g; rw [ha] at this; exact this
        have C2 : Hid (∀ W, Grew w W → Calls Tryd.prog 20 #[.slice va N vc, .int .i64 b] W fun en w' => en = .returned (.bool true) ∧ Grew W w') := fun W g => by have := CH.out W b g; rw [hb] at this; exact this
        rw [ha, hb]
        obtain ⟨x, hx⟩ : ∃ x, atI (idsU L) a = x := ⟨_, rfl⟩
        obtain ⟨y, hy⟩ : ∃ y, atI (idsU L) b = y := ⟨_, rfl⟩
        rw [hx, hy]
        have HXY : Hid (atI (idsU L) a = x ∧ atI (idsU L) b = y) := ⟨hx, hy⟩
        clear CH ha hb hx hy
        go_enter Tryd.func7, Tryd.ntmps7
        go_wp2_with fail
        refine CC.out.mono ?_
        rintro en w1 ⟨p, rfl, g1⟩
        have G1 : Hid (Grew w w1) := g1
        clear g1 CC
        go_wp2_with fail
        refine (C1.out w1 G1.out).mono ?_
        rintro en w2 ⟨rfl, g2⟩
        have G2 : Hid (Grew w w2) := G1.out.trans g2
        clear g2 C1
        go_wp2_with fail
        refine (C2.out w2 G2.out).mono ?_
        rintro en w3 ⟨rfl, g3⟩
        have G3 : Hid (Grew w w3) := G2.out.trans g3
        clear g3 C2
        go_wp2_with fail
        refine (CU.out w3).mono ?_
        rintro en w4 ⟨db, kbb, F, rfl, hI, hF, g4⟩
        have HI : Hid (InvD db kbb 0 w4 U0 F) := hI
        have HF : Hid (∀ x, F x → w.heap.size ≤ x) := fun x hx => Nat.le_trans G3.out.2 (hF x hx)
        have G4 : Hid (Grew w w4) := G3.out.trans g4
        clear g4 hI hF CU
        go_wp2_with fail
        refine (CAH.out w4 db kbb F G4.out HI.out HF.out).mono ?_
        rintro en w5 ⟨iv, rfl, hr, g5⟩
        obtain ⟨ia, ic, hi, hic, him⟩ := hr.one
        subst hi
        obtain ⟨b5, o5, hb5, _, hE⟩ := hr.get (by rw [HL'.out]; omega)
        subst hb5
        have ga : (idsU L)[a.toNat]? = some (atI (idsU L) a) := by unfold atI; rw [List.getD_eq_getElem?_getD, List.getElem?_eq_getElem (by rw [HL'.out]; omega)]; rfl
        have gb : (idsU L)[b.toNat]? = some (atI (idsU L) b) := by unfold atI; rw [List.getD_eq_getElem?_getD, List.getElem?_eq_getElem (by rw [HL'.out]; omega)]; rfl
        rw [HXY.out.1] at ga
        rw [HXY.out.2] at gb
        have ka := hE _ _ ga
        have kb := hE _ _ gb
        unfold EI at ka kb
        rw [Nat.mul_one] at ka kb
        have G5 : Hid (Grew w w5) := g5
        have hla : a.toNat < (idsU L).length := by rw [HL'.out]; omega
        have hlb : b.toNat < (idsU L).length := by rw [HL'.out]; omega
        have da : decide (a.toNat < (idsU L).length) = true := by simp [hla]
        have dbb : decide (b.toNat < (idsU L).length) = true := by simp [hlb]
        clear hE ga gb hr g5 CAH HI HF
        generalize (idsU L).length = m at *
        by_cases hxy : x = y
        · subst hxy
          go_wp2_with fail
          go_region
          all_goals go_wp2_with fail
          all_goals go_ret2
          all_goals refine ⟨by simp, ?_⟩
          all_goals repeat (first | exact G5.out | refine Grew.alloc ?_ _ | refine Grew.drew ?_ | refine Grew.drewN ?_ _)
        · have hne : (x == y) = false := by simpa using hxy
          go_wp2_with fail
          go_region
          all_goals go_wp2_with fail
          all_goals go_ret2
          all_goals refine ⟨by simp [hxy], ?_⟩
          all_goals repeat (first | exact G5.out | refine Grew.alloc ?_ _ | refine Grew.drew ?_ | refine Grew.drewN ?_ _)
      · have hb0 : inL L b = false := by simpa using hb
        have C1 : Hid (∀ W, Grew w W → Calls Tryd.prog 20 #[.slice va N vc, .int .i64 a] W fun en w' => en = .returned (.bool true) ∧ Grew W w') := fun W g => by have := CH.out W a g; rw [ha] at this; exact this
        have C2 : Hid (∀ W, Grew w W → Calls Tryd.prog 20 #[.slice va N vc, .int .i64 b] W fun en w' => en = .returned (.bool false) ∧ Grew W w') := fun W g => by have := CH.out W b g; rw [hb0] at this; exact this
        rw [ha, hb0]
        clear CH ha hb CAH CU
        go_enter Tryd.func7, Tryd.ntmps7
        go_wp2_with fail
        refine CC.out.mono ?_
        rintro en w1 ⟨p, rfl, g1⟩
        have G1 : Hid (Grew w w1) := g1
        clear g1 CC
        go_wp2_with fail
        refine (C1.out w1 G1.out).mono ?_
        rintro en w2 ⟨rfl, g2⟩
        have G2 : Hid (Grew w w2) := G1.out.trans g2
        clear g2 C1
        go_wp2_with fail
        refine (C2.out w2 G2.out).mono ?_
        rintro en w3 ⟨rfl, g3⟩
        have G3 : Hid (Grew w w3) := G2.out.trans g3
        clear g3 C2
        go_wp2_with fail
        go_ret2
        exact ⟨rfl, G3.out⟩
    · have ha0 : inL L a = false := by simpa using ha
      have C1 : Hid (∀ W, Grew w W → Calls Tryd.prog 20 #[.slice va N vc, .int .i64 a] W fun en w' => en = .returned (.bool false) ∧ Grew W w') := fun W g => by have := CH.out W a g; rw [ha0] at this; exact this
      rw [ha0]
      clear CH ha CAH CU
      go_enter Tryd.func7, Tryd.ntmps7
      go_wp2_with fail
      refine CC.out.mono ?_
      rintro en w1 ⟨p, rfl, g1⟩
      have G1 : Hid (Grew w w1) := g1
      clear g1 CC
      go_wp2_with fail
      refine (C1.out w1 G1.out).mono ?_
      rintro en w2 ⟨rfl, g2⟩
      have G2 : Hid (Grew w w2) := G1.out.trans g2
      clear g2 C1
      go_wp2_with fail
      go_ret2
      exact ⟨rfl, G2.out⟩
end Go.Proofs.YthchhehmbldmdaaDoor
