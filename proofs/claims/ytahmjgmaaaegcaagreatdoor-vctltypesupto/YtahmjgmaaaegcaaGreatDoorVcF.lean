/-
  A function type by its number, of both; no statement is proved here.
-/
import Derived.Test.YtahmjgmaaaegcaaGreatDoorVcA
import Derived.Test.YtahmjgmaaaegcaaGreatDoorVcX
import Derived.Test.YtahmjgmaaaegcaaGreatDoorVcS
import Derived.Test.YtahmjgmaaaegcaaGreatDoorOpC
import Derived.Deep.RegionHeld3
namespace Go.Proofs.YtahmjgmaaaegcaaGreatDoor
open Go.RowKit
set_option linter.unusedVariables false
set_option linter.unusedSimpArgs false

theorem cnt_sum (L : List RT) : cntT L ≤ (L.map muR).sum := by
  induction L with
  | nil => simp [cntT]
  | cons r L ih =>
    have := sum_len (μ := muS) (fun a => by unfold muS; omega) r.types
    simp only [cntT, List.map_cons, List.sum_cons]
    unfold muR at ih ⊢
    omega
theorem sml_of {L : List RT} (h : (L.map muR).sum ≤ 1048576) : SmlL L := by
  refine ⟨Nat.le_trans (sum_len (fun a => by unfold muR; omega) L) h, Nat.le_trans (cnt_sum L) h, fun r hr x hx => ?_⟩
  have h1 := sum_mem (μ := muR) hr
  have h2 := sum_mem (μ := muS) hx
  have h3 : muR r = (r.types.map muS).sum + 1 := rfl
  have h4 : muS x = x.supers.length + x.comp.params.length + x.comp.results.length + x.comp.fields.length + 1 := rfl
  exact ⟨by omega, by omega, by omega, by omega⟩
/- What a function type takes and answers, and the error. -/
def ftF (L : List RT) (n : Int) : List VT × List VT × Int :=
  if n < 0 then ([], [], 150) else
    match (flatT L)[n.toNat]? with
    | none => ([], [], 150)
    | some x => if x.comp.kind = 1 then (x.comp.params, x.comp.results, 0) else ([], [], 151)
def FtP (w' : World) (L : List RT) (n : Int) (en : Ending) : Prop := ∃ pv rv, en = .returned (.tuple #[pv, rv, .int .i64 (ftF L n).2.2]) ∧ LV w' pv (ftF L n).1 ∧ LV w' rv (ftF L n).2.1
theorem FtP.mk' {w' : World} {L : List RT} {n : Int} {p r : List VT} {e : Int} (h : ftF L n = (p, r, e)) {pv rv : Value} (hp : LV w' pv p) (hr : LV w' rv r) : FtP w' L n (.returned (.tuple #[pv, rv, .int .i64 e])) := ⟨pv, rv, by rw [h], by rw [h]; exact hp, by rw [h]; exact hr⟩
theorem flat_sml {L : List RT} (h : SmlL L) {m : Nat} {x : SB} (hx : (flatT L)[m]? = some x) : x.comp.params.length ≤ 1048576 ∧ x.comp.results.length ≤ 1048576 := by
  have hm := List.mem_of_getElem? hx
  unfold flatT at hm
  obtain ⟨r, hr, hxr⟩ := List.mem_flatMap.1 hm
  have := h.2.2 r hr x hxr
  unfold Sml at this
  omega
set_option maxRecDepth 100000 in
set_option maxHeartbeats 2000000 in
theorem funcP_any {w : World} {tv : Value} {L : List RT} (h : LR w tv L) (hb : (L.map muR).sum ≤ 1048576) (n : Int) (hn1 : n ≤ 9223372036854775807) (a1 : Option Addr) (l1 c1 : Nat) (a2 : Option Addr) (l2 c2 : Nat) (a3 : Option Addr) (l3 c3 : Nat) (a4 : Option Addr) (l4 c4 : Nat) (a5 : Option Addr) (l5 c5 : Nat) (a6 : Option Addr) (l6 c6 : Nat) (dt : Int) (a8 : Option Addr) (l8 c8 : Nat) :
    Calls Tryz.prog 12 #[.agg (ctxL tv a1 l1 c1 a2 l2 c2 a3 l3 c3 a4 l4 c4 a5 l5 c5 a6 l6 c6 dt a8 l8 c8).toArray, .int .i64 n] w fun en w' => FtP w' L n en ∧ Grew w w' := by
  have hs := sml_of hb
  obtain ⟨ta, tc, htv, _⟩ := h.one
  subst htv
  unfold ctxL
  have CA : Hid (∀ X, Grew w X → Calls Tryz.prog 27 #[.slice ta L.length tc, .int .i64 n, .int .i64 1] X fun en w' => ScP w' L n 1 en ∧ Grew X w') := fun X g => scomp_any (h.grew g) hs.1 hs.2.1 n hn1 1
  have HS := Hid.mk' hs
  clear h hs hb
  go_enter Tryz.func12, Tryz.ntmps12
  go_wp2_with fail
  have G0 : Grew w (w.alloc (.cells #[.slice ta L.length tc, .slice a1 l1 c1, .slice a2 l2 c2, .slice a3 l3 c3, .slice a4 l4 c4, .slice a5 l5 c5, .slice a6 l6 c6, .int .i64 dt, .slice a8 l8 c8] 41)) := (Grew.refl w).alloc _
  refine (CA.out _ G0).mono ?_
  rintro en w1 ⟨hat, g1⟩
  have G1 := Hid.mk' (G0.trans g1)
  clear G0 CA g1
  rcases hat with ⟨m, x, pv, rv, fv, rfl, hx, hk, hp, hr, hf, rfl⟩ | ⟨m, x, rfl, hx, hk, rfl⟩ | ⟨hn, rfl⟩
  · obtain ⟨pa, pc_, e2, _⟩ := hp.one
    obtain ⟨ra, rc, e3, _⟩ := hr.one
    obtain ⟨fa, fc, e4, _⟩ := hf.one
    subst e2 e3 e4
    have hft : ftF L (m : Int) = (x.comp.params, x.comp.results, 0) := by
      unfold ftF
      rw [if_neg (by omega)]
      simp only [Int.toNat_natCast, hx]
      rw [if_pos hk]
    have hsm := flat_sml HS.out hx
    have hlp : x.comp.params.length ≤ 1048576 := hsm.1
    have hlr : x.comp.results.length ≤ 1048576 := hsm.2
    have B2 := heap_alloc_last w1 (.cells #[.int .i64 1, .slice pa x.comp.params.length pc_, .slice ra x.comp.results.length rc, .slice fa x.comp.fields.length fc] 61)
    have g2 : Grew w1 (w1.alloc (.cells #[.int .i64 1, .slice pa x.comp.params.length pc_, .slice ra x.comp.results.length rc, .slice fa x.comp.fields.length fc] 61)) := (Grew.refl _).alloc _
    have hpp := hp.grew g2
    have hrr := hr.grew g2
    have G3 := Hid.mk' (G1.out.trans g2)
    have HE := Hid.mk' hft
    clear hp hr hf hx hsm g2 G1 HS hft hk
    · go_wp2_with fail
      generalize w1.alloc (.cells #[.int .i64 1, .slice pa x.comp.params.length pc_, .slice ra x.comp.results.length rc, .slice fa x.comp.fields.length fc] 61) = w2 at *
      obtain ⟨q, hq⟩ : ∃ q, q = w1.heap.size := ⟨_, rfl⟩
      rw [← hq] at B2
      simp only [← hq]
      clear hq
      have hql := lt_of_obj B2
      have s0 := cell_of B2 0
      have s1 := cell_of B2 1
      have s2 := cell_of B2 2
      have s3 := cell_of B2 3
      simp at s0 s1 s2 s3
      have CP : Hid (∀ X, Grew w2 X → Calls Tryz.prog 28 #[.slice pa x.comp.params.length pc_] X fun en w' => ∃ u, en = .returned u ∧ LV w' u x.comp.params ∧ Grew X w') := fun X g => clone_any (hpp.grew g) hlp
      have CR : Hid (∀ X, Grew w2 X → Calls Tryz.prog 28 #[.slice ra x.comp.results.length rc] X fun en w' => ∃ u, en = .returned u ∧ LV w' u x.comp.results ∧ Grew X w') := fun X g => clone_any (hrr.grew g) hlr
      clear hpp hrr s0 s3 B2
      go_region_held3 (fun w' => w'.cell? ⟨q, 1, none⟩ = some (.slice pa x.comp.params.length pc_) ∧ w'.cell? ⟨q, 2, none⟩ = some (.slice ra x.comp.results.length rc)) (go_keep) (first
      | (with_reducible refine (CP.out _ ?gr).mono ?_
         case gr => exact (by repeat (first | with_reducible exact GP.out | with_reducible exact GQ.out | with_reducible exact Grew.refl _ | refine Grew.alloc ?_ _ | refine Grew.drewN ?_ _ | refine Grew.drew ?_))
         rintro en wp ⟨up, rfl, hp, gp⟩
         have gg : Grew w2 wp := Grew.trans (by repeat (first | with_reducible exact GP.out | with_reducible exact GQ.out | with_reducible exact Grew.refl _ | refine Grew.alloc ?_ _ | refine Grew.drewN ?_ _ | refine Grew.drew ?_)) gp
         first
         | (have HQ2 := Hid.mk' (HQ.out.grew (Grew.trans (by repeat (first | with_reducible exact Grew.refl _ | refine Grew.drewN ?_ _ | refine Grew.drew ?_)) gp)))
         | skip
         have GP := Hid.mk' gg
         have HP := Hid.mk' hp
         have tP3 := cell_grew s1 gg
         have tP4 := cell_grew s2 gg
         obtain ⟨xaP, xcP, hxvP, _⟩ := hp.one
         subst hxvP
         clear gp hp gg)
      | (with_reducible refine (CR.out _ ?gr).mono ?_
         case gr => exact (by repeat (first | with_reducible exact GP.out | with_reducible exact GQ.out | with_reducible exact Grew.refl _ | refine Grew.alloc ?_ _ | refine Grew.drewN ?_ _ | refine Grew.drew ?_))
         rintro en wp ⟨up, rfl, hp, gp⟩
         have gg : Grew w2 wp := Grew.trans (by repeat (first | with_reducible exact GP.out | with_reducible exact GQ.out | with_reducible exact Grew.refl _ | refine Grew.alloc ?_ _ | refine Grew.drewN ?_ _ | refine Grew.drew ?_)) gp
         first
         | (have HP2 := Hid.mk' (HP.out.grew (Grew.trans (by repeat (first | with_reducible exact Grew.refl _ | refine Grew.drewN ?_ _ | refine Grew.drew ?_)) gp)))
         | skip
         have GQ := Hid.mk' gg
         have HQ := Hid.mk' hp
         have tQ3 := cell_grew s1 gg
         have tQ4 := cell_grew s2 gg
         obtain ⟨xaQ, xcQ, hxvQ, _⟩ := hp.one
         subst hxvQ
         clear gp hp gg)
      | fail)
      all_goals
        go_wp2_with fail
        refine bodyPost_ret (v := .tuple #[.slice xaP x.comp.params.length xcP, .slice xaQ x.comp.results.length xcQ, .int .i64 0]) (by simp [results, Tryz.results12, go_sem]) rfl ?_
        first
        | exact ⟨FtP.mk' HE.out HP2.out HQ.out, G3.out.trans (by repeat (first | with_reducible exact GP.out | with_reducible exact GQ.out | with_reducible exact Grew.refl _ | refine Grew.alloc ?_ _ | refine Grew.drewN ?_ _ | refine Grew.drew ?_))⟩
        | exact ⟨FtP.mk' HE.out HP.out HQ2.out, G3.out.trans (by repeat (first | with_reducible exact GP.out | with_reducible exact GQ.out | with_reducible exact Grew.refl _ | refine Grew.alloc ?_ _ | refine Grew.drewN ?_ _ | refine Grew.drew ?_))⟩
  · have HE : Hid (ftF L (m : Int) = ([], [], 151)) := by
      show ftF L (m : Int) = ([], [], 151)
      unfold ftF
      rw [if_neg (by omega)]
      simp only [Int.toNat_natCast, hx]
      rw [if_neg hk]
    clear hx hk
    unfold ZC
    go_wp2_with fail
    refine bodyPost_ret (v := .tuple #[.slice none 0 0, .slice none 0 0, .int .i64 151]) (by simp [results, Tryz.results12, go_sem]) rfl ?_
    exact ⟨FtP.mk' HE.out (Lst.nil _ _ _) (Lst.nil _ _ _), G1.out.alloc _⟩
  · have HE : Hid (ftF L n = ([], [], 150)) := by
      show ftF L n = ([], [], 150)
      unfold ftF
      split
      · rfl
      · rename_i h0
        have : (flatT L)[n.toNat]? = none := by
          rw [List.getElem?_eq_none_iff]
          rcases Nat.lt_or_ge n.toNat (flatT L).length with hlt | hge
          · exact absurd ⟨by omega, by omega⟩ hn
          · exact hge
        rw [this]
    clear hn
    unfold ZC
    go_wp2_with fail
    refine bodyPost_ret (v := .tuple #[.slice none 0 0, .slice none 0 0, .int .i64 150]) (by simp [results, Tryz.results12, go_sem]) rfl ?_
    exact ⟨FtP.mk' HE.out (Lst.nil _ _ _) (Lst.nil _ _ _), G1.out.alloc _⟩
set_option maxRecDepth 100000 in
set_option maxHeartbeats 2000000 in
theorem funcD_any {w : World} {tv : Value} {L : List RT} (h : LR w tv L) (hb : (L.map muR).sum ≤ 1048576) (n : Int) (hn1 : n ≤ 9223372036854775807) (a1 : Option Addr) (l1 c1 : Nat) (a2 : Option Addr) (l2 c2 : Nat) (a3 : Option Addr) (l3 c3 : Nat) (a4 : Option Addr) (l4 c4 : Nat) (a5 : Option Addr) (l5 c5 : Nat) (a6 : Option Addr) (l6 c6 : Nat) (dt : Int) (a8 : Option Addr) (l8 c8 : Nat) :
    Calls Tryz.prog 13 #[.agg (ctxL tv a1 l1 c1 a2 l2 c2 a3 l3 c3 a4 l4 c4 a5 l5 c5 a6 l6 c6 dt a8 l8 c8).toArray, .int .i64 n] w fun en w' => FtP w' L n en ∧ Grew w w' := by
  have hs := sml_of hb
  obtain ⟨ta, tc, htv, _⟩ := h.one
  subst htv
  unfold ctxL
  have CA : Hid (∀ X, Grew w X → Calls Tryz.prog 29 #[.slice ta L.length tc, .int .i64 n] X fun en w' => AtR X L n en ∧ (0 ≤ n → n < ((flatT L).length : Int) → en ≠ .returned (.tuple #[.agg ZS, .int .i64 0, .int .i64 0, .bool false])) ∧ Grew X w') := fun X g => dat_any (h.grew g) hs.1 hs.2.1 n hn1
  have HS := Hid.mk' hs
  clear h hs hb
  go_enter Tryz.func13, Tryz.ntmps13
  go_wp2_with fail
  have G0 : Grew w (w.alloc (.cells #[.slice ta L.length tc, .slice a1 l1 c1, .slice a2 l2 c2, .slice a3 l3 c3, .slice a4 l4 c4, .slice a5 l5 c5, .slice a6 l6 c6, .int .i64 dt, .slice a8 l8 c8] 41)) := (Grew.refl w).alloc _
  refine (CA.out _ G0).mono ?_
  rintro en w1 ⟨hat, hne, g1⟩
  have G1 := Hid.mk' (G0.trans g1)
  clear G0 CA
  rcases hat with ⟨m, x, sv, pv, rv, fv, g, k, rfl, hx, hsub, rfl⟩ | rfl
  · have hsub := hsub.grew g1
    clear g1
    obtain ⟨sa, sc, e1, _⟩ := hsub.1.one
    obtain ⟨pa, pc_, e2, _⟩ := hsub.2.1.one
    obtain ⟨ra, rc, e3, _⟩ := hsub.2.2.1.one
    obtain ⟨fa, fc, e4, _⟩ := hsub.2.2.2.one
    subst e1 e2 e3 e4
    have hft : ftF L (m : Int) = if x.comp.kind = 1 then (x.comp.params, x.comp.results, 0) else ([], [], 151) := by
      unfold ftF
      rw [if_neg (by omega)]
      simp only [Int.toNat_natCast, hx]
    have hsm := flat_sml HS.out hx
    have hlp : x.comp.params.length ≤ 1048576 := hsm.1
    have hlr : x.comp.results.length ≤ 1048576 := hsm.2
    have B2 := heap_alloc_last w1 (.cells #[.bool x.final_, .slice sa x.supers.length sc, .int .i64 x.comp.kind, .slice pa x.comp.params.length pc_, .slice ra x.comp.results.length rc, .slice fa x.comp.fields.length fc] 66)
    have g2 : Grew w1 (w1.alloc (.cells #[.bool x.final_, .slice sa x.supers.length sc, .int .i64 x.comp.kind, .slice pa x.comp.params.length pc_, .slice ra x.comp.results.length rc, .slice fa x.comp.fields.length fc] 66)) := (Grew.refl _).alloc _
    have hpp := hsub.2.1.grew g2
    have hrr := hsub.2.2.1.grew g2
    have G3 := Hid.mk' (G1.out.trans g2)
    clear hsub hx hne hsm g2 G1 HS
    have HF := Hid.mk' hft
    clear hft
    by_cases hk : x.comp.kind = 1
    · have HE := Hid.mk' (HF.out.trans (if_pos hk))
      have d1 : (x.comp.kind == 1) = true := by simpa using hk
      have d2 : (x.comp.kind != 1) = false := by simpa using hk
      clear hk HF
      go_wp2_with fail
      generalize w1.alloc (.cells #[.bool x.final_, .slice sa x.supers.length sc, .int .i64 x.comp.kind, .slice pa x.comp.params.length pc_, .slice ra x.comp.results.length rc, .slice fa x.comp.fields.length fc] 66) = w2 at *
      obtain ⟨q, hq⟩ : ∃ q, q = w1.heap.size := ⟨_, rfl⟩
      rw [← hq] at B2
      simp only [← hq]
      clear hq
      have hql := lt_of_obj B2
      have s0 := cell_of B2 0
      have s1 := cell_of B2 1
      have s2 := cell_of B2 2
      have s3 := cell_of B2 3
      have s4 := cell_of B2 4
      have s5 := cell_of B2 5
      simp at s0 s1 s2 s3 s4 s5
      have HPP := Hid.mk' hpp
      have HRR := Hid.mk' hrr
      clear hpp hrr
      go_quiet (fail)
      go_wp2_with fail
      refine bodyPost_ret (v := .tuple #[.slice pa x.comp.params.length pc_, .slice ra x.comp.results.length rc, .int .i64 0]) (by simp [results, Tryz.results13, go_sem]) rfl ?_
      exact ⟨FtP.mk' HE.out (HPP.out.grew (by repeat (first | with_reducible exact Grew.refl _ | refine Grew.drewN ?_ _ | refine Grew.drew ?_))) (HRR.out.grew (by repeat (first | with_reducible exact Grew.refl _ | refine Grew.drewN ?_ _ | refine Grew.drew ?_))), (by repeat (first | with_reducible exact G3.out | refine Grew.alloc ?_ _ | refine Grew.drewN ?_ _ | refine Grew.drew ?_))⟩
    · have HE := Hid.mk' (HF.out.trans (if_neg hk))
      have d1 : (x.comp.kind == 1) = false := by simpa using hk
      have d2 : (x.comp.kind != 1) = true := by simpa using hk
      clear hk HF
      go_wp2_with fail
      refine bodyPost_ret (v := .tuple #[.slice none 0 0, .slice none 0 0, .int .i64 151]) (by simp [results, Tryz.results13, go_sem]) rfl ?_
      exact ⟨FtP.mk' HE.out (Lst.nil _ _ _) (Lst.nil _ _ _), G3.out⟩
  · have hft : ftF L n = ([], [], 150) := by
      unfold ftF
      split
      · rfl
      · rename_i h0
        have : (flatT L)[n.toNat]? = none := by
          rw [List.getElem?_eq_none_iff]
          rcases Nat.lt_or_ge n.toNat (flatT L).length with hlt | hge
          · exact absurd rfl (hne (by omega) (by omega))
          · exact hge
        rw [this]
    clear hne g1
    unfold ZS
    have HE := Hid.mk' hft
    clear hft
    go_wp2_with fail
    refine bodyPost_ret (v := .tuple #[.slice none 0 0, .slice none 0 0, .int .i64 150]) (by simp [results, Tryz.results13, go_sem]) rfl ?_
    exact ⟨FtP.mk' HE.out (Lst.nil _ _ _) (Lst.nil _ _ _), G1.out.alloc _⟩
end Go.Proofs.YtahmjgmaaaegcaaGreatDoor
