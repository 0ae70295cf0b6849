/-
  The law StackDead walked; the statement itself is in the text SDead.
-/
import Derived.Test.YtkghplkmfpnhdaaGreatDoorStG
import Derived.Test.YtkghplkmfpnhdaaGreatDoorCaE
import Derived.Test.YtkghplkmfpnhdaaGreatDoorCaL
import Derived.Test.YtkghplkmfpnhdaaGreatDoorOpS
namespace Go.Proofs.YtkghplkmfpnhdaaGreatDoor
open Go.RowKit
set_option linter.unusedVariables false
set_option linter.unusedSimpArgs false

theorem sm_of {L : List RT} (h : (L.map muR).sum ≤ 1048576) : ∀ r ∈ L, SmR r := by
  intro r hr
  have h1 := sum_mem (μ := muR) hr
  have h3 : muR r = (r.types.map muS).sum + 1 := rfl
  refine ⟨by have := sum_len (μ := muS) (fun a => by unfold muS; omega) r.types; omega, fun x hx => ?_⟩
  have h2 := sum_mem (μ := muS) hx
  have h4 : muS x = x.supers.length + x.comp.params.length + x.comp.results.length + x.comp.fields.length + 1 := rfl
  exact ⟨by omega, by omega, by omega, by omega⟩
/- The last frame's row. -/
theorem CK.frow {B : Nat} {w : World} {C : Nat} {lv fv ov qv : Value} {lo : List LO} {fr : List Int} {ops : List VT} {fs : List FV} {x : FV} (h : CK B w C lv fv ov qv lo fr ops (fs ++ [x])) : ∃ g c, qv = .slice (some ⟨g, 0, none⟩) (fs.length + 1) c := by
  obtain ⟨g, c, hv, _⟩ := h.rfs.last
  exact ⟨g, c, hv⟩
set_option maxRecDepth 100000 in
set_option maxHeartbeats 4000000 in
theorem stackDead_any {w : World} {tv pv lv rv : Value} {L : List RT} {P Q R : List VT} {ia ua sa : Option Addr} {il ic ul uc sl sc : Nat} {li lu ls : List VT} (hL : LR w tv L) (hP : LV w pv P) (hQ : LV w lv Q) (hR : LV w rv R) (hi : LV w (.slice ia il ic) li) (hu : LV w (.slice ua ul uc) lu) (hs : LV w (.slice sa sl sc) ls)
    (hb : (L.map muR).sum + P.length + Q.length + R.length + li.length + lu.length + ls.length ≤ 1048576) :
    Calls Tryz.prog 3 #[.agg #[tv, pv, lv, rv], .slice ia il ic, .slice ua ul uc, .slice sa sl sc] w fun en w' => en = .returned (.bool true) ∧ Grew w w' := by
  have CB : Hid (∀ X, Grew w X → Calls Tryz.prog 6 #[.agg #[tv, pv, lv, rv]] X fun en w' => ∃ C lv' qv x p, en = .returned (.tuple #[.pointer (some ⟨C, 0, none⟩), .pointer p]) ∧ x.height = 0 ∧ x.fresh = 0 ∧ x.dead = false ∧ CK X.heap.size w' C lv' NILS NILS qv (locs P Q) [] [] [x] ∧ Grew X w') := fun X g => begin_any (hL.grew g) (hP.grew g) (hQ.grew g) (hR.grew g) (by have := sum_len (μ := muR) (fun a => by unfold muR; omega) L; omega) (sm_of (by omega)) (by omega) (by omega)
  have HI := Hid.mk' hi
  have HU := Hid.mk' hu
  have HS := Hid.mk' hs
  obtain rfl := hi.len
  obtain rfl := hu.len
  obtain rfl := hs.len
  have CLI : Hid (∀ X, Grew w X → Calls Tryz.prog 11 #[.slice ia li.length ic] X fun en w' => ∃ u, en = .returned u ∧ RowV X.heap.size w' u li ∧ Grew X w') := fun X g => llist_any (hi.grew g) (by omega)
  have CLU : Hid (∀ X, Grew w X → Calls Tryz.prog 11 #[.slice ua lu.length uc] X fun en w' => ∃ u, en = .returned u ∧ RowV X.heap.size w' u lu ∧ Grew X w') := fun X g => llist_any (hu.grew g) (by omega)
  have CLS : Hid (∀ X, Grew w X → Calls Tryz.prog 11 #[.slice sa ls.length sc] X fun en w' => ∃ u, en = .returned u ∧ RowV X.heap.size w' u ls ∧ Grew X w') := fun X g => llist_any (hs.grew g) (by omega)
  have b1 : li.length ≤ 1048576 := by omega
  have b2 : lu.length ≤ 1048576 := by omega
  have b3 : ls.length ≤ 1048576 := by omega
  obtain ⟨ta, tc, hv, _⟩ := hL.one
  subst hv
  obtain ⟨pa, pc, hv, _⟩ := hP.one
  subst hv
  obtain ⟨qa, qc, hv, _⟩ := hQ.one
  subst hv
  obtain ⟨ra, rc, hv, _⟩ := hR.one
  subst hv
  clear hL hP hQ hR hi hu hs hb
  generalize locs P Q = LL at *
  go_enter Tryz.func3, Tryz.ntmps3
  go_wp2_with fail
  refine (CB.out _ ((Grew.refl w).alloc _)).mono ?_
  rintro en w1 ⟨C, lv1, qv1, x, p1, rfl, hx1, hx2, hx3, K1, g1⟩
  have K1' := K1.low (B' := w.heap.size) (by simp)
  have G1 := Hid.mk' (((Grew.refl w).alloc _).trans g1)
  obtain ⟨g, c, hq⟩ := CK.frow (fs := []) K1'
  subst hq
  have H1 : Hid (CK w.heap.size w1 C lv1 NILS NILS (.slice (some ⟨g, 0, none⟩) (([] : List FV).length + 1) c) LL [] [] ([] ++ [x])) := K1'
  have C1 := unreachM H1.out (by simp [hx1])
  clear CB K1 K1' g1
  go_wp2_with fail
  refine C1.mono ?_
  rintro en w2 ⟨ov2, rfl, K2, B2, T2, e2⟩
  rw [List.take_nil] at K2
  have G2 := Hid.mk' (KB.grew G1.out B2)
  have H2 := Hid.mk' K2
  have he2 : ov2.ownBlock = none := e2
  obtain ⟨oa2, oc2, hov2⟩ := row_one K2.rops
  simp only [List.length_nil] at hov2
  subst hov2
  have C2 := heightM K2
  have C3 := reachedM K2
  have hdie : (!x.die.dead) = false := rfl
  rw [hdie] at C3
  simp only [List.length_nil] at C2
  clear C1 K2 B2 T2 e2 H1 G1
  go_wp2_with fail
  refine C2.mono ?_
  rintro en wX ⟨rfl, hwX⟩
  obtain rfl := hwX.symm
  clear hwX C2
  go_wp2_with fail
  refine C3.mono ?_
  rintro en w3 ⟨rfl, g3⟩
  have G3 := Hid.mk' (G2.out.trans g3)
  have H3 := Hid.mk' (H2.out.grew g3)
  clear g3 C3 H2 G2
  go_wp2_with fail
  refine (CLS.out _ G3.out).mono ?_
  rintro en w4 ⟨u4, rfl, r4, g4⟩
  have G4 := Hid.mk' (G3.out.trans g4)
  have H4 := Hid.mk' (H3.out.grew g4)
  have C4 := popsD H4.out (RowV.lst r4) (fun _ => ⟨rfl, hx1.symm⟩)
  obtain ⟨a4, c4, hu4⟩ := row_one r4
  subst hu4
  clear g4 r4 H3 G3 CLS
  go_wp2_with fail
  refine C4.mono ?_
  rintro en w5 ⟨rfl, g5⟩
  have G5 := Hid.mk' (G4.out.trans g5)
  have H5 := Hid.mk' (H4.out.grew g5)
  clear g5 H4 G4 C4
  go_wp2_with fail
  refine (CLI.out _ G5.out).mono ?_
  rintro en w6 ⟨u6, rfl, r6, g6⟩
  have G6 := Hid.mk' (G5.out.trans g6)
  have H6 := Hid.mk' (H5.out.grew g6)
  have R6 := Hid.mk' r6
  obtain ⟨a6, c6, hu6⟩ := row_one r6
  subst hu6
  clear g6 r6 H5 CLI
  go_wp2_with fail
  refine (CLU.out _ G6.out).mono ?_
  rintro en w7 ⟨u7, rfl, r7, g7⟩
  have G7 := Hid.mk' (G6.out.trans g7)
  have H7 := Hid.mk' (H6.out.grew g7)
  have R67 := Hid.mk' (R6.out.grew g7)
  have R7 := Hid.mk' r7
  obtain ⟨a7, c7, hu7⟩ := row_one r7
  subst hu7
  have C7 := enterM H7.out (by simp) R67.out R7.out b1 b2 (by simp) (by simp) (popsD H7.out (RowV.lst R67.out) (fun _ => ⟨rfl, hx1.symm⟩))
  clear g7 r7 H6 CLU R6 G5 G6
  go_wp2_with fail
  refine C7.mono ?_
  rintro en w8 ⟨ov8, qv8, a8, b8, rfl, K8, na8, nb8, B8, _⟩
  have G8 := Hid.mk' (KB.grew G7.out B8)
  obtain ⟨g', c', hq8⟩ := CK.frow K8
  subst hq8
  have H8 := Hid.mk' K8
  have NA8 := Hid.mk' na8
  have NB8 := Hid.mk' nb8
  have C8 := reachedM K8
  simp only [Bool.not_false] at C8
  clear C7 K8 na8 nb8 B8 H7 G7 R67 R7
  go_wp2_with fail
  refine C8.mono ?_
  rintro en w9 ⟨rfl, g9⟩
  have G9 := Hid.mk' (G8.out.trans g9)
  have H9 := Hid.mk' (H8.out.grew g9)
  have NA9 := Hid.mk' (NA8.out.grew g9)
  have NB9 := Hid.mk' (NB8.out.grew g9)
  have C9 := unreachM H9.out (by simp)
  clear C8 g9 H8 G8 NA8 NB8
  go_wp2_with fail
  refine C9.mono ?_
  rintro en w10 ⟨ov10, rfl, K10, B10, T10, e10⟩
  have hno9 := H9.out.noV
  have NA10 := Hid.mk' (NA9.out.two T10 hno9.1 (fun g hg => Or.inl (hno9.2 g hg)))
  have NB10 := Hid.mk' (NB9.out.two T10 hno9.1 (fun g hg => Or.inl (hno9.2 g hg)))
  simp only [List.length_nil, List.take_zero] at K10
  have G10 := Hid.mk' (KB.grew G9.out B10)
  have H10 := Hid.mk' K10
  have C10 := leaveM (lo' := LL) (fr' := []) H10.out (NA10.out.lst (by omega)) (NB10.out.lst (by omega)) b1 b2 rfl (fun _ => rfl) (fun W gg => unsetE (H10.out.grew gg) (by simp))
  clear C9 K10 B10 T10 e10 hno9 H9 G9 NA9 NB9
  go_wp2_with fail
  refine C10.mono ?_
  rintro en w11 ⟨fv11, qv11, a11, b11, rfl, K11, na11, nb11, B11, _⟩
  have G11 := Hid.mk' (KB.grew G10.out B11)
  obtain ⟨g'', c'', hq11⟩ := CK.frow (fs := []) K11
  subst hq11
  have H11 : Hid (CK w.heap.size w11 C lv1 fv11 ov10 (.slice (some ⟨g'', 0, none⟩) (([] : List FV).length + 1) c'') LL [] [] ([] ++ [x.die])) := K11
  have C11 := same_any (na11.lst (by omega)) (HI.out.grew G11.out) b1
  have NB11 := Hid.mk' nb11
  obtain ⟨ga11, _, hga11, _⟩ := na11
  obtain ⟨gb11, _, hgb11, _⟩ := nb11
  subst hga11 hgb11
  clear C10 K11 B11 NA10 NB10 H10 G10
  go_wp2_with fail
  refine C11.mono ?_
  rintro en w12 ⟨rfl, g12⟩
  have G12 := Hid.mk' (G11.out.trans g12)
  have H12 := Hid.mk' (H11.out.grew g12)
  have C12 := same_any ((NB11.out.grew g12).lst (by omega)) (HU.out.grew G12.out) b2
  clear C11 g12 H11 G11 NB11
  go_wp2_with fail
  refine C12.mono ?_
  rintro en w13 ⟨rfl, g13⟩
  have G13 := Hid.mk' (G12.out.trans g13)
  have H13 := Hid.mk' (H12.out.grew g13)
  have C13 := heightM H13.out
  have C14 := depthM H13.out
  have C15 := reachedM H13.out
  have hdie2 : (!x.die.dead) = false := rfl
  rw [hdie2] at C15
  simp only [List.length_nil, List.nil_append, List.length_cons, Nat.zero_add] at C13 C14
  clear C12 g13 H12 G12
  go_wp2_with fail
  refine C13.mono ?_
  rintro en wX ⟨rfl, hwX⟩
  obtain rfl := hwX.symm
  clear hwX C13
  go_wp2_with fail
  refine C14.mono ?_
  rintro en wX ⟨rfl, hwX⟩
  obtain rfl := hwX.symm
  clear hwX C14
  go_wp2_with fail
  refine C15.mono ?_
  rintro en w16 ⟨rfl, g16⟩
  have G16 := Hid.mk' (G13.out.trans g16)
  clear g16 C15
  go_wp2_with fail
  go_ret
  exact ⟨rfl, G16.out⟩
end Go.Proofs.YtkghplkmfpnhdaaGreatDoor
