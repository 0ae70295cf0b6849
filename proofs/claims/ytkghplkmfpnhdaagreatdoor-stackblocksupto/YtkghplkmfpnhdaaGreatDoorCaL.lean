/-
  Leave; no statement is proved here.
-/
import Derived.Test.YtkghplkmfpnhdaaGreatDoorCaQ
import Derived.Test.YtkghplkmfpnhdaaGreatDoorNeW
import Derived.Deep.RegionHeld3
namespace Go.Proofs.YtkghplkmfpnhdaaGreatDoor
open Go.RowKit
set_option linter.unusedVariables false
set_option linter.unusedSimpArgs false

/- What the first statement of Leave leaves: the frame's copy in the block bF, another block bA, all else as in w3. -/
def LeafP (w w3 W : World) (bA bF : Nat) (xs : Array Value) : Prop := Grew w W ∧ W.heap[bF]? = some (.cells xs 73 (0, 0)) ∧ ∀ (Y : Nat) (o : Obj), w3.heap[Y]? = some o → Y ≠ bA → Y ≠ bF → W.heap[Y]? = some o
theorem leafA {w w3 : World} {xs : Array Value} {v : Value} {t : TypeId} (g : Grew w w3) : LeafP w w3 ((w3.alloc (.cells #[v] t)).alloc (.cells xs 73)) w3.heap.size (w3.heap.size + 1) xs := by
  refine ⟨(g.alloc _).alloc _, ?_, fun Y o h _ _ => heap_alloc (heap_alloc h _) _⟩
  have h0 := heap_alloc_last (w3.alloc (.cells #[v] t)) (.cells xs 73)
  rw [alloc_size] at h0
  exact h0
theorem leafB {w w3 : World} {xs : Array Value} {v : Value} {t : TypeId} (g : Grew w w3) : LeafP w w3 ((w3.alloc (.cells xs 73)).alloc (.cells #[v] t)) (w3.heap.size + 1) w3.heap.size xs :=
  ⟨(g.alloc _).alloc _, heap_alloc (heap_alloc_last _ _) _, fun Y o h _ _ => heap_alloc (heap_alloc h _) _⟩
theorem leafC {w w3 : World} {xs : Array Value} {v : Value} {bA : Nat} (g : Grew w w3) (hA : w.heap.size ≤ bA) : LeafP w w3 ((w3.setCell ⟨bA, 0, none⟩ v).alloc (.cells xs 73)) bA w3.heap.size xs := by
  refine ⟨(g.set (p := ⟨bA, 0, none⟩) hA v).alloc _, ?_, fun Y o h hy _ => heap_alloc (heap_other h (by simpa using hy) _) _⟩
  have h0 := heap_alloc_last (w3.setCell ⟨bA, 0, none⟩ v) (.cells xs 73)
  rw [show (w3.setCell ⟨bA, 0, none⟩ v).heap.size = w3.heap.size by simp] at h0
  exact h0
theorem leafD {w w3 : World} {y0 y1 y2 y3 y4 y5 x0 x1 x2 x3 x4 x5 v : Value} {bA bF : Nat} (g : Grew w w3) (hA : w.heap.size ≤ bA) (hF : w.heap.size ≤ bF) (hne : bF ≠ bA) (h : w3.heap[bF]? = some (.cells #[y0, y1, y2, y3, y4, y5] 73 (0, 0))) :
    LeafP w w3 (((((((w3.setCell ⟨bA, 0, none⟩ v).setCell ⟨bF, 0, none⟩ x0).setCell ⟨bF, 1, none⟩ x1).setCell ⟨bF, 2, none⟩ x2).setCell ⟨bF, 3, none⟩ x3).setCell ⟨bF, 4, none⟩ x4).setCell ⟨bF, 5, none⟩ x5) bA bF #[x0, x1, x2, x3, x4, x5] := by
  refine ⟨((((((g.set (p := ⟨bA, 0, none⟩) hA v).set (p := ⟨bF, 0, none⟩) hF x0).set (p := ⟨bF, 1, none⟩) hF x1).set (p := ⟨bF, 2, none⟩) hF x2).set (p := ⟨bF, 3, none⟩) hF x3).set (p := ⟨bF, 4, none⟩) hF x4).set (p := ⟨bF, 5, none⟩) hF x5, ?_, fun Y o hY h1 h2 => ?_⟩
  · exact heap_set (heap_set (heap_set (heap_set (heap_set (heap_set (heap_other h (by simpa using hne) v) 0 x0) 1 x1) 2 x2) 3 x3) 4 x4) 5 x5
  · exact heap_other (heap_other (heap_other (heap_other (heap_other (heap_other (heap_other hY (by simpa using h1) _) (by simpa using h2) _) (by simpa using h2) _) (by simpa using h2) _) (by simpa using h2) _) (by simpa using h2) _) (by simpa using h2) _
theorem leafE {w w3 : World} {y0 y1 y2 y3 y4 y5 x0 x1 x2 x3 x4 x5 v : Value} {t : TypeId} {bF : Nat} (g : Grew w w3) (hF : w.heap.size ≤ bF) (h : w3.heap[bF]? = some (.cells #[y0, y1, y2, y3, y4, y5] 73 (0, 0))) :
    LeafP w w3 (((((((w3.setCell ⟨bF, 0, none⟩ x0).setCell ⟨bF, 1, none⟩ x1).setCell ⟨bF, 2, none⟩ x2).setCell ⟨bF, 3, none⟩ x3).setCell ⟨bF, 4, none⟩ x4).setCell ⟨bF, 5, none⟩ x5).alloc (.cells #[v] t)) w3.heap.size bF #[x0, x1, x2, x3, x4, x5] := by
  refine ⟨((((((g.set (p := ⟨bF, 0, none⟩) hF x0).set (p := ⟨bF, 1, none⟩) hF x1).set (p := ⟨bF, 2, none⟩) hF x2).set (p := ⟨bF, 3, none⟩) hF x3).set (p := ⟨bF, 4, none⟩) hF x4).set (p := ⟨bF, 5, none⟩) hF x5).alloc _, ?_, fun Y o hY h1 h2 => ?_⟩
  · exact heap_alloc (heap_set (heap_set (heap_set (heap_set (heap_set (heap_set h 0 x0) 1 x1) 2 x2) 3 x3) 4 x4) 5 x5) _
  · exact heap_alloc (heap_other (heap_other (heap_other (heap_other (heap_other (heap_other hY (by simpa using h2) _) (by simpa using h2) _) (by simpa using h2) _) (by simpa using h2) _) (by simpa using h2) _) (by simpa using h2) _) _
theorem drew_cell (W : World) (p : Addr) : W.drew.cell? p = W.cell? p := rfl
set_option maxRecDepth 100000 in
set_option maxHeartbeats 60000000 in
theorem leaveM {B : Nat} {w : World} {C : Nat} {lv fv ov : Value} {lo lo' : List LO} {fr fr' : List Int} {ops : List VT} {fs : List FV} {x : FV} {g c : Nat} (h : CK B w C lv fv ov (.slice (some ⟨g, 0, none⟩) (fs.length + 1) c) lo fr ops (fs ++ [x])) {li lu : List VT} (hi : LV w x.inn li) (hu : LV w x.out lu) (h1 : li.length ≤ 1048576) (h2 : lu.length ≤ 1048576) (hh : ops.length = x.height) (hd : 0 < lu.length → x.dead = true)
    (hus : ∀ W, Grew w W → Calls Tryz.prog 41 #[.pointer (some ⟨C, 0, none⟩), .int .i64 (x.fresh : Int)] W fun en w' => ∃ fv', en = .returned (.tuple #[]) ∧ CK B w' C lv fv' ov (.slice (some ⟨g, 0, none⟩) (fs.length + 1) c) lo' fr' ops (fs ++ [x]) ∧ KB B W w' ∧ Two C lv W w') :
    Calls Tryz.prog 13 #[.pointer (some ⟨C, 0, none⟩)] w fun en w' => ∃ fv' qv' a b, en = .returned (.tuple #[.int .i64 x.op, a, b, .int .i64 0]) ∧ CK B w' C lv fv' ov qv' lo' fr' ops fs ∧ NewV w.heap.size w' a li ∧ NewV w.heap.size w' b lu ∧ KB B w w' ∧ KT w w' := by
  have C1 := openM h (by simp)
  have C2 : Hid (∀ W, Grew w W → Calls Tryz.prog 36 #[.pointer (some ⟨C, 0, none⟩)] W fun en w' => en = .returned x.v ∧ Grew W w') := fun W gg => topM (h.grew gg)
  have C3 : Hid (∀ W, Grew w W → Calls Tryz.prog 39 #[x.v] W fun en w' => ∃ a b, en = .returned (FV.v ⟨x.op, a, b, x.height, x.fresh, x.dead⟩) ∧ NewV W.heap.size w' a li ∧ NewV W.heap.size w' b lu ∧ Grew W w') := fun W gg => fcopied_any (hi.grew gg) (hu.grew gg) h1 h2
  have C4 : Hid (∀ W v, Grew w W → LV W v lu → Calls Tryz.prog 10 #[.pointer (some ⟨C, 0, none⟩), v] W fun en w' => en = .returned (.int .i64 0) ∧ Grew W w') := fun W v gg hl => popsD (h.grew gg) hl (fun h0 => ⟨hd h0, hh⟩)
  have C5 : Hid (∀ W, Grew w W → Calls Tryz.prog 35 #[.pointer (some ⟨C, 5, none⟩)] W fun en w' => en = .returned (.int .i64 (ops.length : Int)) ∧ w' = W) := fun W gg => heightV_any (h.grew gg)
  have HUS := Hid.mk' hus
  obtain ⟨⟨ia, il, ic, hi'⟩, ⟨ua, ul, uc, hu'⟩⟩ := h.sl x (by simp)
  have H := Hid.mk' h
  have c5 := h.c5
  obtain ⟨oa, oc, hov⟩ := row_one h.rops
  subst hov
  have hCl := h.lt
  clear h hi hu hus hd
  obtain ⟨op, inn, out, xh, ff, dd⟩ := x
  simp only at hi' hu' hh
  subst hi' hu' hh
  rw [FV.isAgg] at C2 C3
  simp only [FV.isAgg] at C2 C3 HUS ⊢
  go_enter Tryz.func13, Tryz.ntmps13
  go_wp2_with fail
  go_step3
  go_wp2_with fail
  refine C1.mono ?_
  rintro en w1 ⟨rfl, hw⟩
  obtain rfl := hw.symm
  clear hw C1
  go_wp2_with fail
  rename_i Q' K hK
  have REST : ∀ (bA bF ga gb : Nat) (W : World), Grew w W → W.heap[bF]? = some (.cells #[.int .i64 op, .slice (some ⟨ga, 0, none⟩) li.length li.length, .slice (some ⟨gb, 0, none⟩) lu.length lu.length, .int .i64 (ops.length : Int), .int .i64 (ff : Int), .bool dd] 73 (0, 0)) → NewV w.heap.size W (.slice (some ⟨ga, 0, none⟩) li.length li.length) li → NewV w.heap.size W (.slice (some ⟨gb, 0, none⟩) lu.length lu.length) lu →
      Exit.then K (Exit.noGoto Q') Exit.normal { tmps := #[.pointer (some ⟨C, 0, none⟩), undef, .int .i64 0, .slice none 0 0, .slice none 0 0, .int .i64 0, .int .i64 0, .pointer (some ⟨bA, 0, none⟩), .pointer (some ⟨bF, 0, none⟩), undef, .pointer (some ⟨C, 0, none⟩), .int .i64 0, .int .i64 0, .bool false, undef, .pointer (some ⟨C, 0, none⟩), .pointer (some ⟨C, 0, none⟩), .pointer (some ⟨C, 5, none⟩), .agg #[.slice oa ops.length oc], .pointer (some ⟨C, 0, none⟩), .agg #[.int .i64 op, .slice ia il ic, .slice ua ul uc, .int .i64 (ops.length : Int), .int .i64 (ff : Int), .bool dd], .agg #[.int .i64 op, .slice (some ⟨ga, 0, none⟩) li.length li.length, .slice (some ⟨gb, 0, none⟩) lu.length lu.length, .int .i64 (ops.length : Int), .int .i64 (ff : Int), .bool dd], undef, undef, undef, undef, undef, undef, undef, undef, undef, undef, undef, undef, undef, undef, undef, undef, undef, undef, undef, undef, undef, undef, undef, undef, undef, undef, undef, undef, undef, undef, undef, undef, undef, undef, undef, undef, undef], defers := [] } W := by
    intro bA bF ga gb W gW hFO na nb
    have GW := Hid.mk' gW
    have FO := Hid.mk' hFO
    have NA := Hid.mk' na
    have NB := Hid.mk' nb
    obtain ⟨⟨k0, k1, k2, k3, k4, k5⟩, _⟩ := six hFO
    have hbl := lt_of_obj hFO
    clear gW hFO na nb C2 C3
    apply hK
    go_wp2_with fail
    refine (C4.out W _ GW.out (NB.out.lst (by omega))).mono ?_
    rintro en w4 ⟨rfl, g4⟩
    have G4 := Hid.mk' (GW.out.trans g4)
    have FO4 := Hid.mk' ((g4.turn []).other FO.out (by simp))
    have NA4 := Hid.mk' (NA.out.grew g4)
    have NB4 := Hid.mk' (NB.out.grew g4)
    clear k0 k1 k2 k3 k4 k5 g4 FO NA NB GW C4
    obtain ⟨⟨k0, k1, k2, k3, k4, k5⟩, _⟩ := six FO4.out
    have hbl4 := lt_of_obj FO4.out
    have d1 : decide ((ops.length : Int) < (ops.length : Int)) = false := by simp
    have C5' := C5.out w4 G4.out
    have CU := HUS.out w4 G4.out
    go_wp2_with fail
    go_region_with (refine (C5.out _ (G4.out.trans (by repeat (first | with_reducible exact Grew.refl _ | refine Grew.alloc ?_ _ | refine Grew.drewN ?_ _ | refine Grew.drew ?_)))).mono ?_
                    rintro en wX ⟨rfl, hwX⟩
                    subst hwX)
    all_goals
      obtain ⟨w5, hw5⟩ : ∃ w5, w5 = w4.drew := ⟨_, rfl⟩
      have g5 : Grew w4 w5 := by rw [hw5]; exact (Grew.refl w4).drew
      rw [← hw5]
      clear hw5 CU C5'
      have G5 := Hid.mk' (G4.out.trans g5)
      have FO5 := Hid.mk' ((g5.turn []).other FO4.out (by simp))
      have NA5 := Hid.mk' (NA4.out.grew g5)
      have NB5 := Hid.mk' (NB4.out.grew g5)
      clear k0 k1 k2 k3 k4 k5 g5 FO4 NA4 NB4 G4
      obtain ⟨⟨k0, k1, k2, k3, k4, k5⟩, _⟩ := six FO5.out
      have hbl5 := lt_of_obj FO5.out
      go_wp2_with fail
      refine (HUS.out w5 G5.out).mono ?_
      rintro en w6 ⟨fv6, rfl, K6, B6, T6⟩
      have Hc5 := H.out.grew G5.out
      obtain ⟨gv5, rv5, _, _, co5⟩ := Hc5.obj
      have tlo : ∀ t : TypeId, t ≠ 82 → ∀ g', lv.ownBlock = some g' → NoT w5 g' t := fun t ht => row_no Hc5.rlo (fun hh => ht hh.symm)
      have FO6 := Hid.mk' ((T6 bF (lt_of_obj FO5.out) (fun hx => (NoT.of co5 (by decide) : NoT w5 C 73) _ _ (by rw [← hx]; exact FO5.out)) (fun hx => tlo 73 (by decide) bF hx.symm _ _ FO5.out)).trans FO5.out)
      have NA6 := Hid.mk' (NA5.out.two T6 (NoT.of co5 (by decide)) (fun g' hg' => Or.inl (tlo 44 (by decide) g' hg')))
      have NB6 := Hid.mk' (NB5.out.two T6 (NoT.of co5 (by decide)) (fun g' hg' => Or.inl (tlo 44 (by decide) g' hg')))
      have H6 := Hid.mk' K6
      have KT6 : Hid (KT w w6) := G5.out.kt.trans (T6.kt (H.out.grew G5.out).noE.1 (H.out.grew G5.out).noE.2.1)
      have KB6 : Hid (KB B w w6) := (G5.out.kb (by have := H.out.base; omega)).trans B6
      have hlen : ((fs ++ [(⟨op, .slice ia il ic, .slice ua ul uc, ops.length, ff, dd⟩ : FV)]).length) = fs.length + 1 := by simp
      have C6 : Hid (∀ W, Grew w6 W → Calls Tryz.prog 43 #[.pointer (some ⟨C, 6, none⟩)] W fun en w' => en = .returned (.int .i64 ((fs.length + 1 : Nat) : Int)) ∧ w' = W) := fun W gg => by
        have := heightF_any (K6.grew gg)
        rwa [hlen] at this
      have C7 : Hid (∀ W, Grew w6 W → Calls Tryz.prog 42 #[.pointer (some ⟨C, 6, none⟩), .int .i64 (fs.length : Int)] W fun en w' => ∃ v', en = .returned (.tuple #[]) ∧ CK B w' C lv fv6 (.slice oa ops.length oc) v' lo' fr' ops fs ∧ KB B w6 w' ∧ Two C NILS w6 w') := fun W gg => by
        have := cutF_any (K6.grew gg) (m := fs.length) (by rw [hlen]; omega)
        rw [show (fs ++ [(⟨op, .slice ia il ic, .slice ua ul uc, ops.length, ff, dd⟩ : FV)]).take fs.length = fs by simp] at this
        refine this.mono ?_
        rintro en w' ⟨v', h1, h2, h3, h4, _⟩
        exact ⟨v', h1, h2, (gg.kb (by have := K6.base; have := K6.lt; omega)).trans h3, fun y hy hC hq => (h4 y (Nat.lt_of_lt_of_le hy gg.2) hC hq).trans (gg.1.block y hy)⟩
      obtain ⟨_, _, hq6, hle6, hmx6, _⟩ := K6.rfs.last
      have hml : fs.length + 1 ≤ 9223372036854775807 := by have := hmx6; simp [maxLen] at this; omega
      have e1 : IntKind.i64.wrap (((fs.length + 1 : Nat) : Int) - 1) = (fs.length : Int) := by rw [IntKind.wrap_i64]; omega
      have e2 : IntKind.i64.wrap ((fs.length : Int) + 1 - 1) = (fs.length : Int) := by rw [IntKind.wrap_i64]; omega
      have e3 : IntKind.i64.wrap ((fs.length : Int)) = (fs.length : Int) := by rw [IntKind.wrap_i64]; omega
      clear k0 k1 k2 k3 k4 k5 K6 B6 T6 Hc5 co5 tlo FO5 NA5 NB5 G5 HUS C5 hlen hq6 hle6 hmx6 hml
      obtain ⟨⟨k0, k1, k2, k3, k4, k5⟩, _⟩ := six FO6.out
      have hbl6 := lt_of_obj FO6.out
      go_wp2_with fail
      go_region_with (first
        | (with_reducible refine (C6.out _ ?gr).mono ?_
           case gr => exact (by repeat (first | with_reducible exact Grew.refl _ | refine Grew.alloc ?_ _ | refine Grew.drewN ?_ _ | refine Grew.drew ?_))
           rintro en wX ⟨rfl, hwX⟩
           subst hwX)
        | (with_reducible refine (C7.out _ ?gr).mono ?_
           case gr => exact (by repeat (first | with_reducible exact Grew.refl _ | refine Grew.alloc ?_ _ | refine Grew.drewN ?_ _ | refine Grew.drew ?_))
           rintro en w7 ⟨qv7, rfl, K7, B7, T7⟩))
      obtain ⟨gv6, rv6, _, _, co6⟩ := H6.out.obj
      have FO7 := (T7 bF (lt_of_obj FO6.out) (fun hx => (NoT.of co6 (by decide) : NoT w6 C 73) _ _ (by rw [← hx]; exact FO6.out)) (by simp [Value.ownBlock])).trans FO6.out
      have hfin : CK B w7 C lv fv6 (.slice oa ops.length oc) qv7 lo' fr' ops fs ∧ NewV w.heap.size w7 (.slice (some ⟨ga, 0, none⟩) li.length li.length) li ∧ NewV w.heap.size w7 (.slice (some ⟨gb, 0, none⟩) lu.length lu.length) lu ∧ KB B w w7 ∧ KT w w7 :=
        ⟨K7, NA6.out.two T7 (NoT.of co6 (by decide)) (fun g' hg' => by simp [Value.ownBlock] at hg'), NB6.out.two T7 (NoT.of co6 (by decide)) (fun g' hg' => by simp [Value.ownBlock] at hg'), KB6.out.trans B7, KT6.out.trans (T7.kt (NoT.of co6 (by decide)) (fun g' hg' => by simp [Value.ownBlock] at hg'))⟩
      have HF := Hid.mk' hfin
      clear k0 k1 k2 k3 k4 k5
      obtain ⟨⟨k0, k1, k2, k3, k4, k5⟩, _⟩ := six FO7
      have hbl7 := lt_of_obj FO7
      clear K7 B7 T7 co6 FO7 hfin C7 NA6 NB6 KB6 KT6 H6 FO6 H
      have hBw7 : B ≤ w7.heap.size := by have := HF.out.1.base; have := HF.out.1.lt; omega
      go_wp2_with fail
      go_quiet (fail)
      go_wp2_with fail
      rw [Exit.noGoto_ret]
      refine bodyPost_ret (v := .tuple #[.int .i64 op, .slice (some ⟨ga, 0, none⟩) li.length li.length, .slice (some ⟨gb, 0, none⟩) lu.length lu.length, .int .i64 0]) (by simp [results, Tryz.results13, go_sem]) rfl ?_
      exact ⟨_, _, _, _, rfl, HF.out.1.grew ((Grew.refl _).drewN _), HF.out.2.1.grew ((Grew.refl _).drewN _), HF.out.2.2.1.grew ((Grew.refl _).drewN _), HF.out.2.2.2.1.trans (Grew.kb ((Grew.refl _).drewN _) hBw7), HF.out.2.2.2.2.trans (Grew.kt ((Grew.refl _).drewN _))⟩
  have HREST : Hid (∀ (w3 : World) (bA bF ga gb : Nat) (W : World), LeafP w w3 W bA bF #[.int .i64 op, .slice (some ⟨ga, 0, none⟩) li.length li.length, .slice (some ⟨gb, 0, none⟩) lu.length lu.length, .int .i64 (ops.length : Int), .int .i64 (ff : Int), .bool dd] → w3.heap[ga]? = some (.cells (li.flatMap VT.c).toArray 44 (0, 0)) → w3.heap[gb]? = some (.cells (lu.flatMap VT.c).toArray 44 (0, 0)) → (w.heap.size ≤ ga ∧ ga ≠ bA ∧ ga ≠ bF) → (w.heap.size ≤ gb ∧ gb ≠ bA ∧ gb ≠ bF) →
      Exit.then K (Exit.noGoto Q') Exit.normal { tmps := #[.pointer (some ⟨C, 0, none⟩), undef, .int .i64 0, .slice none 0 0, .slice none 0 0, .int .i64 0, .int .i64 0, .pointer (some ⟨bA, 0, none⟩), .pointer (some ⟨bF, 0, none⟩), undef, .pointer (some ⟨C, 0, none⟩), .int .i64 0, .int .i64 0, .bool false, undef, .pointer (some ⟨C, 0, none⟩), .pointer (some ⟨C, 0, none⟩), .pointer (some ⟨C, 5, none⟩), .agg #[.slice oa ops.length oc], .pointer (some ⟨C, 0, none⟩), .agg #[.int .i64 op, .slice ia il ic, .slice ua ul uc, .int .i64 (ops.length : Int), .int .i64 (ff : Int), .bool dd], .agg #[.int .i64 op, .slice (some ⟨ga, 0, none⟩) li.length li.length, .slice (some ⟨gb, 0, none⟩) lu.length lu.length, .int .i64 (ops.length : Int), .int .i64 (ff : Int), .bool dd], undef, undef, undef, undef, undef, undef, undef, undef, undef, undef, undef, undef, undef, undef, undef, undef, undef, undef, undef, undef, undef, undef, undef, undef, undef, undef, undef, undef, undef, undef, undef, undef, undef, undef, undef, undef, undef], defers := [] } W) := fun w3 bA bF ga gb W h1 h2 h3 h4 h5 => REST bA bF ga gb W h1.1 h1.2.1 ⟨ga, h4.1, rfl, h1.2.2 ga _ h2 h4.2.1 h4.2.2⟩ ⟨gb, h5.1, rfl, h1.2.2 gb _ h3 h5.2.1 h5.2.2⟩
  clear REST hK HUS C4 C5
  have q1 : w.heap.size ≠ C := by omega
  have q2 : w.heap.size + 1 ≠ C := by omega
  go_region_held3 (fun w' => w'.cell? ⟨C, 5, none⟩ = some (.slice oa ops.length oc)) (go_keep) (first
    | (with_reducible refine (C2.out _ ?gr).mono ?_
       case gr => exact (by repeat (first | with_reducible exact Grew.refl _ | refine Grew.alloc ?_ _ | refine Grew.drewN ?_ _ | refine Grew.drew ?_))
       rintro en w2 ⟨rfl, g2⟩
       have g2' : Grew w w2 := Grew.trans (by repeat (first | with_reducible exact Grew.refl _ | refine Grew.alloc ?_ _ | refine Grew.drewN ?_ _ | refine Grew.drew ?_)) g2
       have c52 := cell_grew c5 g2'
       have hsz2 : w.heap.size ≤ w2.heap.size := g2'.2
       have q3 : w2.heap.size ≠ C := by have := g2'.2; omega
       have q4 : w2.heap.size + 1 ≠ C := by have := g2'.2; omega
       have G2 := Hid.mk' g2'
       first
       | (have FA : Hid (w2.heap[w.heap.size]? = some (.cells #[NILS] 55 (0, 0))) := (g2.turn []).other (by first | exact heap_alloc_last w _ | exact heap_alloc (heap_alloc_last w _) _) (by simp))
       | (have FA : Hid (w2.heap[w.heap.size + 1]? = some (.cells #[NILS] 55 (0, 0))) := (g2.turn []).other (by have := heap_alloc_last (w.alloc (.cells #[.int .i64 0, NILS, NILS, .int .i64 0, .int .i64 0, .bool false] 73)) (.cells #[NILS] 55); rw [alloc_size] at this; exact this) (by simp))
       | skip
       first
       | (have FF : Hid (w2.heap[w.heap.size]? = some (.cells #[.int .i64 0, NILS, NILS, .int .i64 0, .int .i64 0, .bool false] 73 (0, 0))) := (g2.turn []).other (by first | exact heap_alloc_last w _ | exact heap_alloc (heap_alloc_last w _) _) (by simp))
       | (have FF : Hid (w2.heap[w.heap.size + 1]? = some (.cells #[.int .i64 0, NILS, NILS, .int .i64 0, .int .i64 0, .bool false] 73 (0, 0))) := (g2.turn []).other (by have := heap_alloc_last (w.alloc (.cells #[NILS] 55)) (.cells #[.int .i64 0, NILS, NILS, .int .i64 0, .int .i64 0, .bool false] 73); rw [alloc_size] at this; exact this) (by simp))
       | skip
       first
       | (have la1 := lt_of_obj FA.out
          have na1 := Nat.ne_of_lt la1
          have ma1 := Nat.ne_of_gt la1)
       | skip
       first
       | (have lf1 := lt_of_obj FF.out
          have nf1 := Nat.ne_of_lt lf1
          have mf1 := Nat.ne_of_gt lf1)
       | skip
       clear g2' g2)
    | (with_reducible refine (C3.out _ ?gr).mono ?_
       case gr => exact Grew.trans G2.out (by repeat (first | with_reducible exact Grew.refl _ | refine Grew.alloc ?_ _ | refine Grew.drewN ?_ _ | refine Grew.drew ?_))
       rintro en w3 ⟨a3, b3, rfl, na, nb, g3⟩
       have g3' : Grew w2 w3 := Grew.trans (by repeat (first | with_reducible exact Grew.refl _ | refine Grew.alloc ?_ _ | refine Grew.drewN ?_ _ | refine Grew.drew ?_)) g3
       have c53 := cell_grew c52 g3'
       have hsz3 : w2.heap.size ≤ w3.heap.size := g3'.2
       have q5 : w3.heap.size ≠ C := by have := g3'.2; have := G2.out.2; omega
       have q6 : w3.heap.size + 1 ≠ C := by have := g3'.2; have := G2.out.2; omega
       have G3 := Hid.mk' (G2.out.trans g3')
       obtain ⟨ga, hga, rfl, oa3⟩ := na
       obtain ⟨gb, hgb, rfl, ob3⟩ := nb
       have OA := Hid.mk' oa3
       have OB := Hid.mk' ob3
       have hga' : w2.heap.size ≤ ga := Nat.le_trans (Grew.trans (by repeat (first | with_reducible exact Grew.refl _ | refine Grew.alloc ?_ _ | refine Grew.drewN ?_ _ | refine Grew.drew ?_)) (Grew.refl _) : Grew w2 _).2 hga
       have hgb' : w2.heap.size ≤ gb := Nat.le_trans (Grew.trans (by repeat (first | with_reducible exact Grew.refl _ | refine Grew.alloc ?_ _ | refine Grew.drewN ?_ _ | refine Grew.drew ?_)) (Grew.refl _) : Grew w2 _).2 hgb
       first
       | have FA3 := Hid.mk' ((g3'.turn []).other FA.out (by simp))
       | skip
       first
       | have FF3 := Hid.mk' ((g3'.turn []).other FF.out (by simp))
       | skip
       first
       | (have FA3 : Hid (w3.heap[w2.heap.size]? = some (.cells #[NILS] 55 (0, 0))) := (g3.turn []).other (by first | exact heap_alloc_last w2 _ | exact heap_alloc (heap_alloc_last w2 _) _) (by simp))
       | (have FA3 : Hid (w3.heap[w2.heap.size + 1]? = some (.cells #[NILS] 55 (0, 0))) := (g3.turn []).other (by have := heap_alloc_last (w2.alloc (.cells #[.int .i64 0, NILS, NILS, .int .i64 0, .int .i64 0, .bool false] 73)) (.cells #[NILS] 55); rw [alloc_size] at this; exact this) (by simp))
       | skip
       first
       | (have FF3 : Hid (w3.heap[w2.heap.size]? = some (.cells #[.int .i64 0, NILS, NILS, .int .i64 0, .int .i64 0, .bool false] 73 (0, 0))) := (g3.turn []).other (by first | exact heap_alloc_last w2 _ | exact heap_alloc (heap_alloc_last w2 _) _) (by simp))
       | (have FF3 : Hid (w3.heap[w2.heap.size + 1]? = some (.cells #[.int .i64 0, NILS, NILS, .int .i64 0, .int .i64 0, .bool false] 73 (0, 0))) := (g3.turn []).other (by have := heap_alloc_last (w2.alloc (.cells #[NILS] 55)) (.cells #[.int .i64 0, NILS, NILS, .int .i64 0, .int .i64 0, .bool false] 73); rw [alloc_size] at this; exact this) (by simp))
       | skip
       first
       | (have ea0 := cell_of FA3.out 0
          simp at ea0
          have eaz := free_of FA3.out 0
          have eal := lt_of_obj FA3.out)
       | skip
       first
       | (obtain ⟨⟨s0, s1, s2, s3, s4, s5⟩, r0, r1, r2, r3, r4, r5⟩ := six FF3.out
          have efl := lt_of_obj FF3.out)
       | skip
       first
       | (have la2 := lt_of_obj FA3.out
          have na2 := Nat.ne_of_lt la2
          have ma2 := Nat.ne_of_gt la2)
       | skip
       first
       | (have lf2 := lt_of_obj FF3.out
          have nf2 := Nat.ne_of_lt lf2
          have mf2 := Nat.ne_of_gt lf2)
       | skip
       clear g3' g3 oa3 ob3))
  all_goals
    have hlga := lt_of_obj OA.out
    have hlgb := lt_of_obj OB.out
    try simp at hga
    try simp at hgb
    first
    | (have M := HREST.out w3 (w3.heap.size) (w3.heap.size + 1) ga gb _ (leafA (xs := #[.int .i64 op, .slice (some ⟨ga, 0, none⟩) li.length li.length, .slice (some ⟨gb, 0, none⟩) lu.length lu.length, .int .i64 (ops.length : Int), .int .i64 (ff : Int), .bool dd]) (v := .slice oa ops.length oc) (t := 55) G3.out) OA.out OB.out ⟨by omega, by omega, by omega⟩ ⟨by omega, by omega, by omega⟩
       with_reducible exact M)
    | (have M := HREST.out w3 (w3.heap.size + 1) (w3.heap.size) ga gb _ (leafB (xs := #[.int .i64 op, .slice (some ⟨ga, 0, none⟩) li.length li.length, .slice (some ⟨gb, 0, none⟩) lu.length lu.length, .int .i64 (ops.length : Int), .int .i64 (ff : Int), .bool dd]) (v := .slice oa ops.length oc) (t := 55) G3.out) OA.out OB.out ⟨by omega, by omega, by omega⟩ ⟨by omega, by omega, by omega⟩
       with_reducible exact M)
    | (have M := HREST.out w3 (w2.heap.size) (w3.heap.size) ga gb _ (leafC (xs := #[.int .i64 op, .slice (some ⟨ga, 0, none⟩) li.length li.length, .slice (some ⟨gb, 0, none⟩) lu.length lu.length, .int .i64 (ops.length : Int), .int .i64 (ff : Int), .bool dd]) (v := .slice oa ops.length oc) (bA := w2.heap.size) G3.out (by omega)) OA.out OB.out ⟨by omega, by omega, by omega⟩ ⟨by omega, by omega, by omega⟩
       with_reducible exact M)
    | (have M := HREST.out w3 (w.heap.size) (w3.heap.size) ga gb _ (leafC (xs := #[.int .i64 op, .slice (some ⟨ga, 0, none⟩) li.length li.length, .slice (some ⟨gb, 0, none⟩) lu.length lu.length, .int .i64 (ops.length : Int), .int .i64 (ff : Int), .bool dd]) (v := .slice oa ops.length oc) (bA := w.heap.size) G3.out (by omega)) OA.out OB.out ⟨by omega, by omega, by omega⟩ ⟨by omega, by omega, by omega⟩
       with_reducible exact M)
    | (have M := HREST.out w3 (w2.heap.size) (w2.heap.size + 1) ga gb _ (leafD (x0 := .int .i64 op) (x1 := .slice (some ⟨ga, 0, none⟩) li.length li.length) (x2 := .slice (some ⟨gb, 0, none⟩) lu.length lu.length) (x3 := .int .i64 (ops.length : Int)) (x4 := .int .i64 (ff : Int)) (x5 := .bool dd) (v := .slice oa ops.length oc) (bA := w2.heap.size) (bF := w2.heap.size + 1) G3.out (by omega) (by omega) (by omega) FF3.out) OA.out OB.out ⟨by omega, by omega, by omega⟩ ⟨by omega, by omega, by omega⟩
       with_reducible exact M)
    | (have M := HREST.out w3 (w2.heap.size + 1) (w2.heap.size) ga gb _ (leafD (x0 := .int .i64 op) (x1 := .slice (some ⟨ga, 0, none⟩) li.length li.length) (x2 := .slice (some ⟨gb, 0, none⟩) lu.length lu.length) (x3 := .int .i64 (ops.length : Int)) (x4 := .int .i64 (ff : Int)) (x5 := .bool dd) (v := .slice oa ops.length oc) (bA := w2.heap.size + 1) (bF := w2.heap.size) G3.out (by omega) (by omega) (by omega) FF3.out) OA.out OB.out ⟨by omega, by omega, by omega⟩ ⟨by omega, by omega, by omega⟩
       with_reducible exact M)
    | (have M := HREST.out w3 (w.heap.size) (w2.heap.size) ga gb _ (leafD (x0 := .int .i64 op) (x1 := .slice (some ⟨ga, 0, none⟩) li.length li.length) (x2 := .slice (some ⟨gb, 0, none⟩) lu.length lu.length) (x3 := .int .i64 (ops.length : Int)) (x4 := .int .i64 (ff : Int)) (x5 := .bool dd) (v := .slice oa ops.length oc) (bA := w.heap.size) (bF := w2.heap.size) G3.out (by omega) (by omega) (by omega) FF3.out) OA.out OB.out ⟨by omega, by omega, by omega⟩ ⟨by omega, by omega, by omega⟩
       with_reducible exact M)
    | (have M := HREST.out w3 (w.heap.size) (w.heap.size + 1) ga gb _ (leafD (x0 := .int .i64 op) (x1 := .slice (some ⟨ga, 0, none⟩) li.length li.length) (x2 := .slice (some ⟨gb, 0, none⟩) lu.length lu.length) (x3 := .int .i64 (ops.length : Int)) (x4 := .int .i64 (ff : Int)) (x5 := .bool dd) (v := .slice oa ops.length oc) (bA := w.heap.size) (bF := w.heap.size + 1) G3.out (by omega) (by omega) (by omega) FF3.out) OA.out OB.out ⟨by omega, by omega, by omega⟩ ⟨by omega, by omega, by omega⟩
       with_reducible exact M)
    | (have M := HREST.out w3 (w2.heap.size) (w.heap.size) ga gb _ (leafD (x0 := .int .i64 op) (x1 := .slice (some ⟨ga, 0, none⟩) li.length li.length) (x2 := .slice (some ⟨gb, 0, none⟩) lu.length lu.length) (x3 := .int .i64 (ops.length : Int)) (x4 := .int .i64 (ff : Int)) (x5 := .bool dd) (v := .slice oa ops.length oc) (bA := w2.heap.size) (bF := w.heap.size) G3.out (by omega) (by omega) (by omega) FF3.out) OA.out OB.out ⟨by omega, by omega, by omega⟩ ⟨by omega, by omega, by omega⟩
       with_reducible exact M)
    | (have M := HREST.out w3 (w.heap.size + 1) (w.heap.size) ga gb _ (leafD (x0 := .int .i64 op) (x1 := .slice (some ⟨ga, 0, none⟩) li.length li.length) (x2 := .slice (some ⟨gb, 0, none⟩) lu.length lu.length) (x3 := .int .i64 (ops.length : Int)) (x4 := .int .i64 (ff : Int)) (x5 := .bool dd) (v := .slice oa ops.length oc) (bA := w.heap.size + 1) (bF := w.heap.size) G3.out (by omega) (by omega) (by omega) FF3.out) OA.out OB.out ⟨by omega, by omega, by omega⟩ ⟨by omega, by omega, by omega⟩
       with_reducible exact M)
    | (have M := HREST.out w3 (w3.heap.size) (w2.heap.size) ga gb _ (leafE (x0 := .int .i64 op) (x1 := .slice (some ⟨ga, 0, none⟩) li.length li.length) (x2 := .slice (some ⟨gb, 0, none⟩) lu.length lu.length) (x3 := .int .i64 (ops.length : Int)) (x4 := .int .i64 (ff : Int)) (x5 := .bool dd) (v := .slice oa ops.length oc) (t := 55) (bF := w2.heap.size) G3.out (by omega) FF3.out) OA.out OB.out ⟨by omega, by omega, by omega⟩ ⟨by omega, by omega, by omega⟩
       with_reducible exact M)
    | (have M := HREST.out w3 (w3.heap.size) (w.heap.size) ga gb _ (leafE (x0 := .int .i64 op) (x1 := .slice (some ⟨ga, 0, none⟩) li.length li.length) (x2 := .slice (some ⟨gb, 0, none⟩) lu.length lu.length) (x3 := .int .i64 (ops.length : Int)) (x4 := .int .i64 (ff : Int)) (x5 := .bool dd) (v := .slice oa ops.length oc) (t := 55) (bF := w.heap.size) G3.out (by omega) FF3.out) OA.out OB.out ⟨by omega, by omega, by omega⟩ ⟨by omega, by omega, by omega⟩
       with_reducible exact M)
end Go.Proofs.YtkghplkmfpnhdaaGreatDoor
