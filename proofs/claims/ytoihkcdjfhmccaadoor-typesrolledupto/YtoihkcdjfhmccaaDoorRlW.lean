/-
  The walk of TypesRolled; no statement is proved here.
-/
import Derived.Test.YtoihkcdjfhmccaaDoorRlM
import Derived.Test.YtoihkcdjfhmccaaDoorPSub
import Derived.Test.YtoihkcdjfhmccaaDoorRg
namespace Go.Proofs.YtoihkcdjfhmccaaDoor
open Go.RowKit
set_option linter.unusedVariables false
set_option linter.unusedSimpArgs false

theorem same_str (s : ByteArray) : (s.toList == s.toList) = true := by simp
/- The table of words starts as its text lays it. -/
def NW1 (w : World) : Prop := w.cell? ⟨0, 1, none⟩ = some (.string ⟨#[105, 51, 50]⟩)
theorem NW1.grew {w w' : World} (h : NW1 w) (g : Grew w w') : NW1 w' := cell_grew h g
set_option maxRecDepth 100000 in
theorem awake_any {w : World} (he : NW1 w) : Calls Tryd.prog 8 #[] w fun en w' => en = .returned (.bool true) ∧ Grew w w' := by
  have T : Calls Tryd.prog 24 #[.agg #[.int .i64 1, .bool false, .int .i64 0]] w fun en w' => en = .returned (.string ⟨#[105, 51, 50]⟩) ∧ Grew w w' := by
    have c1' : w.cell? ⟨0, 1, none⟩ = some (.string ⟨#[105, 51, 50]⟩) := he
    have hg : 0 < w.heap.size := Nat.lt_of_le_of_lt (Nat.zero_le _) (lt_of_cell c1')
    clear he
    go_enter Tryd.func24, Tryd.ntmps24
    go_wp2
    go_ret
    exact ⟨by simp, (Grew.refl w).alloc _⟩
  have hss := same_str ⟨#[105, 51, 50]⟩
  clear he
  go_enter Tryd.func8, Tryd.ntmps8
  go_wp2_with fail
  refine T.mono ?_
  rintro en w1 ⟨rfl, g1⟩
  go_wp2_with fail
  go_ret
  exact ⟨by simp, g1⟩
set_option maxRecDepth 100000 in
set_option maxHeartbeats 4000000 in
theorem rolled_no {w : World} {v : Value} {L : List RT} {g : Int} {o : Nat} (h : LR w v L) (hs : SmlL L) (hN : NW1 w) (hno : closedF 0 L = false ∨ g < 0 ∨ (L.length : Int) ≤ g) :
    Calls Tryd.prog 3 #[v, .int .i64 g, .int .u8 (o : Int)] w fun en w' => en = .returned (.bool true) ∧ Grew w w' := by
  have C := dclosed_any h hs
  obtain ⟨a, cap, hv, hcap, hmax⟩ := h.one
  subst hv
  have hl := hs.1
  have F : Hid (∀ w1, Grew w w1 → Calls Tryd.prog 8 #[] w1 fun en w' => en = .returned (.bool true) ∧ Grew w1 w') := fun w1 g => awake_any (hN.grew g)
  clear h hs hN
  cases hc : closedF 0 L with
  | false =>
    rw [hc] at C
    simp only [Bool.false_eq_true, if_false] at C
    clear hno
    go_enter Tryd.func3, Tryd.ntmps3
    go_wp2_with fail
    refine C.mono ?_
    rintro en w1 ⟨p, rfl, g1⟩
    have G1 : Hid (Grew w w1) := g1
    clear C g1
    go_wp2_with fail
    refine (F.out _ G1.out).mono ?_
    rintro en w2 ⟨rfl, g2⟩
    have G2 : Hid (Grew w w2) := G1.out.trans g2
    clear g2
    go_wp2_with fail
    go_ret
    exact ⟨rfl, G2.out⟩
  | true =>
    rw [hc] at C
    simp only [if_true] at C
    have hno' : g < 0 ∨ (L.length : Int) ≤ g := hno.resolve_left (by rw [hc]; simp)
    clear hno
    by_cases hg0 : g < 0
    · clear hno'
      go_enter Tryd.func3, Tryd.ntmps3
      go_wp2_with fail
      refine C.mono ?_
      rintro en w1 ⟨p, rfl, g1⟩
      have G1 : Hid (Grew w w1) := g1
      clear C g1
      go_wp2_with fail
      refine (F.out _ G1.out).mono ?_
      rintro en w2 ⟨rfl, g2⟩
      have G2 : Hid (Grew w w2) := G1.out.trans g2
      clear g2
      go_wp2_with fail
      go_ret
      exact ⟨rfl, G2.out⟩
    · have hg1 : (L.length : Int) ≤ g := hno'.resolve_left hg0
      clear hno'
      go_enter Tryd.func3, Tryd.ntmps3
      go_wp2_with fail
      refine C.mono ?_
      rintro en w1 ⟨p, rfl, g1⟩
      have G1 : Hid (Grew w w1) := g1
      clear C g1
      go_wp2_with fail
      refine (F.out _ G1.out).mono ?_
      rintro en w2 ⟨rfl, g2⟩
      have G2 : Hid (Grew w w2) := G1.out.trans g2
      clear g2
      go_wp2_with fail
      go_ret
      exact ⟨rfl, G2.out⟩
set_option maxRecDepth 100000 in
set_option maxHeartbeats 8000000 in
theorem rolled_yes {w : World} {v : Value} {L : List RT} {g : Nat} {o : Nat} (h : LR w v L) (hs : SmlL L) (hN : NW1 w) (hc : closedF 0 L = true) (hg : g < L.length) (ho : o < 256) :
    Calls Tryd.prog 3 #[v, .int .i64 (g : Int), .int .u8 (o : Int)] w fun en w' => en = .returned (.bool true) ∧ Grew w w' := by
  have C := dclosed_any h hs
  rw [hc] at C
  simp only [if_true] at C
  obtain ⟨r, hr⟩ : ∃ r, L[g]? = some r := ⟨_, List.getElem?_eq_getElem hg⟩
  have hfin : ∀ x ∈ r.types, FineS ((cntT (L.take g) : Int) + (r.types.length : Nat)) x := fun x hx => by
    have := fineS (closed_fine hc hr x hx)
    rw [Nat.zero_add, Int.natCast_add] at this
    exact this
  have hsm : ∀ x ∈ r.types, Sml x := hs.2.2 r (List.mem_of_getElem? hr)
  have hfst := cntT_take L g
  have hend := cntT_take L (g + 1)
  rw [cntT_snoc hr] at hend
  have hcnt := hs.2.1
  have hlen := hs.1
  have D : Hid (∀ w1, Grew w w1 → Calls Tryd.prog 9 #[v, .int .i64 (g : Int)] w1 fun en w' => en = .returned (.int .i64 (cntT (L.take g) : Int)) ∧ Grew w1 w') := fun w1 gw => dfirst_any (h.grew gw) hlen hcnt hg
  have E : Hid (∀ w1, Grew w w1 → Calls Tryd.prog 10 #[v, .int .i64 (g : Int)] w1 fun e w' => ∃ u, e = .returned (.tuple #[.agg #[u, .bool r.explicit], .int .i64 0]) ∧ LS w' u (r.types.map fun x => x.cp.mp (rollN (cntT (L.take g) : Int))) ∧ Grew w1 w') := fun w1 gw => roll_any (h.grew gw) hs hr (fun x hx n hn => by
    have := num_fine (hfin x hx).cp hn
    rw [Int.natCast_add]
    exact this)
  have F : Hid (∀ w1, Grew w w1 → Calls Tryd.prog 8 #[] w1 fun en w' => en = .returned (.bool true) ∧ Grew w1 w') := fun w1 g => awake_any (hN.grew g)
  have H : Hid (LR w v L) := h
  obtain ⟨a, cap, hv, hcap, hmax⟩ := h.one
  subst hv
  have HR : Hid (L[g]? = some r) := hr
  generalize hf : cntT (L.take g) = first at *
  obtain ⟨ts, ex⟩ := r
  simp only at *
  have HF : Hid (∀ x ∈ ts, FineS ((first : Int) + (ts.length : Nat)) x) := hfin
  have HSM : Hid (∀ x ∈ ts, Sml x) := hsm
  obtain ⟨rt, hrt⟩ : ∃ y, y = ts.map fun x => x.cp.mp (rollN (first : Int)) := ⟨_, rfl⟩
  have HRT : Hid (rt = ts.map fun x => x.cp.mp (rollN (first : Int))) := hrt
  have hrl : rt.length = ts.length := by rw [hrt]; simp
  have HRL : Hid (rt.length = ts.length) := hrl
  have rlm : rt.length ≤ 1048576 := by omega
  rw [← hrt] at E
  have U : Hid (∀ (f : Int) (u : Value) w1, 0 ≤ f → f ≤ 2147483647 → LS w1 u rt → Calls Tryd.prog 11 #[.agg #[u, .bool ex], .int .i64 f] w1 fun e w' => ∃ u', e = .returned (.tuple #[.agg #[u', .bool ex], .int .i64 0]) ∧ LS w' u' (rt.map fun x => x.cp.mp (unrollN f)) ∧ Grew w1 w') := fun f u w1 h0 h1 lu => unroll_any lu rlm (fun x hx => by
      rw [hrt] at hx
      obtain ⟨y, hy, rfl⟩ := List.mem_map.1 hx
      exact sml_mp (sml_cp (hsm y hy)) _) h0 h1 (fun x hx n hn => by
      rw [hrt] at hx
      obtain ⟨y, hy, rfl⟩ := List.mem_map.1 hx
      rw [idem] at hn
      have := num_rolled (f := (first : Int)) (k := ts.length) (by omega) (hfin y hy).cp hn
      rw [hrl]
      exact this)
  clear h hs hN hc hr hfin hsm hrt hrl hf
  go_enter Tryd.func3, Tryd.ntmps3
  go_wp2_with fail
  refine C.mono ?_
  rintro en w1 ⟨p, rfl, g1⟩
  have G1 : Hid (Grew w w1) := g1
  clear C g1
  go_wp2_with fail
  refine (D.out _ G1.out).mono ?_
  rintro en w2 ⟨rfl, g2⟩
  have G2 : Hid (Grew w w2) := G1.out.trans g2
  clear D g2 G1
  go_wp2_with fail
  refine (E.out _ G2.out).mono ?_
  rintro en w3 ⟨u3, rfl, l3, g3⟩
  have G3 : Hid (Grew w w3) := G2.out.trans g3
  have L3 : Hid (LS w3 u3 rt) := l3
  obtain ⟨ua3, uc3, e3, _⟩ := l3.one
  subst e3
  generalize rt.length = nrt at *
  clear E g3 l3 G2
  go_wp2_with fail
  refine (U.out first _ _ (by omega) (by omega) (L3.out.grew ((Grew.refl _).alloc _))).mono ?_
  rintro en w4 ⟨u4, rfl, l4, g4⟩
  obtain ⟨bt, hbt⟩ : ∃ y, y = rt.map fun x => x.cp.mp (unrollN (first : Int)) := ⟨_, rfl⟩
  rw [← hbt] at l4
  have HB : Hid (bt.map SB.cp = ts.map SB.cp) := by
    have : bt.map SB.cp = ts.map SB.cp := by
      rw [hbt, HRT.out, List.map_map, List.map_map]
      refine List.map_congr_left fun x hx => ?_
      exact backs (by omega) (HF.out x hx)
    exact this
  have HBS : Hid (∀ x ∈ bt, Sml x) := fun x hx => by
    rw [hbt] at hx
    obtain ⟨y, hy, rfl⟩ := List.mem_map.1 hx
    rw [HRT.out] at hy
    obtain ⟨z, hz, rfl⟩ := List.mem_map.1 hy
    exact sml_mp (sml_cp (sml_mp (sml_cp (HSM.out z hz)) _)) _
  have hbl : bt.length ≤ 1048576 := by rw [hbt, List.length_map, HRT.out, List.length_map]; omega
  have A3 : Hid (w4.heap[w3.heap.size]? = some (robj (.slice ua3 nrt uc3) ex)) := g4.other (heap_alloc_last _ _)
  have G4 : Hid (Grew w w4) := (G3.out.alloc _).trans g4
  have L4 : Hid (LS w4 u4 bt) := l4
  have L3' : Hid (LS w4 (.slice ua3 nrt uc3) rt) := L3.out.grew (((Grew.refl _).alloc _).trans g4)
  obtain ⟨ua4, uc4, e4, _⟩ := l4.one
  subst e4
  generalize hnbt : bt.length = nbt at *
  generalize w3.heap.size = rb at *
  clear g4 l4 hbt G3 L3 hnbt
  go_wp2_with fail
  have A5 : Hid ((w4.alloc (.cells #[.slice ua4 nbt uc4, .bool ex] 29)).heap[rb]? = some (robj (.slice ua3 nrt uc3) ex)) := heap_alloc A3.out _
  have B5 : Hid ((w4.alloc (.cells #[.slice ua4 nbt uc4, .bool ex] 29)).heap[w4.heap.size]? = some (robj (.slice ua4 nbt uc4) ex)) := heap_alloc_last _ _
  have G5 : Hid (Grew w (w4.alloc (.cells #[.slice ua4 nbt uc4, .bool ex] 29))) := G4.out.alloc _
  have L5 : Hid (LS (w4.alloc (.cells #[.slice ua4 nbt uc4, .bool ex] 29)) (.slice ua4 nbt uc4) bt) := L4.out.grew ((Grew.refl _).alloc _)
  have R5 : Hid (LS (w4.alloc (.cells #[.slice ua4 nbt uc4, .bool ex] 29)) (.slice ua3 nrt uc3) rt) := L3'.out.grew ((Grew.refl _).alloc _)
  generalize (w4.alloc (.cells #[.slice ua4 nbt uc4, .bool ex] 29)) = W5 at *
  generalize w4.heap.size = bb at *
  clear A3 G4 L4 L3'
  obtain ⟨b, off, hla, _, hE⟩ := (H.out.grew G5.out).get (by omega)
  subst hla
  obtain ⟨tv, ht, c0, c1⟩ := hE g _ HR.out
  simp only at ht c0 c1
  obtain ⟨ta, tc, et, _⟩ := ht.one
  subst et
  have T5 : Hid (LS W5 (.slice ta ts.length tc) ts) := ht
  obtain ⟨x0, x1⟩ := box_r B5.out
  obtain ⟨y0, y1⟩ := box_r A5.out
  have z1 := lt_of_cell c0
  have z2 := lt_of_obj B5.out
  have dg : decide (g < L.length) = true := by simp; omega
  clear hE ht
  have SR : Hid (∀ w1, Grew W5 w1 → Calls Tryd.prog 12 #[.agg #[.slice ua4 nbt uc4, .bool ex], .agg #[.slice ta ts.length tc, .bool ex]] w1 fun en w' => en = .returned (.bool true) ∧ Grew w1 w') := fun w1 gw => sameRec_any (L5.out.grew gw) (T5.out.grew gw) HB.out (by have := Lst.len L5.out; omega) HBS.out
  go_region_held3 (fun w' => w'.cell? ⟨bb, 0, none⟩ = some (.slice ua4 nbt uc4) ∧ w'.cell? ⟨bb, 1, none⟩ = some (.bool ex) ∧ w'.cell? ⟨b, off + g * 2, none⟩ = some (.slice ta ts.length tc) ∧ w'.cell? ⟨b, off + g * 2 + 1, none⟩ = some (.bool ex)) (go_keep)
    (first
     | (go_at_call 12; refine (SR.out W5.drew (Grew.refl W5).drew).mono ?_; rintro en w6 ⟨rfl, g6⟩; have gg6 : Grew W5 w6 := ((Grew.refl W5).drew).trans g6; have k0 := cell_grew x0 gg6; have k1 := cell_grew x1 gg6; have k2 := cell_grew c0 gg6; have k3 := cell_grew c1 gg6; have k4 := cell_grew y0 gg6; have k5 := cell_grew y1 gg6; have HG6 : Hid (Grew W5 w6) := gg6))
  go_wp2_with fail
  have far : (0 : Int) ≤ (first : Int) + (o : Int) ∧ (first : Int) + (o : Int) ≤ 2147483647 := by omega
  refine (U.out _ _ _ far.1 far.2 (R5.out.grew HG6.out)).mono ?_
  rintro en w7 ⟨u7, rfl, l7, g7⟩
  obtain ⟨nt, hnt⟩ : ∃ y, y = rt.map fun x => x.cp.mp (unrollN ((first : Int) + (o : Int))) := ⟨_, rfl⟩
  rw [← hnt] at l7
  have HNT : Hid (nt = ts.map fun x => (x.cp.mp (rollN (first : Int))).cp.mp (unrollN ((first : Int) + (o : Int)))) := by
    have : nt = ts.map fun x => (x.cp.mp (rollN (first : Int))).cp.mp (unrollN ((first : Int) + (o : Int))) := by rw [hnt, HRT.out, List.map_map]; rfl
    exact this
  have hnl : nt.length = ts.length := by rw [HNT.out, List.length_map]
  obtain ⟨ua7, uc7, e7, _⟩ := l7.one
  subst e7
  rw [hnl] at l7 ⊢
  have HNL : Hid (nt.length = ts.length) := hnl
  have g57 : Grew W5 w7 := HG6.out.trans g7
  have G7 : Hid (Grew w w7) := G5.out.trans g57
  have L7 : Hid (LS w7 (.slice ua7 ts.length uc7) nt) := l7
  have T7 : Hid (LS w7 (.slice ta ts.length tc) ts) := T5.out.grew g57
  have d0 := cell_grew c0 g57
  have d1 := cell_grew c1 g57
  have tl : ts.length ≤ 1048576 := by omega
  clear U R5 L5 T5 SR HB HBS A5 B5 hnl hnt l7 g7 g57 x0 x1 y0 y1 c0 c1 z1 z2 HG6 gg6 k0 k1 k2 k3 k4 k5
  go_wp2_with fail
  have A8 : Hid ((w7.alloc (.cells #[.slice ua7 ts.length uc7, .bool ex] 29)).heap[w7.heap.size]? = some (robj (.slice ua7 ts.length uc7) ex)) := heap_alloc_last _ _
  have G8 : Hid (Grew w (w7.alloc (.cells #[.slice ua7 ts.length uc7, .bool ex] 29))) := G7.out.alloc _
  have L8 : Hid (LS (w7.alloc (.cells #[.slice ua7 ts.length uc7, .bool ex] 29)) (.slice ua7 ts.length uc7) nt) := L7.out.grew ((Grew.refl _).alloc _)
  have T8 : Hid (LS (w7.alloc (.cells #[.slice ua7 ts.length uc7, .bool ex] 29)) (.slice ta ts.length tc) ts) := T7.out.grew ((Grew.refl _).alloc _)
  have e0 := cell_grew d0 (((Grew.refl w7).alloc (.cells #[.slice ua7 ts.length uc7, .bool ex] 29)))
  generalize (w7.alloc (.cells #[.slice ua7 ts.length uc7, .bool ex] 29)) = W8 at *
  generalize w7.heap.size = hb at *
  clear G7 L7 T7 d0 d1 G5
  obtain ⟨x0, x1⟩ := box_r A8.out
  have nn : (((ts.length : Nat) : Int) != ((ts.length : Nat) : Int)) = false := by simp
  go_quiet (fail)
  go_wp2_with fail
  go_loopw [16] (fun i_ w' => ∃ i : Nat, i_ = .int .i64 i ∧ i ≤ ts.length ∧ Hid (Grew W8 w')) (fun i_ _ => ts.length - (intOf i_).toNat)
  case atStart => exact ⟨0, rfl, Nat.zero_le _, by first | exact Grew.refl _ | exact (Grew.refl _).drew | exact (Grew.refl _).drewN _⟩
  case round =>
    obtain ⟨i, rfl, hi, G⟩ := hrel
    obtain ⟨w0, hw0⟩ : ∃ w0, w0 = wr := ⟨_, rfl⟩
    rw [← hw0] at G ⊢
    clear hw0 x0 x1
    have f0 := cell_grew e0 G.out
    clear e0
    by_cases hlt : i < ts.length
    · obtain ⟨x, hx⟩ : ∃ x, ts[i]? = some x := ⟨_, List.getElem?_eq_getElem hlt⟩
      have hz : nt[i]? = some ((x.cp.mp (rollN (first : Int))).cp.mp (unrollN ((first : Int) + (o : Int)))) := by rw [HNT.out, List.getElem?_map, hx]; rfl
      obtain ⟨tb, to, hta, _, hE⟩ := (T8.out.grew G.out).get (by omega)
      subst hta
      obtain ⟨sv, pv, rv, fv, hsub, c0, c1, c2, c3, c4, c5⟩ := hE i x hx
      have C1 := uses_any hsub (HSM.out x (List.mem_of_getElem? hx))
      obtain ⟨sa, sc, q1, _⟩ := hsub.1.one
      obtain ⟨pa, pc, q2, _⟩ := hsub.2.1.one
      obtain ⟨ra, rc, q3, _⟩ := hsub.2.2.1.one
      obtain ⟨fa, fc, q4, _⟩ := hsub.2.2.2.one
      subst q1 q2 q3 q4
      have e1 : decide ((i : Int) < (ts.length : Int)) = true := by simp; omega
      have e2 : decide (i < ts.length) = true := by simp; omega
      have hfx := HF.out x (List.mem_of_getElem? hx)
      have hul := uses_len (HSM.out x (List.mem_of_getElem? hx))
      have hut := uses_there (f := (first : Int)) (f' := (first : Int) + (o : Int)) (by omega) (by omega) hfx
      have hum := uses_mem hfx
      have hsz : Sml ((x.cp.mp (rollN (first : Int))).cp.mp (unrollN ((first : Int) + (o : Int)))) := sml_mp (sml_cp (sml_mp (sml_cp (HSM.out x (List.mem_of_getElem? hx))) _)) _
      generalize hzz : ((x.cp.mp (rollN (first : Int))).cp.mp (unrollN ((first : Int) + (o : Int)))) = z at *
      generalize hUx : usesL x = ux at *
      have HZ : Hid (nt[i]? = some z) := hz
      have HSZ : Hid (Sml z) := hsz
      have HUT : Hid (usesL z = ux.map (tau (first : Int) ((first : Int) + (o : Int)))) := hut
      have HUM : Hid (∀ n ∈ ux, 0 ≤ n ∧ n < (first : Int) + (ts.length : Nat)) := hum
      generalize x.comp.params.length = np at *
      generalize x.comp.results.length = nr at *
      generalize x.comp.fields.length = nf at *
      generalize x.supers.length = ns at *
      generalize x.final_ = fin at *
      generalize x.comp.kind = kind at *
      clear hE hsub hx hz hsz hut hum hfx hzz hUx
      go_wp2_with fail
      refine C1.mono ?_
      rintro en w9 ⟨u9, rfl, r9, g9⟩
      have G9 : Hid (Grew W8 w9) := G.out.trans g9
      have R9 : Hid (LI w9 u9 ux) := r9.lst
      obtain ⟨ua9, uc9, q9, _⟩ := r9.lst.one
      subst q9
      have f9 := cell_grew f0 g9
      obtain ⟨x0, x1⟩ := box_r (G9.out.other A8.out)
      obtain ⟨zb, zo, hza, _, hE⟩ := (L8.out.grew G9.out).get (by have := HNL.out; omega)
      subst hza
      obtain ⟨sv', pv', rv', fv', hsub', c0', c1', c2', c3', c4', c5'⟩ := hE i z HZ.out
      have C2 := uses_any hsub' HSZ.out
      rw [HUT.out] at C2
      obtain ⟨sa', sc', q1, _⟩ := hsub'.1.one
      obtain ⟨pa', pc', q2, _⟩ := hsub'.2.1.one
      obtain ⟨ra', rc', q3, _⟩ := hsub'.2.2.1.one
      obtain ⟨fa', fc', q4, _⟩ := hsub'.2.2.2.one
      subst q1 q2 q3 q4
      generalize z.comp.params.length = np' at *
      generalize z.comp.results.length = nr' at *
      generalize z.comp.fields.length = nf' at *
      generalize z.supers.length = ns' at *
      generalize z.final_ = fin' at *
      generalize z.comp.kind = kind' at *
      clear C1 r9 g9 hE hsub' c0 c1 c2 c3 c4 c5
      go_wp2_with fail
      refine C2.mono ?_
      rintro en w10 ⟨u10, rfl, r10, g10⟩
      have G10 : Hid (Grew W8 w10) := G9.out.trans g10
      have R10 : Hid (LI w10 u10 (ux.map (tau (first : Int) ((first : Int) + (o : Int))))) := r10.lst
      have S10 : Hid (LI w10 (.slice ua9 ux.length uc9) ux) := R9.out.grew g10
      obtain ⟨ua10, uc10, q10, _⟩ := r10.lst.one
      rw [List.length_map] at q10
      subst q10
      have f10 := cell_grew f9 g10
      have nu : (((ux.length : Nat) : Int) != ((ux.length : Nat) : Int)) = false := by simp
      clear C2 r10 g10 c0' c1' c2' c3' c4' c5' f9 x0 x1 R9 G9
      go_wp2_with fail
      have S9c : ux.length ≤ uc9 := by obtain ⟨_, _, q, hq, _⟩ := S10.out.one; injection q with _ _ q3; omega
      have S10c : ux.length ≤ uc10 := by obtain ⟨_, _, q, hq, _⟩ := R10.out.one; injection q with _ q2 q3; omega
      go_loopw [19] (fun k_ w' => ∃ k : Nat, k_ = .int .i64 k ∧ k ≤ ux.length ∧ Hid (Grew w10 w')) (fun k_ _ => ux.length - (intOf k_).toNat)
      case atStart => exact ⟨0, rfl, Nat.zero_le _, Grew.refl _⟩
      case round =>
        obtain ⟨k, rfl, hk, GK⟩ := hrel
        obtain ⟨wk, hwk⟩ : ∃ wk, wk = wr := ⟨_, rfl⟩
        rw [← hwk] at GK ⊢
        clear hwk
        by_cases hkl : k < ux.length
        · obtain ⟨y, hy⟩ : ∃ y, ux[k]? = some y := ⟨_, List.getElem?_eq_getElem hkl⟩
          have hym : (ux.map (tau (first : Int) ((first : Int) + (o : Int))))[k]? = some (tau (first : Int) ((first : Int) + (o : Int)) y) := by rw [List.getElem?_map, hy]; rfl
          obtain ⟨b9, o9, h9, _, hE9⟩ := S10.out.get (by omega)
          have R10' : LI w10 (.slice ua10 ux.length uc10) (ux.map (tau (first : Int) ((first : Int) + (o : Int)))) := R10.out
          obtain ⟨b10, o10, h10, _, hE10⟩ := R10'.get (by rw [List.length_map]; omega)
          subst h9 h10
          have p0 := hE9 k y hy
          have q0 := hE10 k _ hym
          unfold EI at p0 q0
          rw [Nat.mul_one] at p0 q0
          have hr0 := HUM.out y (List.mem_of_getElem? hy)
          have d1 : decide ((k : Int) < (ux.length : Int)) = true := by simp; omega
          have P0 : Hid (wk.cell? ⟨b9, o9 + k, none⟩ = some (.int .i64 y)) := cell_grew p0 GK.out
          by_cases hyf : y < (first : Int)
          · have et : tau (first : Int) ((first : Int) + (o : Int)) y = y := by unfold tau; rw [if_pos hyf]
            rw [et] at q0
            have Q0 : Hid (wk.cell? ⟨b10, o10 + k, none⟩ = some (.int .i64 y)) := cell_grew q0 GK.out
            clear hy hym hE9 hE10 R10' et p0 q0
            go_wp2_with fail
            refine reg_lt hkl S9c S10c P0.out Q0.out ho (by omega) (by omega) hr0.1 (by omega) hyf ?_
            intros
            rename_i w11 g11
            have G11 : Hid (Grew w10 w11) := GK.out.trans g11
            clear g11
            go_wp2_with fail
            go_roundw
            case rel => exact ⟨k + 1, by go_num, by omega, G11⟩
            case measure => simp [intOf]; omega
          · have et : tau (first : Int) ((first : Int) + (o : Int)) y = y + (o : Int) := by unfold tau; rw [if_neg hyf]; omega
            rw [et] at q0
            have Q0 : Hid (wk.cell? ⟨b10, o10 + k, none⟩ = some (.int .i64 (y + (o : Int)))) := cell_grew q0 GK.out
            clear hy hym hE9 hE10 R10' et p0 q0
            go_wp2_with fail
            refine reg_ge hkl S9c S10c P0.out Q0.out ho (by omega) (by omega) hr0.1 (by omega) (by omega) ?_
            intros
            rename_i w11 g11
            have G11 : Hid (Grew w10 w11) := GK.out.trans g11
            clear g11
            go_wp2_with fail
            go_roundw
            case rel => exact ⟨k + 1, by go_num, by omega, G11⟩
            case measure => simp [intOf]; omega
        · have d1 : decide ((k : Int) < (ux.length : Int)) = false := by simp; omega
          go_wp2_with fail
          exact ⟨⟨i + 1, by go_num, by omega, G10.out.trans GK.out⟩, by simp [intOf]; omega⟩
    · have e1 : decide ((i : Int) < (ts.length : Int)) = false := by simp; omega
      go_wp2_with fail
      refine (F.out _ (G8.out.trans G.out)).mono ?_
      rintro en w9 ⟨rfl, g9⟩
      have G9 : Hid (Grew w w9) := (G8.out.trans G.out).trans g9
      clear g9
      go_wp2_with fail
      go_ret
      exact ⟨rfl, G9.out⟩
end Go.Proofs.YtoihkcdjfhmccaaDoor
