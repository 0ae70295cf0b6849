/-
  The law VctlTypes; no statement is proved here.
-/
import Derived.Test.YtahmjgmaaaegcaaGreatDoorVcB
import Derived.Test.YtahmjgmaaaegcaaGreatDoorVcO
import Derived.Test.YtahmjgmaaaegcaaGreatDoorVcT
import Derived.Test.YtahmjgmaaaegcaaGreatDoorCkW
namespace Go.Proofs.YtahmjgmaaaegcaaGreatDoor
open Go.RowKit
set_option linter.unusedVariables false
set_option linter.unusedSimpArgs false

theorem row_atC {w : World} {B : Nat} {e : TypeId} {k : Nat} {v : Value} {n : Nat} {cs : List Value} (h : w.ownsRow B e k v n cs) (hn : 0 < n) : ∃ g c, v = .slice (some ⟨g, 0, none⟩) n c ∧ n ≤ c ∧ c ≤ maxLen ∧ g < w.heap.size := by
  obtain ⟨_, ⟨_, h2⟩ | ⟨g, cap, cur, hv, _, hg, h3, h4, _⟩⟩ := h
  · omega
  · exact ⟨g, cap, hv, h3, h4, lt_of_obj hg⟩
theorem wrap_idC {x : Int} (h0 : -9223372036854775808 ≤ x) (h1 : x ≤ 9223372036854775807) : IntKind.i64.wrap x = x := by
  rw [IntKind.wrap_i64]; omega
theorem ftF_len {L : List RT} (h : SmlL L) (n : Int) : (ftF L n).1.length ≤ 1048576 ∧ (ftF L n).2.1.length ≤ 1048576 := by
  unfold ftF
  split
  · simp
  · cases hx : (flatT L)[n.toNat]? with
    | none => simp
    | some x =>
      simp only
      split
      · exact flat_sml h hx
      · simp
theorem btF_len {L : List RT} (h : SmlL L) (t : Int) (v : VT) : (btF L t v).1.length ≤ 1048576 ∧ (btF L t v).2.1.length ≤ 1048576 := by
  unfold btF
  split
  · exact ftF_len h t
  · split
    · simp
    · split <;> simp
set_option maxRecDepth 100000 in
set_option maxHeartbeats 1000000 in
theorem awakeC_any (w : World) : Calls Tryz.prog 19 #[] w fun en w' => en = .returned (.bool true) ∧ Grew w w' := by
  have CF : Hid (∀ X, Calls Tryz.prog 12 #[.agg #[.slice none 0 0, .slice none 0 0, .slice none 0 0, .slice none 0 0, .slice none 0 0, .slice none 0 0, .slice none 0 0, .int .i64 0, .slice none 0 0], .int .i64 0] X fun en w' => FtP w' [] 0 en ∧ Grew X w') := fun X => funcP_any (Lst.nil _ _ X) (by simp) 0 (by omega) none 0 0 none 0 0 none 0 0 none 0 0 none 0 0 none 0 0 0 none 0 0
  go_enter Tryz.func19, Tryz.ntmps19
  go_wp2_with fail
  refine (CF.out _).mono ?_
  rintro en w1 ⟨⟨pv, rv, rfl, l1, l2⟩, g1⟩
  have e : (ftF [] 0).2.2 = 150 := by decide
  rw [e]
  have G1 : Hid (Grew w w1) := g1
  clear l1 l2 g1 CF
  go_wp2_with fail
  go_ret
  exact ⟨rfl, G1.out⟩
set_option maxRecDepth 100000 in
set_option maxHeartbeats 4000000 in
theorem types_law {w : World} {tv : Value} {L : List RT} (h : LR w tv L) (hb : (L.map muR).sum ≤ 1048576) (n : Int) (hn1 : n ≤ 9223372036854775807) (t : Int) (ht : t ≤ 9223372036854775807) (bn bh : Int) (bz : Bool) (op : Int) (a1 : Option Addr) (l1 c1 : Nat) (a2 : Option Addr) (l2 c2 : Nat) (a3 : Option Addr) (l3 c3 : Nat) (a4 : Option Addr) (l4 c4 : Nat) (a5 : Option Addr) (l5 c5 : Nat) (a6 : Option Addr) (l6 c6 : Nat) (dt : Int) (a8 : Option Addr) (l8 c8 : Nat) :
    Calls Tryz.prog 4 #[.agg (ctxL tv a1 l1 c1 a2 l2 c2 a3 l3 c3 a4 l4 c4 a5 l5 c5 a6 l6 c6 dt a8 l8 c8).toArray, .int .i64 n, .agg #[.int .i64 t, .int .i64 bn, .bool bz, .int .i64 bh], .int .i64 op] w fun e w' => e = .returned (.bool true) ∧ Grew w w' := by
  have hs := sml_of hb
  obtain ⟨ta, tc, htv, _⟩ := h.one
  subst htv
  unfold ctxL
  have CF1 : Hid (∀ X, Grew w X → Calls Tryz.prog 12 #[.agg #[.slice ta L.length tc, .slice a1 l1 c1, .slice a2 l2 c2, .slice a3 l3 c3, .slice a4 l4 c4, .slice a5 l5 c5, .slice a6 l6 c6, .int .i64 dt, .slice a8 l8 c8], .int .i64 n] X fun en w' => FtP w' L n en ∧ Grew X w') := fun X g => funcP_any (h.grew g) hb n hn1 a1 l1 c1 a2 l2 c2 a3 l3 c3 a4 l4 c4 a5 l5 c5 a6 l6 c6 dt a8 l8 c8
  have CF2 : Hid (∀ X, Grew w X → Calls Tryz.prog 13 #[.agg #[.slice ta L.length tc, .slice a1 l1 c1, .slice a2 l2 c2, .slice a3 l3 c3, .slice a4 l4 c4, .slice a5 l5 c5, .slice a6 l6 c6, .int .i64 dt, .slice a8 l8 c8], .int .i64 n] X fun en w' => FtP w' L n en ∧ Grew X w') := fun X g => funcD_any (h.grew g) hb n hn1 a1 l1 c1 a2 l2 c2 a3 l3 c3 a4 l4 c4 a5 l5 c5 a6 l6 c6 dt a8 l8 c8
  have CB1 : Hid (∀ X, Grew w X → Calls Tryz.prog 15 #[.agg #[.slice ta L.length tc, .slice a1 l1 c1, .slice a2 l2 c2, .slice a3 l3 c3, .slice a4 l4 c4, .slice a5 l5 c5, .slice a6 l6 c6, .int .i64 dt, .slice a8 l8 c8], .agg #[.int .i64 t, .int .i64 bn, .bool bz, .int .i64 bh]] X fun en w' => BtP w' L t ⟨bn, bz, bh⟩ en ∧ Grew X w') := fun X g => blockP_any (h.grew g) hb t ht bn bh bz a1 l1 c1 a2 l2 c2 a3 l3 c3 a4 l4 c4 a5 l5 c5 a6 l6 c6 dt a8 l8 c8
  have CB2 : Hid (∀ X, Grew w X → Calls Tryz.prog 16 #[.agg #[.slice ta L.length tc, .slice a1 l1 c1, .slice a2 l2 c2, .slice a3 l3 c3, .slice a4 l4 c4, .slice a5 l5 c5, .slice a6 l6 c6, .int .i64 dt, .slice a8 l8 c8], .agg #[.int .i64 t, .int .i64 bn, .bool bz, .int .i64 bh]] X fun en w' => BtP w' L t ⟨bn, bz, bh⟩ en ∧ Grew X w') := fun X g => blockD_any (h.grew g) hb t ht bn bh bz a1 l1 c1 a2 l2 c2 a3 l3 c3 a4 l4 c4 a5 l5 c5 a6 l6 c6 dt a8 l8 c8
  have hfl := ftF_len hs n
  have hbl := btF_len hs t ⟨bn, bz, bh⟩
  have CS1 : Hid (∀ X u v, LV X u (ftF L n).1 → LV X v (ftF L n).1 → Calls Tryz.prog 14 #[u, v] X fun en w' => en = .returned (.bool true) ∧ Grew X w') := fun X u v h1 h2 => sameC_any h1 h2 hfl.1
  have CS2 : Hid (∀ X u v, LV X u (ftF L n).2.1 → LV X v (ftF L n).2.1 → Calls Tryz.prog 14 #[u, v] X fun en w' => en = .returned (.bool true) ∧ Grew X w') := fun X u v h1 h2 => sameC_any h1 h2 hfl.2
  have CS3 : Hid (∀ X u v, LV X u (btF L t ⟨bn, bz, bh⟩).1 → LV X v (btF L t ⟨bn, bz, bh⟩).1 → Calls Tryz.prog 14 #[u, v] X fun en w' => en = .returned (.bool true) ∧ Grew X w') := fun X u v h1 h2 => sameC_any h1 h2 hbl.1
  have CS4 : Hid (∀ X u v, LV X u (btF L t ⟨bn, bz, bh⟩).2.1 → LV X v (btF L t ⟨bn, bz, bh⟩).2.1 → Calls Tryz.prog 14 #[u, v] X fun en w' => en = .returned (.bool true) ∧ Grew X w') := fun X u v h1 h2 => sameC_any h1 h2 hbl.2
  clear h hb hn1 ht hs hfl hbl
  go_enter Tryz.func4, Tryz.ntmps4
  go_wp2_with fail
  obtain ⟨w0, hw0⟩ : ∃ w0, w0 = (w.alloc (.cells #[.slice ta L.length tc, .slice a1 l1 c1, .slice a2 l2 c2, .slice a3 l3 c3, .slice a4 l4 c4, .slice a5 l5 c5, .slice a6 l6 c6, .int .i64 dt, .slice a8 l8 c8] 41)).alloc (.cells #[.int .i64 t, .int .i64 bn, .bool bz, .int .i64 bh] 43) := ⟨_, rfl⟩
  have G0 : Hid (Grew w w0) := by rw [hw0]; exact ((Grew.refl w).alloc _).alloc _
  have N0 : Hid (w0.heap[w.heap.size]? = some (.cells #[.slice ta L.length tc, .slice a1 l1 c1, .slice a2 l2 c2, .slice a3 l3 c3, .slice a4 l4 c4, .slice a5 l5 c5, .slice a6 l6 c6, .int .i64 dt, .slice a8 l8 c8] 41 (0, 0))) := by rw [hw0]; exact heap_alloc (heap_alloc_last _ _) _
  have N1 : Hid (w0.heap[w.heap.size + 1]? = some (.cells #[.int .i64 t, .int .i64 bn, .bool bz, .int .i64 bh] 43 (0, 0))) := by
    rw [hw0]
    have := heap_alloc_last (w.alloc (.cells #[.slice ta L.length tc, .slice a1 l1 c1, .slice a2 l2 c2, .slice a3 l3 c3, .slice a4 l4 c4, .slice a5 l5 c5, .slice a6 l6 c6, .int .i64 dt, .slice a8 l8 c8] 41)) (.cells #[.int .i64 t, .int .i64 bn, .bool bz, .int .i64 bh] 43)
    rw [alloc_size] at this
    exact this
  rw [← hw0]
  clear hw0
  refine (CF1.out _ G0.out).mono ?_
  rintro en w1 ⟨⟨p1, r1, rfl, lp, lr⟩, g⟩
  have P1 : Hid (LV w1 p1 (ftF L n).1) := lp
  have R1 : Hid (LV w1 r1 (ftF L n).2.1) := lr
  have G1 : Hid (Grew w w1) := G0.out.trans g
  have N0' := (g.turn []).other N0.out (by simp)
  have N1' := (g.turn []).other N1.out (by simp)
  have S1 : Hid (Grew w0 w1) := g
  clear lp lr g N0 N1
  have N0 := Hid.mk' N0'
  have N1 := Hid.mk' N1'
  clear N0' N1'
  obtain ⟨e1, he1⟩ : ∃ e, e = (ftF L n).2.2 := ⟨_, rfl⟩
  rw [← he1]
  have HE1 := Hid.mk' he1
  clear he1
  have A0 := N0.out
  have A1 := N1.out
  have x0 := cell_of A0 0
  have x1 := cell_of A0 1
  have x2 := cell_of A0 2
  have x3 := cell_of A0 3
  have x4 := cell_of A0 4
  have x5 := cell_of A0 5
  have x6 := cell_of A0 6
  have x7 := cell_of A0 7
  have x8 := cell_of A0 8
  have y0 := cell_of A1 0
  have y1 := cell_of A1 1
  have y2 := cell_of A1 2
  have y3 := cell_of A1 3
  simp at x0 x1 x2 x3 x4 x5 x6 x7 x8 y0 y1 y2 y3
  have lb0 := lt_of_obj A0
  have lb1 := lt_of_obj A1
  clear A0 A1
  go_wp2_with fail
  clear x0 x1 x2 x3 x4 x5 x6 x7 x8 y0 y1 y2 y3 lb0 lb1
  refine (CF2.out _ G1.out).mono ?_
  rintro en w2 ⟨⟨p2, r2, rfl, lp, lr⟩, g⟩
  have P2 : Hid (LV w2 p2 (ftF L n).1) := lp
  have R2 : Hid (LV w2 r2 (ftF L n).2.1) := lr
  have G2 : Hid (Grew w w2) := G1.out.trans g
  have N0' := (g.turn []).other N0.out (by simp)
  have N1' := (g.turn []).other N1.out (by simp)
  have S2 : Hid (Grew w1 w2) := g
  clear lp lr g N0 N1
  have N0 := Hid.mk' N0'
  have N1 := Hid.mk' N1'
  clear N0' N1'
  rw [← HE1.out]
  have d1 : (e1 != e1) = false := by simp
  go_wp2_with fail
  refine (CS1.out _ _ _ (P1.out.grew S2.out) P2.out).mono ?_
  rintro en w3 ⟨rfl, g⟩
  have S3 := Hid.mk' g
  have G3 := Hid.mk' (G2.out.trans g)
  clear g
  go_wp2_with fail
  refine (CS2.out _ _ _ (R1.out.grew (S2.out.trans S3.out)) (R2.out.grew S3.out)).mono ?_
  rintro en w4 ⟨rfl, g⟩
  have G4 := Hid.mk' (G3.out.trans g)
  have N0' := ((S3.out.trans g).turn []).other N0.out (by simp)
  have N1' := ((S3.out.trans g).turn []).other N1.out (by simp)
  clear g N0 N1 d1
  have N0 := Hid.mk' N0'
  have N1 := Hid.mk' N1'
  clear N0' N1' S2 S3 P1 P2 R1 R2 CF1 CF2 CS1 CS2 G0 G1 G2 G3 HE1
  have A0 := N0.out
  have A1 := N1.out
  have x0 := cell_of A0 0
  have x1 := cell_of A0 1
  have x2 := cell_of A0 2
  have x3 := cell_of A0 3
  have x4 := cell_of A0 4
  have x5 := cell_of A0 5
  have x6 := cell_of A0 6
  have x7 := cell_of A0 7
  have x8 := cell_of A0 8
  have y0 := cell_of A1 0
  have y1 := cell_of A1 1
  have y2 := cell_of A1 2
  have y3 := cell_of A1 3
  simp at x0 x1 x2 x3 x4 x5 x6 x7 x8 y0 y1 y2 y3
  have lb0 := lt_of_obj A0
  have lb1 := lt_of_obj A1
  clear A0 A1
  go_wp2_with fail
  clear x0 x1 x2 x3 x4 x5 x6 x7 x8 y0 y1 y2 y3 lb0 lb1
  refine (CB1.out _ G4.out).mono ?_
  rintro en w5 ⟨⟨p5, r5, rfl, lp, lr⟩, g⟩
  have P5 : Hid (LV w5 p5 (btF L t ⟨bn, bz, bh⟩).1) := lp
  have R5 : Hid (LV w5 r5 (btF L t ⟨bn, bz, bh⟩).2.1) := lr
  have G5 : Hid (Grew w w5) := G4.out.trans g
  have N0' := (g.turn []).other N0.out (by simp)
  have N1' := (g.turn []).other N1.out (by simp)
  have S5 : Hid (Grew w4 w5) := g
  clear lp lr g N0 N1
  have N0 := Hid.mk' N0'
  have N1 := Hid.mk' N1'
  clear N0' N1'
  obtain ⟨e5, he5⟩ : ∃ e, e = (btF L t ⟨bn, bz, bh⟩).2.2 := ⟨_, rfl⟩
  rw [← he5]
  have HE5 := Hid.mk' he5
  clear he5
  have A0 := N0.out
  have A1 := N1.out
  have x0 := cell_of A0 0
  have x1 := cell_of A0 1
  have x2 := cell_of A0 2
  have x3 := cell_of A0 3
  have x4 := cell_of A0 4
  have x5 := cell_of A0 5
  have x6 := cell_of A0 6
  have x7 := cell_of A0 7
  have x8 := cell_of A0 8
  have y0 := cell_of A1 0
  have y1 := cell_of A1 1
  have y2 := cell_of A1 2
  have y3 := cell_of A1 3
  simp at x0 x1 x2 x3 x4 x5 x6 x7 x8 y0 y1 y2 y3
  have lb0 := lt_of_obj A0
  have lb1 := lt_of_obj A1
  clear A0 A1
  go_wp2_with fail
  clear x0 x1 x2 x3 x4 x5 x6 x7 x8 y0 y1 y2 y3 lb0 lb1
  refine (CB2.out _ G5.out).mono ?_
  rintro en w6 ⟨⟨p6, r6, rfl, lp, lr⟩, g⟩
  have P6 : Hid (LV w6 p6 (btF L t ⟨bn, bz, bh⟩).1) := lp
  have R6 : Hid (LV w6 r6 (btF L t ⟨bn, bz, bh⟩).2.1) := lr
  have G6 : Hid (Grew w w6) := G5.out.trans g
  have N0' := (g.turn []).other N0.out (by simp)
  have N1' := (g.turn []).other N1.out (by simp)
  have S6 : Hid (Grew w5 w6) := g
  clear lp lr g N0 N1
  have N0 := Hid.mk' N0'
  have N1 := Hid.mk' N1'
  clear N0' N1'
  rw [← HE5.out]
  have d1 : (e5 != e5) = false := by simp
  go_wp2_with fail
  refine (CS3.out _ _ _ (P5.out.grew S6.out) P6.out).mono ?_
  rintro en w7 ⟨rfl, g⟩
  have S7 := Hid.mk' g
  have G7 := Hid.mk' (G6.out.trans g)
  clear g
  go_wp2_with fail
  refine (CS4.out _ _ _ (R5.out.grew (S6.out.trans S7.out)) (R6.out.grew S7.out)).mono ?_
  rintro en w8 ⟨rfl, g⟩
  have G8 := Hid.mk' (G7.out.trans g)
  clear g N0 N1 d1 S6 S7 P5 P6 R5 R6 CB1 CB2 CS3 CS4 G4 G5 G6 G7 HE5
  go_wp2_with fail
  refine (opsC_any _).mono ?_
  rintro e w2 ⟨v, rfl, hv, g2⟩
  obtain ⟨g, c, rfl, hc1, hc2, hg⟩ := row_atC hv (by omega)
  have V2 : Hid (w2.ownsRow w8.heap.size 3 1 (.slice (some ⟨g, 0, none⟩) 16 c) 16 (CL.map encZ)) := hv
  have G2 : Hid (Grew w w2) := G8.out.trans g2
  clear hv g2 G8
  go_wp2_with fail
  go_loopw [16, 17] (fun b i wx => ∃ j : Nat, j ≤ 16 ∧ i = .int .i64 j ∧ b = .bool ((CL.take j).any (fun x => decide (x = op))) ∧ Grew w2 wx) (fun _ i _ => 16 - (intOf i).toNat)
  case atStart => exact ⟨0, by omega, rfl, rfl, Grew.refl w2⟩
  case round =>
    obtain ⟨j, hj, rfl, rfl, pg⟩ := hrel
    have PG : Hid (Grew w2 wr) := pg
    by_cases hlt : j < 16
    · obtain ⟨n, hn⟩ : ∃ n, CL[j]? = some n := ⟨CL[j]'(by rw [CL_len]; exact hlt), List.getElem?_eq_getElem (by rw [CL_len]; exact hlt)⟩
      have HS : Hid ((CL.take (j + 1)).any (fun x => decide (x = op)) = ((CL.take j).any (fun x => decide (x = op)) || decide (n = op))) := has_stepC hn
      have CE : ∀ k m, CL[k]? = some m → k < 16 → wr.cell? ⟨g, k, none⟩ = some (.int .i64 m) := by
        intro k m hk hk2
        rw [pg.1.cell hg, V2.out.cellAt k (by omega)]
        rw [List.getElem?_map, hk]
        rfl
      have q0 := CE j n hn hlt
      have d1 : decide ((j : Int) < 16) = true := by simp; omega
      generalize (CL.take j).any (fun x => decide (x = op)) = B at *
      have hgr : g < wr.heap.size := Nat.lt_of_lt_of_le hg pg.2
      have heq : (n == op) = decide (n = op) := rfl
      by_cases hj0 : j = 0
      · have d2 : decide ((0 : Int) < (j : Int)) = false := by simp; omega
        have d2n : decide (0 < j) = false := by simp; omega
        have m : Int := 0
        clear CE pg hn hj0
        go_wp2_with fail
        refine wp_region_ck [(g, j, .int .i64 n), (g, j, .int .i64 n)] (by kernel_rfl) (by kernel_rfl) ⟨⟨hgr, q0⟩, ⟨hgr, q0⟩, trivial⟩ ?_
        repeat (first
          | go_big_quiet_skip
          | (go_big_quiet_want
             go_big_quiet_op
             first
             | (refine ⟨.bool true, fun w' hw' => ?_, ?_⟩
                · (go_simp; done)
                go_big_quiet_on)
             | (refine ⟨.bool false, fun w' hw' => ?_, ?_⟩
                · (go_simp; done)
                go_big_quiet_on)
             | (refine ⟨.int .i64 (j : Int), fun w' hw' => ?_, ?_⟩
                · (go_simp; done)
                go_big_quiet_on)
             | go_big_quiet_on
             | (refine ⟨_, fun _ _ => rfl, ?_⟩; go_big_quiet_on)
             | (refine ⟨.int .i64 n, fun w' hw' => ?_, ?_⟩
                · (obtain ⟨_, ⟨_, hc0⟩, ⟨_, hc1⟩, _⟩ := hw'; go_simp; done)
                go_big_quiet_on)
             | (refine ⟨.int .i64 m, fun w' hw' => ?_, ?_⟩
                · (obtain ⟨_, ⟨_, hc0⟩, ⟨_, hc1⟩, _⟩ := hw'; go_simp; done)
                go_big_quiet_on)))
        refine wpQuiet_nil ?_
        rintro w6 ⟨g6, _⟩
        have G6 : Hid (Grew w2 w6) := PG.out.trans g6
        have r0 : w6.cell? ⟨g, j, none⟩ = some (.int .i64 n) := by rw [g6.1.cell hgr]; exact q0
        clear g6 q0
        cases B with
        | true =>
          go_wp2_with fail
          go_roundw
          case rel => exact ⟨j + 1, by omega, by go_num, by rw [HS.out]; rfl, G6.out⟩
          case measure => simp [intOf]; omega
        | false =>
          go_wp2_with fail
          go_roundw
          case rel => exact ⟨j + 1, by omega, by go_num, by rw [HS.out]; rfl, G6.out⟩
          case measure => simp [intOf]; omega
      · obtain ⟨i, hi⟩ : ∃ i, j = i + 1 := ⟨j - 1, by omega⟩
        obtain ⟨m, hm⟩ : ∃ m, CL[i]? = some m := ⟨CL[i]'(by rw [CL_len]; omega), List.getElem?_eq_getElem (by rw [CL_len]; omega)⟩
        have hrise := riseC_at CL i m n CL_rise hm (by rw [← hi]; exact hn)
        have q1 := CE i m hm (by omega)
        have d2 : decide ((0 : Int) < (j : Int)) = true := by simp; omega
        have d2n : decide (0 < j) = true := by simp; omega
        have hw : IntKind.i64.wrap ((j : Int) - 1) = (i : Int) := by rw [wrap_idC (by omega) (by omega)]; omega
        have hs : (j : Int) - 1 = (i : Int) := by omega
        have d3 : decide (n ≤ m) = false := by simp; omega
        have b1 : (i : Int) < 16 := by omega
        have b2 : (j : Int) < 16 := by omega
        clear CE pg hn hm hj0 hi hrise
        go_wp2_with fail
        refine wp_region_ck [(g, j, .int .i64 n), (g, i, .int .i64 m)] (by kernel_rfl) (by kernel_rfl) ⟨⟨hgr, q0⟩, ⟨hgr, q1⟩, trivial⟩ ?_
        repeat (first
          | go_big_quiet_skip
          | (go_big_quiet_want
             go_big_quiet_op
             first
             | (refine ⟨.bool true, fun w' hw' => ?_, ?_⟩
                · (go_simp; done)
                go_big_quiet_on)
             | (refine ⟨.bool false, fun w' hw' => ?_, ?_⟩
                · (go_simp; done)
                go_big_quiet_on)
             | (refine ⟨.int .i64 (i : Int), fun w' hw' => ?_, ?_⟩
                · (go_simp; done)
                go_big_quiet_on)
             | go_big_quiet_on
             | (refine ⟨_, fun _ _ => rfl, ?_⟩; go_big_quiet_on)
             | (refine ⟨.int .i64 n, fun w' hw' => ?_, ?_⟩
                · (obtain ⟨_, ⟨_, hc0⟩, ⟨_, hc1⟩, _⟩ := hw'; go_simp; done)
                go_big_quiet_on)
             | (refine ⟨.int .i64 m, fun w' hw' => ?_, ?_⟩
                · (obtain ⟨_, ⟨_, hc0⟩, ⟨_, hc1⟩, _⟩ := hw'; go_simp; done)
                go_big_quiet_on)))
        refine wpQuiet_nil ?_
        rintro w6 ⟨g6, _⟩
        have G6 : Hid (Grew w2 w6) := PG.out.trans g6
        have r0 : w6.cell? ⟨g, j, none⟩ = some (.int .i64 n) := by rw [g6.1.cell hgr]; exact q0
        clear g6 q0
        cases B with
        | true =>
          go_wp2_with fail
          go_roundw
          case rel => exact ⟨j + 1, by omega, by go_num, by rw [HS.out]; rfl, G6.out⟩
          case measure => simp [intOf]; omega
        | false =>
          go_wp2_with fail
          go_roundw
          case rel => exact ⟨j + 1, by omega, by go_num, by rw [HS.out]; rfl, G6.out⟩
          case measure => simp [intOf]; omega
    · have hjn : j = 16 := by omega
      have e16 : CL.take 16 = CL := by decide
      have HB : (CL.take j).any (fun x => decide (x = op)) = inCL op := by rw [hjn, e16]; rfl
      rw [HB]
      have hd : decide ((j : Int) < 16) = false := by simp; omega
      have CT : Hid (∀ W, Calls Tryz.prog 18 #[.int .i64 op] W fun en w' => en = .returned (.bool (inCL op)) ∧ Grew W w') := takesC_any op
      have CW : Hid (∀ W, Calls Tryz.prog 19 #[] W fun en w' => en = .returned (.bool true) ∧ Grew W w') := awakeC_any
      have GA : Hid (Grew w wr) := G2.out.trans pg
      clear HB hjn e16 pg V2 PG G2
      generalize inCL op = B at *
      go_wp2_with fail
      refine (CT.out _).mono ?_
      rintro en w5 ⟨rfl, g5⟩
      have dB : (B == B) = true := by simp
      have G5 := Hid.mk' (GA.out.trans g5)
      clear g5 GA
      go_wp2_with fail
      refine (CW.out _).mono ?_
      rintro en w6 ⟨rfl, g6⟩
      have G6 := Hid.mk' (G5.out.trans g6)
      clear g6
      go_wp2_with fail
      all_goals
        go_ret
        exact ⟨rfl, G6.out⟩
end Go.Proofs.YtahmjgmaaaegcaaGreatDoor
