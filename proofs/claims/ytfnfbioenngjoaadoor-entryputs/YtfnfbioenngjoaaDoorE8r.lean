/-
  Imports written by the document; no statement is proved here.
-/
import Derived.Test.YtfnfbioenngjoaaDoorE8q
import Derived.Deep.RegionLaw
namespace Go.Proofs.YtfnfbioenngjoaaDoor
open Go.RowKit
set_option linter.unusedVariables false
set_option linter.unusedSimpArgs false
set_option linter.constructorNameAsVariable false

set_option maxRecDepth 100000 in
set_option maxHeartbeats 2000000 in
theorem dimp_0 (w : World) (m n : List Int) (hB1 : Byt m) (hs1 : m.length ≤ 140737488351232) (hB2 : Byt n) (hs2 : n.length ≤ 140737488351232) (k ty tn th tp tq mp mq gn gh : Int) (tz tw tm mw mm gz gm : Bool) (hy0 : -9223372036854775808 ≤ ty) (hy1 : ty ≤ 9223372036854775807) (hth0 : -9223372036854775808 ≤ th) (hth1 : th ≤ 9223372036854775807) (hgh0 : -9223372036854775808 ≤ gh) (hgh1 : gh ≤ 9223372036854775807) (htp0 : 0 ≤ tp) (htp1 : tp ≤ 18446744073709551615) (htq0 : 0 ≤ tq) (htq1 : tq ≤ 18446744073709551615) (hmp0 : 0 ≤ mp) (hmp1 : mp ≤ 18446744073709551615) (hmq0 : 0 ≤ mq) (hmq1 : mq ≤ 18446744073709551615) :
    Calls Tryd.prog 5 #[.agg (.string (strOfNums m) :: .string (strOfNums n) :: [.int .i64 0, .int .i64 ty, .int .i64 tn, .bool tz, .int .i64 th, .bool tw, .int .u64 tp, .int .u64 tq, .bool tm, .bool mw, .int .u64 mp, .int .u64 mq, .bool mm, .int .i64 gn, .bool gz, .int .i64 gh, .bool gm]).toArray] w (PAns w (impW m n (extP 0 ((zT tn tz th tw tp tq tm) && ((zM mw mp mq mm) && (zG gn gz gh gm))) (uidxW ty)))) := by
  have CB : Hid (∀ W : World, Calls Tryd.prog 18 #[.agg #[.int .i64 0, .int .i64 ty, .int .i64 tn, .bool tz, .int .i64 th, .bool tw, .int .u64 tp, .int .u64 tq, .bool tm, .bool mw, .int .u64 mp, .int .u64 mq, .bool mm, .int .i64 gn, .bool gz, .int .i64 gh, .bool gm], .int .i64 0] W fun en w' => en = .returned (.bool ((zT tn tz th tw tp tq tm) && ((zM mw mp mq mm) && (zG gn gz gh gm)))) ∧ Grew W w') := fun W => blank0_any k ty tn th tp tq mp mq gn gh tz tw tm mw mm gz gm W
  obtain ⟨ea, hea⟩ : ∃ ea : Array Value, ea = #[.int .i64 0, .int .i64 ty, .int .i64 tn, .bool tz, .int .i64 th, .bool tw, .int .u64 tp, .int .u64 tq, .bool tm, .bool mw, .int .u64 mp, .int .u64 mq, .bool mm, .int .i64 gn, .bool gz, .int .i64 gh, .bool gm] := ⟨_, rfl⟩
  obtain ⟨is, his⟩ : ∃ is : Array Value, is = (.string (strOfNums m) :: .string (strOfNums n) :: [.int .i64 0, .int .i64 ty, .int .i64 tn, .bool tz, .int .i64 th, .bool tw, .int .u64 tp, .int .u64 tq, .bool tm, .bool mw, .int .u64 mp, .int .u64 mq, .bool mm, .int .i64 gn, .bool gz, .int .i64 gh, .bool gm]).toArray := ⟨_, rfl⟩
  rw [← his]
  rw [← hea] at CB
  have hsz17 : ea.size = 17 := by rw [hea]; rfl
  have hsz : (Tryd.prog.info? 32).map (·.size) = some ea.size := by rw [hea]; kernel_rfl
  have hone : ea.all (·.oneCell') = true := by rw [hea]; simp [Value.oneCell']
  have i0 : is[0]? = some (.string (strOfNums m)) := by rw [his]; rfl
  have i1 : is[1]? = some (.string (strOfNums n)) := by rw [his]; rfl
  have LSEG : Hid (∀ W : World, W.heap[w.heap.size]? = some (.cells is 34 (0, 0)) → (loadVar 32 ⟨w.heap.size, 2, none⟩).run Tryd.prog W = .ok (.agg ea) W) := fun W hW => by
    rw [hea]
    exact run_loadVar_seg W w.heap.size 2 32 [.int .i64 0, .int .i64 ty, .int .i64 tn, .bool tz, .int .i64 th, .bool tw, .int .u64 tp, .int .u64 tq, .bool tm, .bool mw, .int .u64 mp, .int .u64 mq, .bool mm, .int .i64 gn, .bool gz, .int .i64 gh, .bool gm] _ (seg_of hW (fun j v hj => by rw [his, show 2 + j = j + 1 + 1 by omega]; simpa using hj)) Tryd.underlying32 rfl (by kernel_rfl)
  have LROW : Hid (∀ (W : World) (g : Nat), W.heap[g]? = some (.cells ea 32 (0, 0)) → (loadVar 32 ⟨g, 0, none⟩).run Tryd.prog W = .ok (.agg ea) W) := fun W g hW => run_loadVar_row W g 32 32 ea (0, 0) _ hW Tryd.underlying32 rfl hsz
  have e0 : ea[0]? = some (.int .i64 0) := by rw [hea]; rfl
  have e1 : ea[1]? = some (.int .i64 ty) := by rw [hea]; rfl
  have C1 : Hid (∀ W : World, DW (w.heap.size + 1) (w.heap.size + 1 + 1) W (.ok []) 0 → Calls Tryd.prog 16 #[.pointer (some ⟨w.heap.size + 1, 0, none⟩), .string (strOfNums m)] W (DA (w.heap.size + 1) (w.heap.size + 1 + 1) W (nameW m) 65547)) := fun W u => by
    have := dwName_any u m hB1 hs1 (by omega)
    rwa [thenW_l, Nat.zero_add] at this
  have C2 : Hid (∀ W : World, DW (w.heap.size + 1) (w.heap.size + 1 + 1) W (nameW m) 65547 → Calls Tryd.prog 16 #[.pointer (some ⟨w.heap.size + 1, 0, none⟩), .string (strOfNums n)] W (DA (w.heap.size + 1) (w.heap.size + 1 + 1) W (thenW (nameW m) (nameW n)) 131094)) := fun W u => dwName_any u n hB2 hs2 (by omega)
  generalize strOfNums m = s1 at *
  generalize strOfNums n = s2 at *
  unfold impW
  generalize nameW m = R1 at *
  generalize nameW n = R2 at *
  generalize ((zT tn tz th tw tp tq tm) && ((zM mw mp mq mm) && (zG gn gz gh gm))) = bk at *
  have MU : Hid (∀ W : World, DW (w.heap.size + 1) (w.heap.size + 1 + 1) W (thenW R1 R2) 131094 → Calls Tryd.prog 17 #[.pointer (some ⟨w.heap.size + 1, 0, none⟩), .bool bk, .int .i64 4] W (DA (w.heap.size + 1) (w.heap.size + 1 + 1) W (thenW (thenW R1 R2) (needW bk 4)) 131094)) := fun W u => must_any u bk 4 (by decide)
  obtain ⟨RR0, hRR⟩ : ∃ RR0, RR0 = thenW R1 (thenW R2 (extP 0 bk (uidxW ty))) := ⟨_, rfl⟩
  rw [← hRR]
  have EE : Hid (thenW (thenW (thenW (thenW R1 R2) (needW bk 4)) (.ok [0])) (uidxW ty) = RR0) := by
    show _ = _
    rw [hRR]
    unfold extP
    cases R1 with
    | error e => rfl
    | ok r1 =>
      cases R2 with
      | error e => rfl
      | ok r2 =>
        cases bk with
        | false => rfl
        | true =>
          generalize uidxW ty = RP
          cases RP with
          | error e => simp [thenW, needW]
          | ok r3 => simp [thenW, needW]
  clear hea his hRR
  obtain ⟨w0, hw0⟩ : ∃ w0, ((w.alloc (.cells is 34)).alloc (.cells #[.slice none 0 0, .int .i64 0] 59)) = w0 := ⟨_, rfl⟩
  have S0 : Hid (DW (w.heap.size + 1) (w.heap.size + 1 + 1) w0 (.ok []) 0) := by
    have := dw_new (w.alloc (.cells is 34))
    rw [alloc_size, hw0] at this
    exact this
  have G0 : Hid (Grew w w0) := by rw [← hw0]; exact ((Grew.refl w).alloc _).alloc _
  have X0_0 : Hid (w0.heap[w.heap.size]? = some (.cells is 34 (0, 0))) := by rw [← hw0]; exact heap_alloc (heap_alloc_last _ _) _
  have f00 := (cell_of X0_0.out 0).trans i0
  go_enter Tryd.func5, Tryd.ntmps5
  go_wp2_with fail
  refine (C1.out _ S0.out).mono ?_
  rintro en w1 ⟨rfl, t1, s1⟩
  have S1 : Hid (DW (w.heap.size + 1) (w.heap.size + 1 + 1) w1 (R1) (65547)) := s1
  have G1 : Hid (Grew w w1) := t1.grew0 G0.out (by omega) (by omega)
  have X0_1 : Hid (w1.heap[w.heap.size]? = some (.cells is 34 (0, 0))) := t1.other X0_0.out (by omega) (NoT.of X0_0.out (by decide))
  clear t1 s1 G0 S0 X0_0
  clear f00 hw0
  have f01 := (cell_of X0_1.out 1).trans i1
  go_wp2_with fail
  refine (C2.out _ S1.out).mono ?_
  rintro en w2 ⟨rfl, t2, s2⟩
  have S2 : Hid (DW (w.heap.size + 1) (w.heap.size + 1 + 1) w2 (thenW R1 R2) (131094)) := s2
  have G2 : Hid (Grew w w2) := t2.grew0 G1.out (by omega) (by omega)
  have X0_2 : Hid (w2.heap[w.heap.size]? = some (.cells is 34 (0, 0))) := t2.other X0_1.out (by omega) (NoT.of X0_1.out (by decide))
  clear t2 s2 G1 S1 X0_1
  clear f01
  have L2 : (loadVar 32 ⟨w.heap.size, 2, none⟩).run Tryd.prog w2 = .ok (.agg ea) w2 := LSEG.out w2 X0_2.out
  have K2 := run_storeCells_new (P := Tryd.prog) w2 32 #[.int .i64 0, .int .i64 0, .int .i64 0, .bool false, .int .i64 0, .bool false, .int .u64 0, .int .u64 0, .bool false, .bool false, .int .u64 0, .int .u64 0, .bool false, .int .i64 0, .bool false, .int .i64 0, .bool false] ea hsz (by rw [hsz17]; rfl) hone
  have Y2 : Hid ((w2.alloc (.cells ea 32)).heap[w2.heap.size]? = some (.cells ea 32 (0, 0))) := heap_alloc_last _ _
  have hN2 : (w.heap.size + 1 + 1) ≤ w2.heap.size := S2.out.le
  have y0 := (cell_of Y2.out 0).trans e0
  go_wp2_with (first
    | (refine at_load 32 rfl ?_; refine wpList_load_run (by first | rfl | simp [Region.wanted, yielded]) 32 _ rfl w.heap.size 2 rfl (.agg ea) L2 ?_)
    | (refine at_load 32 rfl ?_; refine wpList_load_run (by first | rfl | simp [Region.wanted, yielded]) 32 _ rfl w2.heap.size 0 rfl (.agg ea) (LROW.out _ _ Y2.out) ?_)
    | fail)
  refine (CB.out _).mono ?_
  rintro en w3 ⟨rfl, g3⟩
  have S3 : Hid (DW (w.heap.size + 1) (w.heap.size + 1 + 1) w3 (thenW R1 R2) 131094) := (S2.out.grew ((Grew.refl _).alloc _)).grew g3
  have G3 : Hid (Grew w w3) := (G2.out.alloc _).trans g3
  have X0_3 : Hid (w3.heap[w2.heap.size]? = some (.cells ea 32 (0, 0))) := (g3.turn []).other Y2.out (by simp)
  clear g3 S2 G2 X0_2 Y2 L2 K2 y0
  generalize w2.heap.size = xb at *
  have f00 := (cell_of X0_3.out 0).trans e0
  go_wp2_with fail
  refine (MU.out _ S3.out).mono ?_
  rintro en w4 ⟨rfl, t4, s4⟩
  have S4 : Hid (DW (w.heap.size + 1) (w.heap.size + 1 + 1) w4 (thenW (thenW R1 R2) (needW bk 4)) (131094)) := s4
  have G4 : Hid (Grew w w4) := t4.grew0 G3.out (by omega) (by omega)
  have X0_4 : Hid (w4.heap[xb]? = some (.cells ea 32 (0, 0))) := t4.other X0_3.out (by omega) (NoT.of X0_3.out (by decide))
  clear t4 s4 G3 S3 X0_3
  clear f00
  have f00 := (cell_of X0_4.out 0).trans e0
  have hwk : IntKind.u8.wrap 0 = 0 := by decide
  obtain ⟨o4, er4, l4, h14, h24, h34, h44⟩ := S4.out.ex
  obtain ⟨oa4, oc4, rfl⟩ := row_one h24
  have c04 := cell_of h14 0
  simp at c04
  have R4 : Hid (w4.ownsRow (w.heap.size + 1 + 1) 5 1 (.slice oa4 l4.length oc4) l4.length (U8 l4)) := h24
  have O4 : Hid (w4.heap[(w.heap.size + 1)]? = some (dob (.slice oa4 l4.length oc4) er4)) := h14
  have E4 : Hid (StE (thenW (thenW R1 R2) (needW bk 4)) l4 er4) := h44
  have hBl4 : (w.heap.size + 1 + 1) ≤ w4.heap.size := S4.out.le
  have c14 := cell_of (heap_alloc O4.out (.cells #[.int .u8 0] 5)) 0
  simp at c14
  clear h14 h24 h44
  go_wp2_with fail
  go_region_law (first
    | (refine step_appG (w0 := w4) (B := (w.heap.size + 1 + 1)) (v := .slice oa4 l4.length oc4) (u := .slice (some ⟨w4.heap.size, 0, none⟩) 1 1) (l := l4) (r := [0]) rfl (.tmp 38) (.tmp 42) rfl rfl rfl (by first | exact ((Grew.refl _).alloc _) | exact ((Grew.refl _).alloc _).drew) R4.out hBl4 (by first | exact reads_new _ _ _ | exact (reads_new _ _ _).below (Grew.refl _).drew.1) (by simp) (by simp; omega) ?_
       intro v5 x5 ho5 hg5
       obtain ⟨a5, cc5, hv5⟩ := row_one ho5
       rw [List.length_append] at hv5
       subst hv5
       have A5 := dw_app (b := (w.heap.size + 1)) (B := (w.heap.size + 1 + 1)) (w := w4.alloc (.cells #[.int .u8 0] 5)) (st := thenW (thenW R1 R2) (needW bk 4)) (N := 131094) (r := [0]) (heap_alloc O4.out _) (World.ownsRow.alloc R4.out _) h34 E4.out (by omega) (by simp; omega) ho5 ⟨hg5.os, hg5.tape, hg5.output, hg5.size, hg5.block⟩
       have q5 := cell_of A5.1 0
       have z5 := free_of A5.1 0
       simp at q5
       have HA5 : Hid (WT (w.heap.size + 1) (w.heap.size + 1 + 1) (w4.alloc (.cells #[.int .u8 0] 5)) (x5.setCell ⟨w.heap.size + 1, 0, none⟩ (.slice a5 (l4.length + [(0 : Int)].length) cc5)) ∧ DW (w.heap.size + 1) (w.heap.size + 1 + 1) (x5.setCell ⟨w.heap.size + 1, 0, none⟩ (.slice a5 (l4.length + [(0 : Int)].length) cc5)) (thenW (thenW (thenW R1 R2) (needW bk 4)) (.ok [0])) (131094 + [(0 : Int)].length)) := A5.2
       clear A5 hg5 ho5))
  all_goals

    generalize hw5 : x5.setCell ⟨w.heap.size + 1, 0, none⟩ (.slice a5 (l4.length + [(0 : Int)].length) cc5) = w5 at *
    have S5 : Hid (DW (w.heap.size + 1) (w.heap.size + 1 + 1) w5 (thenW (thenW (thenW R1 R2) (needW bk 4)) (.ok [0])) (131094 + 1)) := HA5.out.2
    have G5 : Hid (Grew w w5) := HA5.out.1.grew0 (G4.out.alloc _) (by omega) (by omega)
    have X0_5 : Hid (w5.heap[xb]? = some (.cells ea 32 (0, 0))) := HA5.out.1.other (heap_alloc X0_4.out _) (by omega) (NoT.of (heap_alloc X0_4.out _) (by decide))
    clear HA5 hw5 q5 z5 G4 S4 c04 c14 R4 O4 E4 hBl4 h34 X0_4
    clear f00
    have f00 := (cell_of X0_5.out 0).trans e0
    have f01 := (cell_of X0_5.out 1).trans e1
    go_wp2_with fail
    refine (dwIndex_any S5.out ty hy0 hy1 (by omega)).mono ?_
    rintro en w6 ⟨rfl, t6, s6⟩
    have S6 : Hid (DW (w.heap.size + 1) (w.heap.size + 1 + 1) w6 (thenW (thenW (thenW (thenW R1 R2) (needW bk 4)) (.ok [0])) (uidxW ty)) (131094 + 1 + 11)) := s6
    have G6 : Hid (Grew w w6) := t6.grew0 G5.out (by omega) (by omega)
    have X0_6 : Hid (w6.heap[xb]? = some (.cells ea 32 (0, 0))) := t6.other X0_5.out (by omega) (NoT.of X0_5.out (by decide))
    clear t6 s6 G5 S5 X0_5
    clear f00 f01
    go_wp2_with fail
    have CD := done_any S6.out G6.out (by omega)
    rw [EE.out] at CD
    clear S6 G6 X0_6
    refine CD.mono ?_
    intro en w7 ha
    clear CD
    generalize RR0 = RR at *
    cases RR with
    | error e =>
      obtain ⟨rfl, g1⟩ := ha
      have G1 : Hid (Grew w w7) := g1
      clear g1
      go_wp2_with fail
      go_ret2
      exact ⟨rfl, G1.out⟩
    | ok m =>
      obtain ⟨rv, rfl, r1, g1⟩ := ha
      have G1 : Hid (Grew w w7) := g1
      have R1 : Hid (w7.ownsRow w.heap.size 5 1 rv m.length (U8 m)) := r1
      obtain ⟨ra, rc, rfl⟩ := row_one r1
      clear g1 r1
      go_wp2_with fail
      go_ret2
      exact ⟨_, rfl, R1.out, G1.out⟩
set_option maxRecDepth 100000 in
set_option maxHeartbeats 2000000 in
theorem dimp_1 (w : World) (m n : List Int) (hB1 : Byt m) (hs1 : m.length ≤ 140737488351232) (hB2 : Byt n) (hs2 : n.length ≤ 140737488351232) (k ty tn th tp tq mp mq gn gh : Int) (tz tw tm mw mm gz gm : Bool) (hy0 : -9223372036854775808 ≤ ty) (hy1 : ty ≤ 9223372036854775807) (hth0 : -9223372036854775808 ≤ th) (hth1 : th ≤ 9223372036854775807) (hgh0 : -9223372036854775808 ≤ gh) (hgh1 : gh ≤ 9223372036854775807) (htp0 : 0 ≤ tp) (htp1 : tp ≤ 18446744073709551615) (htq0 : 0 ≤ tq) (htq1 : tq ≤ 18446744073709551615) (hmp0 : 0 ≤ mp) (hmp1 : mp ≤ 18446744073709551615) (hmq0 : 0 ≤ mq) (hmq1 : mq ≤ 18446744073709551615) :
    Calls Tryd.prog 5 #[.agg (.string (strOfNums m) :: .string (strOfNums n) :: [.int .i64 1, .int .i64 ty, .int .i64 tn, .bool tz, .int .i64 th, .bool tw, .int .u64 tp, .int .u64 tq, .bool tm, .bool mw, .int .u64 mp, .int .u64 mq, .bool mm, .int .i64 gn, .bool gz, .int .i64 gh, .bool gm]).toArray] w (PAns w (impW m n (extP 1 ((ty == 0) && ((zM mw mp mq mm) && (zG gn gz gh gm))) (tabW ⟨tn, tz, th⟩ tw tp tq tm)))) := by
  have CB : Hid (∀ W : World, Calls Tryd.prog 18 #[.agg #[.int .i64 1, .int .i64 ty, .int .i64 tn, .bool tz, .int .i64 th, .bool tw, .int .u64 tp, .int .u64 tq, .bool tm, .bool mw, .int .u64 mp, .int .u64 mq, .bool mm, .int .i64 gn, .bool gz, .int .i64 gh, .bool gm], .int .i64 1] W fun en w' => en = .returned (.bool ((ty == 0) && ((zM mw mp mq mm) && (zG gn gz gh gm)))) ∧ Grew W w') := fun W => blank1_any k ty tn th tp tq mp mq gn gh tz tw tm mw mm gz gm W
  obtain ⟨ea, hea⟩ : ∃ ea : Array Value, ea = #[.int .i64 1, .int .i64 ty, .int .i64 tn, .bool tz, .int .i64 th, .bool tw, .int .u64 tp, .int .u64 tq, .bool tm, .bool mw, .int .u64 mp, .int .u64 mq, .bool mm, .int .i64 gn, .bool gz, .int .i64 gh, .bool gm] := ⟨_, rfl⟩
  obtain ⟨is, his⟩ : ∃ is : Array Value, is = (.string (strOfNums m) :: .string (strOfNums n) :: [.int .i64 1, .int .i64 ty, .int .i64 tn, .bool tz, .int .i64 th, .bool tw, .int .u64 tp, .int .u64 tq, .bool tm, .bool mw, .int .u64 mp, .int .u64 mq, .bool mm, .int .i64 gn, .bool gz, .int .i64 gh, .bool gm]).toArray := ⟨_, rfl⟩
  rw [← his]
  rw [← hea] at CB
  have hsz17 : ea.size = 17 := by rw [hea]; rfl
  have hsz : (Tryd.prog.info? 32).map (·.size) = some ea.size := by rw [hea]; kernel_rfl
  have hone : ea.all (·.oneCell') = true := by rw [hea]; simp [Value.oneCell']
  have i0 : is[0]? = some (.string (strOfNums m)) := by rw [his]; rfl
  have i1 : is[1]? = some (.string (strOfNums n)) := by rw [his]; rfl
  have LSEG : Hid (∀ W : World, W.heap[w.heap.size]? = some (.cells is 34 (0, 0)) → (loadVar 32 ⟨w.heap.size, 2, none⟩).run Tryd.prog W = .ok (.agg ea) W) := fun W hW => by
    rw [hea]
    exact run_loadVar_seg W w.heap.size 2 32 [.int .i64 1, .int .i64 ty, .int .i64 tn, .bool tz, .int .i64 th, .bool tw, .int .u64 tp, .int .u64 tq, .bool tm, .bool mw, .int .u64 mp, .int .u64 mq, .bool mm, .int .i64 gn, .bool gz, .int .i64 gh, .bool gm] _ (seg_of hW (fun j v hj => by rw [his, show 2 + j = j + 1 + 1 by omega]; simpa using hj)) Tryd.underlying32 rfl (by kernel_rfl)
  have LROW : Hid (∀ (W : World) (g : Nat), W.heap[g]? = some (.cells ea 32 (0, 0)) → (loadVar 32 ⟨g, 0, none⟩).run Tryd.prog W = .ok (.agg ea) W) := fun W g hW => run_loadVar_row W g 32 32 ea (0, 0) _ hW Tryd.underlying32 rfl hsz
  have e0 : ea[0]? = some (.int .i64 1) := by rw [hea]; rfl
  have e2 : ea[2]? = some (.int .i64 tn) := by rw [hea]; rfl
  have e3 : ea[3]? = some (.bool tz) := by rw [hea]; rfl
  have e4 : ea[4]? = some (.int .i64 th) := by rw [hea]; rfl
  have e5 : ea[5]? = some (.bool tw) := by rw [hea]; rfl
  have e6 : ea[6]? = some (.int .u64 tp) := by rw [hea]; rfl
  have e7 : ea[7]? = some (.int .u64 tq) := by rw [hea]; rfl
  have e8 : ea[8]? = some (.bool tm) := by rw [hea]; rfl
  have C1 : Hid (∀ W : World, DW (w.heap.size + 1) (w.heap.size + 1 + 1) W (.ok []) 0 → Calls Tryd.prog 16 #[.pointer (some ⟨w.heap.size + 1, 0, none⟩), .string (strOfNums m)] W (DA (w.heap.size + 1) (w.heap.size + 1 + 1) W (nameW m) 65547)) := fun W u => by
    have := dwName_any u m hB1 hs1 (by omega)
    rwa [thenW_l, Nat.zero_add] at this
  have C2 : Hid (∀ W : World, DW (w.heap.size + 1) (w.heap.size + 1 + 1) W (nameW m) 65547 → Calls Tryd.prog 16 #[.pointer (some ⟨w.heap.size + 1, 0, none⟩), .string (strOfNums n)] W (DA (w.heap.size + 1) (w.heap.size + 1 + 1) W (thenW (nameW m) (nameW n)) 131094)) := fun W u => dwName_any u n hB2 hs2 (by omega)
  generalize strOfNums m = s1 at *
  generalize strOfNums n = s2 at *
  unfold impW
  generalize nameW m = R1 at *
  generalize nameW n = R2 at *
  generalize ((ty == 0) && ((zM mw mp mq mm) && (zG gn gz gh gm))) = bk at *
  have MU : Hid (∀ W : World, DW (w.heap.size + 1) (w.heap.size + 1 + 1) W (thenW R1 R2) 131094 → Calls Tryd.prog 17 #[.pointer (some ⟨w.heap.size + 1, 0, none⟩), .bool bk, .int .i64 4] W (DA (w.heap.size + 1) (w.heap.size + 1 + 1) W (thenW (thenW R1 R2) (needW bk 4)) 131094)) := fun W u => must_any u bk 4 (by decide)
  obtain ⟨RR0, hRR⟩ : ∃ RR0, RR0 = thenW R1 (thenW R2 (extP 1 bk (tabW ⟨tn, tz, th⟩ tw tp tq tm))) := ⟨_, rfl⟩
  rw [← hRR]
  have EE : Hid (thenW (thenW (thenW (thenW R1 R2) (needW bk 4)) (.ok [1])) (tabW ⟨tn, tz, th⟩ tw tp tq tm) = RR0) := by
    show _ = _
    rw [hRR]
    unfold extP
    cases R1 with
    | error e => rfl
    | ok r1 =>
      cases R2 with
      | error e => rfl
      | ok r2 =>
        cases bk with
        | false => rfl
        | true =>
          generalize tabW ⟨tn, tz, th⟩ tw tp tq tm = RP
          cases RP with
          | error e => simp [thenW, needW]
          | ok r3 => simp [thenW, needW]
  clear hea his hRR
  obtain ⟨w0, hw0⟩ : ∃ w0, ((w.alloc (.cells is 34)).alloc (.cells #[.slice none 0 0, .int .i64 0] 59)) = w0 := ⟨_, rfl⟩
  have S0 : Hid (DW (w.heap.size + 1) (w.heap.size + 1 + 1) w0 (.ok []) 0) := by
    have := dw_new (w.alloc (.cells is 34))
    rw [alloc_size, hw0] at this
    exact this
  have G0 : Hid (Grew w w0) := by rw [← hw0]; exact ((Grew.refl w).alloc _).alloc _
  have X0_0 : Hid (w0.heap[w.heap.size]? = some (.cells is 34 (0, 0))) := by rw [← hw0]; exact heap_alloc (heap_alloc_last _ _) _
  have f00 := (cell_of X0_0.out 0).trans i0
  go_enter Tryd.func5, Tryd.ntmps5
  go_wp2_with fail
  refine (C1.out _ S0.out).mono ?_
  rintro en w1 ⟨rfl, t1, s1⟩
  have S1 : Hid (DW (w.heap.size + 1) (w.heap.size + 1 + 1) w1 (R1) (65547)) := s1
  have G1 : Hid (Grew w w1) := t1.grew0 G0.out (by omega) (by omega)
  have X0_1 : Hid (w1.heap[w.heap.size]? = some (.cells is 34 (0, 0))) := t1.other X0_0.out (by omega) (NoT.of X0_0.out (by decide))
  clear t1 s1 G0 S0 X0_0
  clear f00 hw0
  have f01 := (cell_of X0_1.out 1).trans i1
  go_wp2_with fail
  refine (C2.out _ S1.out).mono ?_
  rintro en w2 ⟨rfl, t2, s2⟩
  have S2 : Hid (DW (w.heap.size + 1) (w.heap.size + 1 + 1) w2 (thenW R1 R2) (131094)) := s2
  have G2 : Hid (Grew w w2) := t2.grew0 G1.out (by omega) (by omega)
  have X0_2 : Hid (w2.heap[w.heap.size]? = some (.cells is 34 (0, 0))) := t2.other X0_1.out (by omega) (NoT.of X0_1.out (by decide))
  clear t2 s2 G1 S1 X0_1
  clear f01
  have L2 : (loadVar 32 ⟨w.heap.size, 2, none⟩).run Tryd.prog w2 = .ok (.agg ea) w2 := LSEG.out w2 X0_2.out
  have K2 := run_storeCells_new (P := Tryd.prog) w2 32 #[.int .i64 0, .int .i64 0, .int .i64 0, .bool false, .int .i64 0, .bool false, .int .u64 0, .int .u64 0, .bool false, .bool false, .int .u64 0, .int .u64 0, .bool false, .int .i64 0, .bool false, .int .i64 0, .bool false] ea hsz (by rw [hsz17]; rfl) hone
  have Y2 : Hid ((w2.alloc (.cells ea 32)).heap[w2.heap.size]? = some (.cells ea 32 (0, 0))) := heap_alloc_last _ _
  have hN2 : (w.heap.size + 1 + 1) ≤ w2.heap.size := S2.out.le
  have y0 := (cell_of Y2.out 0).trans e0
  go_wp2_with (first
    | (refine at_load 32 rfl ?_; refine wpList_load_run (by first | rfl | simp [Region.wanted, yielded]) 32 _ rfl w.heap.size 2 rfl (.agg ea) L2 ?_)
    | (refine at_load 32 rfl ?_; refine wpList_load_run (by first | rfl | simp [Region.wanted, yielded]) 32 _ rfl w2.heap.size 0 rfl (.agg ea) (LROW.out _ _ Y2.out) ?_)
    | fail)
  refine (CB.out _).mono ?_
  rintro en w3 ⟨rfl, g3⟩
  have S3 : Hid (DW (w.heap.size + 1) (w.heap.size + 1 + 1) w3 (thenW R1 R2) 131094) := (S2.out.grew ((Grew.refl _).alloc _)).grew g3
  have G3 : Hid (Grew w w3) := (G2.out.alloc _).trans g3
  have X0_3 : Hid (w3.heap[w2.heap.size]? = some (.cells ea 32 (0, 0))) := (g3.turn []).other Y2.out (by simp)
  clear g3 S2 G2 X0_2 Y2 L2 K2 y0
  generalize w2.heap.size = xb at *
  have f00 := (cell_of X0_3.out 0).trans e0
  go_wp2_with fail
  refine (MU.out _ S3.out).mono ?_
  rintro en w4 ⟨rfl, t4, s4⟩
  have S4 : Hid (DW (w.heap.size + 1) (w.heap.size + 1 + 1) w4 (thenW (thenW R1 R2) (needW bk 4)) (131094)) := s4
  have G4 : Hid (Grew w w4) := t4.grew0 G3.out (by omega) (by omega)
  have X0_4 : Hid (w4.heap[xb]? = some (.cells ea 32 (0, 0))) := t4.other X0_3.out (by omega) (NoT.of X0_3.out (by decide))
  clear t4 s4 G3 S3 X0_3
  clear f00
  have f00 := (cell_of X0_4.out 0).trans e0
  have hwk : IntKind.u8.wrap 1 = 1 := by decide
  obtain ⟨o4, er4, l4, h14, h24, h34, h44⟩ := S4.out.ex
  obtain ⟨oa4, oc4, rfl⟩ := row_one h24
  have c04 := cell_of h14 0
  simp at c04
  have R4 : Hid (w4.ownsRow (w.heap.size + 1 + 1) 5 1 (.slice oa4 l4.length oc4) l4.length (U8 l4)) := h24
  have O4 : Hid (w4.heap[(w.heap.size + 1)]? = some (dob (.slice oa4 l4.length oc4) er4)) := h14
  have E4 : Hid (StE (thenW (thenW R1 R2) (needW bk 4)) l4 er4) := h44
  have hBl4 : (w.heap.size + 1 + 1) ≤ w4.heap.size := S4.out.le
  have c14 := cell_of (heap_alloc O4.out (.cells #[.int .u8 1] 5)) 0
  simp at c14
  clear h14 h24 h44
  go_wp2_with fail
  go_region_law (first
    | (refine step_appG (w0 := w4) (B := (w.heap.size + 1 + 1)) (v := .slice oa4 l4.length oc4) (u := .slice (some ⟨w4.heap.size, 0, none⟩) 1 1) (l := l4) (r := [1]) rfl (.tmp 38) (.tmp 42) rfl rfl rfl (by first | exact ((Grew.refl _).alloc _) | exact ((Grew.refl _).alloc _).drew) R4.out hBl4 (by first | exact reads_new _ _ _ | exact (reads_new _ _ _).below (Grew.refl _).drew.1) (by simp) (by simp; omega) ?_
       intro v5 x5 ho5 hg5
       obtain ⟨a5, cc5, hv5⟩ := row_one ho5
       rw [List.length_append] at hv5
       subst hv5
       have A5 := dw_app (b := (w.heap.size + 1)) (B := (w.heap.size + 1 + 1)) (w := w4.alloc (.cells #[.int .u8 1] 5)) (st := thenW (thenW R1 R2) (needW bk 4)) (N := 131094) (r := [1]) (heap_alloc O4.out _) (World.ownsRow.alloc R4.out _) h34 E4.out (by omega) (by simp; omega) ho5 ⟨hg5.os, hg5.tape, hg5.output, hg5.size, hg5.block⟩
       have q5 := cell_of A5.1 0
       have z5 := free_of A5.1 0
       simp at q5
       have HA5 : Hid (WT (w.heap.size + 1) (w.heap.size + 1 + 1) (w4.alloc (.cells #[.int .u8 1] 5)) (x5.setCell ⟨w.heap.size + 1, 0, none⟩ (.slice a5 (l4.length + [(1 : Int)].length) cc5)) ∧ DW (w.heap.size + 1) (w.heap.size + 1 + 1) (x5.setCell ⟨w.heap.size + 1, 0, none⟩ (.slice a5 (l4.length + [(1 : Int)].length) cc5)) (thenW (thenW (thenW R1 R2) (needW bk 4)) (.ok [1])) (131094 + [(1 : Int)].length)) := A5.2
       clear A5 hg5 ho5))
  all_goals

    generalize hw5 : x5.setCell ⟨w.heap.size + 1, 0, none⟩ (.slice a5 (l4.length + [(1 : Int)].length) cc5) = w5 at *
    have S5 : Hid (DW (w.heap.size + 1) (w.heap.size + 1 + 1) w5 (thenW (thenW (thenW R1 R2) (needW bk 4)) (.ok [1])) (131094 + 1)) := HA5.out.2
    have G5 : Hid (Grew w w5) := HA5.out.1.grew0 (G4.out.alloc _) (by omega) (by omega)
    have X0_5 : Hid (w5.heap[xb]? = some (.cells ea 32 (0, 0))) := HA5.out.1.other (heap_alloc X0_4.out _) (by omega) (NoT.of (heap_alloc X0_4.out _) (by decide))
    clear HA5 hw5 q5 z5 G4 S4 c04 c14 R4 O4 E4 hBl4 h34 X0_4
    clear f00
    have f00 := (cell_of X0_5.out 0).trans e0
    have f02 := (cell_of X0_5.out 2).trans e2
    have f03 := (cell_of X0_5.out 3).trans e3
    have f04 := (cell_of X0_5.out 4).trans e4
    have f05 := (cell_of X0_5.out 5).trans e5
    have f06 := (cell_of X0_5.out 6).trans e6
    have f07 := (cell_of X0_5.out 7).trans e7
    have f08 := (cell_of X0_5.out 8).trans e8
    go_wp2_with fail
    refine (dwTable_any S5.out tn th tz tw tm tp tq hth0 hth1 htp0 htp1 htq0 htq1 (by omega)).mono ?_
    rintro en w6 ⟨rfl, t6, s6⟩
    have S6 : Hid (DW (w.heap.size + 1) (w.heap.size + 1 + 1) w6 (thenW (thenW (thenW (thenW R1 R2) (needW bk 4)) (.ok [1])) (tabW ⟨tn, tz, th⟩ tw tp tq tm)) (131094 + 1 + 40)) := s6
    have G6 : Hid (Grew w w6) := t6.grew0 G5.out (by omega) (by omega)
    have X0_6 : Hid (w6.heap[xb]? = some (.cells ea 32 (0, 0))) := t6.other X0_5.out (by omega) (NoT.of X0_5.out (by decide))
    clear t6 s6 G5 S5 X0_5
    clear f00 f02 f03 f04 f05 f06 f07 f08
    go_wp2_with fail
    have CD := done_any S6.out G6.out (by omega)
    rw [EE.out] at CD
    clear S6 G6 X0_6
    refine CD.mono ?_
    intro en w7 ha
    clear CD
    generalize RR0 = RR at *
    cases RR with
    | error e =>
      obtain ⟨rfl, g1⟩ := ha
      have G1 : Hid (Grew w w7) := g1
      clear g1
      go_wp2_with fail
      go_ret2
      exact ⟨rfl, G1.out⟩
    | ok m =>
      obtain ⟨rv, rfl, r1, g1⟩ := ha
      have G1 : Hid (Grew w w7) := g1
      have R1 : Hid (w7.ownsRow w.heap.size 5 1 rv m.length (U8 m)) := r1
      obtain ⟨ra, rc, rfl⟩ := row_one r1
      clear g1 r1
      go_wp2_with fail
      go_ret2
      exact ⟨_, rfl, R1.out, G1.out⟩
set_option maxRecDepth 100000 in
set_option maxHeartbeats 2000000 in
theorem dimp_2 (w : World) (m n : List Int) (hB1 : Byt m) (hs1 : m.length ≤ 140737488351232) (hB2 : Byt n) (hs2 : n.length ≤ 140737488351232) (k ty tn th tp tq mp mq gn gh : Int) (tz tw tm mw mm gz gm : Bool) (hy0 : -9223372036854775808 ≤ ty) (hy1 : ty ≤ 9223372036854775807) (hth0 : -9223372036854775808 ≤ th) (hth1 : th ≤ 9223372036854775807) (hgh0 : -9223372036854775808 ≤ gh) (hgh1 : gh ≤ 9223372036854775807) (htp0 : 0 ≤ tp) (htp1 : tp ≤ 18446744073709551615) (htq0 : 0 ≤ tq) (htq1 : tq ≤ 18446744073709551615) (hmp0 : 0 ≤ mp) (hmp1 : mp ≤ 18446744073709551615) (hmq0 : 0 ≤ mq) (hmq1 : mq ≤ 18446744073709551615) :
    Calls Tryd.prog 5 #[.agg (.string (strOfNums m) :: .string (strOfNums n) :: [.int .i64 2, .int .i64 ty, .int .i64 tn, .bool tz, .int .i64 th, .bool tw, .int .u64 tp, .int .u64 tq, .bool tm, .bool mw, .int .u64 mp, .int .u64 mq, .bool mm, .int .i64 gn, .bool gz, .int .i64 gh, .bool gm]).toArray] w (PAns w (impW m n (extP 2 ((ty == 0) && ((zT tn tz th tw tp tq tm) && (zG gn gz gh gm))) (limW mw mp mq mm)))) := by
  have CB : Hid (∀ W : World, Calls Tryd.prog 18 #[.agg #[.int .i64 2, .int .i64 ty, .int .i64 tn, .bool tz, .int .i64 th, .bool tw, .int .u64 tp, .int .u64 tq, .bool tm, .bool mw, .int .u64 mp, .int .u64 mq, .bool mm, .int .i64 gn, .bool gz, .int .i64 gh, .bool gm], .int .i64 2] W fun en w' => en = .returned (.bool ((ty == 0) && ((zT tn tz th tw tp tq tm) && (zG gn gz gh gm)))) ∧ Grew W w') := fun W => blank2_any k ty tn th tp tq mp mq gn gh tz tw tm mw mm gz gm W
  obtain ⟨ea, hea⟩ : ∃ ea : Array Value, ea = #[.int .i64 2, .int .i64 ty, .int .i64 tn, .bool tz, .int .i64 th, .bool tw, .int .u64 tp, .int .u64 tq, .bool tm, .bool mw, .int .u64 mp, .int .u64 mq, .bool mm, .int .i64 gn, .bool gz, .int .i64 gh, .bool gm] := ⟨_, rfl⟩
  obtain ⟨is, his⟩ : ∃ is : Array Value, is = (.string (strOfNums m) :: .string (strOfNums n) :: [.int .i64 2, .int .i64 ty, .int .i64 tn, .bool tz, .int .i64 th, .bool tw, .int .u64 tp, .int .u64 tq, .bool tm, .bool mw, .int .u64 mp, .int .u64 mq, .bool mm, .int .i64 gn, .bool gz, .int .i64 gh, .bool gm]).toArray := ⟨_, rfl⟩
  rw [← his]
  rw [← hea] at CB
  have hsz17 : ea.size = 17 := by rw [hea]; rfl
  have hsz : (Tryd.prog.info? 32).map (·.size) = some ea.size := by rw [hea]; kernel_rfl
  have hone : ea.all (·.oneCell') = true := by rw [hea]; simp [Value.oneCell']
  have i0 : is[0]? = some (.string (strOfNums m)) := by rw [his]; rfl
  have i1 : is[1]? = some (.string (strOfNums n)) := by rw [his]; rfl
  have LSEG : Hid (∀ W : World, W.heap[w.heap.size]? = some (.cells is 34 (0, 0)) → (loadVar 32 ⟨w.heap.size, 2, none⟩).run Tryd.prog W = .ok (.agg ea) W) := fun W hW => by
    rw [hea]
    exact run_loadVar_seg W w.heap.size 2 32 [.int .i64 2, .int .i64 ty, .int .i64 tn, .bool tz, .int .i64 th, .bool tw, .int .u64 tp, .int .u64 tq, .bool tm, .bool mw, .int .u64 mp, .int .u64 mq, .bool mm, .int .i64 gn, .bool gz, .int .i64 gh, .bool gm] _ (seg_of hW (fun j v hj => by rw [his, show 2 + j = j + 1 + 1 by omega]; simpa using hj)) Tryd.underlying32 rfl (by kernel_rfl)
  have LROW : Hid (∀ (W : World) (g : Nat), W.heap[g]? = some (.cells ea 32 (0, 0)) → (loadVar 32 ⟨g, 0, none⟩).run Tryd.prog W = .ok (.agg ea) W) := fun W g hW => run_loadVar_row W g 32 32 ea (0, 0) _ hW Tryd.underlying32 rfl hsz
  have e0 : ea[0]? = some (.int .i64 2) := by rw [hea]; rfl
  have e9 : ea[9]? = some (.bool mw) := by rw [hea]; rfl
  have e10 : ea[10]? = some (.int .u64 mp) := by rw [hea]; rfl
  have e11 : ea[11]? = some (.int .u64 mq) := by rw [hea]; rfl
  have e12 : ea[12]? = some (.bool mm) := by rw [hea]; rfl
  have C1 : Hid (∀ W : World, DW (w.heap.size + 1) (w.heap.size + 1 + 1) W (.ok []) 0 → Calls Tryd.prog 16 #[.pointer (some ⟨w.heap.size + 1, 0, none⟩), .string (strOfNums m)] W (DA (w.heap.size + 1) (w.heap.size + 1 + 1) W (nameW m) 65547)) := fun W u => by
    have := dwName_any u m hB1 hs1 (by omega)
    rwa [thenW_l, Nat.zero_add] at this
  have C2 : Hid (∀ W : World, DW (w.heap.size + 1) (w.heap.size + 1 + 1) W (nameW m) 65547 → Calls Tryd.prog 16 #[.pointer (some ⟨w.heap.size + 1, 0, none⟩), .string (strOfNums n)] W (DA (w.heap.size + 1) (w.heap.size + 1 + 1) W (thenW (nameW m) (nameW n)) 131094)) := fun W u => dwName_any u n hB2 hs2 (by omega)
  generalize strOfNums m = s1 at *
  generalize strOfNums n = s2 at *
  unfold impW
  generalize nameW m = R1 at *
  generalize nameW n = R2 at *
  generalize ((ty == 0) && ((zT tn tz th tw tp tq tm) && (zG gn gz gh gm))) = bk at *
  have MU : Hid (∀ W : World, DW (w.heap.size + 1) (w.heap.size + 1 + 1) W (thenW R1 R2) 131094 → Calls Tryd.prog 17 #[.pointer (some ⟨w.heap.size + 1, 0, none⟩), .bool bk, .int .i64 4] W (DA (w.heap.size + 1) (w.heap.size + 1 + 1) W (thenW (thenW R1 R2) (needW bk 4)) 131094)) := fun W u => must_any u bk 4 (by decide)
  obtain ⟨RR0, hRR⟩ : ∃ RR0, RR0 = thenW R1 (thenW R2 (extP 2 bk (limW mw mp mq mm))) := ⟨_, rfl⟩
  rw [← hRR]
  have EE : Hid (thenW (thenW (thenW (thenW R1 R2) (needW bk 4)) (.ok [2])) (limW mw mp mq mm) = RR0) := by
    show _ = _
    rw [hRR]
    unfold extP
    cases R1 with
    | error e => rfl
    | ok r1 =>
      cases R2 with
      | error e => rfl
      | ok r2 =>
        cases bk with
        | false => rfl
        | true =>
          generalize limW mw mp mq mm = RP
          cases RP with
          | error e => simp [thenW, needW]
          | ok r3 => simp [thenW, needW]
  clear hea his hRR
  obtain ⟨w0, hw0⟩ : ∃ w0, ((w.alloc (.cells is 34)).alloc (.cells #[.slice none 0 0, .int .i64 0] 59)) = w0 := ⟨_, rfl⟩
  have S0 : Hid (DW (w.heap.size + 1) (w.heap.size + 1 + 1) w0 (.ok []) 0) := by
    have := dw_new (w.alloc (.cells is 34))
    rw [alloc_size, hw0] at this
    exact this
  have G0 : Hid (Grew w w0) := by rw [← hw0]; exact ((Grew.refl w).alloc _).alloc _
  have X0_0 : Hid (w0.heap[w.heap.size]? = some (.cells is 34 (0, 0))) := by rw [← hw0]; exact heap_alloc (heap_alloc_last _ _) _
  have f00 := (cell_of X0_0.out 0).trans i0
  go_enter Tryd.func5, Tryd.ntmps5
  go_wp2_with fail
  refine (C1.out _ S0.out).mono ?_
  rintro en w1 ⟨rfl, t1, s1⟩
  have S1 : Hid (DW (w.heap.size + 1) (w.heap.size + 1 + 1) w1 (R1) (65547)) := s1
  have G1 : Hid (Grew w w1) := t1.grew0 G0.out (by omega) (by omega)
  have X0_1 : Hid (w1.heap[w.heap.size]? = some (.cells is 34 (0, 0))) := t1.other X0_0.out (by omega) (NoT.of X0_0.out (by decide))
  clear t1 s1 G0 S0 X0_0
  clear f00 hw0
  have f01 := (cell_of X0_1.out 1).trans i1
  go_wp2_with fail
  refine (C2.out _ S1.out).mono ?_
  rintro en w2 ⟨rfl, t2, s2⟩
  have S2 : Hid (DW (w.heap.size + 1) (w.heap.size + 1 + 1) w2 (thenW R1 R2) (131094)) := s2
  have G2 : Hid (Grew w w2) := t2.grew0 G1.out (by omega) (by omega)
  have X0_2 : Hid (w2.heap[w.heap.size]? = some (.cells is 34 (0, 0))) := t2.other X0_1.out (by omega) (NoT.of X0_1.out (by decide))
  clear t2 s2 G1 S1 X0_1
  clear f01
  have L2 : (loadVar 32 ⟨w.heap.size, 2, none⟩).run Tryd.prog w2 = .ok (.agg ea) w2 := LSEG.out w2 X0_2.out
  have K2 := run_storeCells_new (P := Tryd.prog) w2 32 #[.int .i64 0, .int .i64 0, .int .i64 0, .bool false, .int .i64 0, .bool false, .int .u64 0, .int .u64 0, .bool false, .bool false, .int .u64 0, .int .u64 0, .bool false, .int .i64 0, .bool false, .int .i64 0, .bool false] ea hsz (by rw [hsz17]; rfl) hone
  have Y2 : Hid ((w2.alloc (.cells ea 32)).heap[w2.heap.size]? = some (.cells ea 32 (0, 0))) := heap_alloc_last _ _
  have hN2 : (w.heap.size + 1 + 1) ≤ w2.heap.size := S2.out.le
  have y0 := (cell_of Y2.out 0).trans e0
  go_wp2_with (first
    | (refine at_load 32 rfl ?_; refine wpList_load_run (by first | rfl | simp [Region.wanted, yielded]) 32 _ rfl w.heap.size 2 rfl (.agg ea) L2 ?_)
    | (refine at_load 32 rfl ?_; refine wpList_load_run (by first | rfl | simp [Region.wanted, yielded]) 32 _ rfl w2.heap.size 0 rfl (.agg ea) (LROW.out _ _ Y2.out) ?_)
    | fail)
  refine (CB.out _).mono ?_
  rintro en w3 ⟨rfl, g3⟩
  have S3 : Hid (DW (w.heap.size + 1) (w.heap.size + 1 + 1) w3 (thenW R1 R2) 131094) := (S2.out.grew ((Grew.refl _).alloc _)).grew g3
  have G3 : Hid (Grew w w3) := (G2.out.alloc _).trans g3
  have X0_3 : Hid (w3.heap[w2.heap.size]? = some (.cells ea 32 (0, 0))) := (g3.turn []).other Y2.out (by simp)
  clear g3 S2 G2 X0_2 Y2 L2 K2 y0
  generalize w2.heap.size = xb at *
  have f00 := (cell_of X0_3.out 0).trans e0
  go_wp2_with fail
  refine (MU.out _ S3.out).mono ?_
  rintro en w4 ⟨rfl, t4, s4⟩
  have S4 : Hid (DW (w.heap.size + 1) (w.heap.size + 1 + 1) w4 (thenW (thenW R1 R2) (needW bk 4)) (131094)) := s4
  have G4 : Hid (Grew w w4) := t4.grew0 G3.out (by omega) (by omega)
  have X0_4 : Hid (w4.heap[xb]? = some (.cells ea 32 (0, 0))) := t4.other X0_3.out (by omega) (NoT.of X0_3.out (by decide))
  clear t4 s4 G3 S3 X0_3
  clear f00
  have f00 := (cell_of X0_4.out 0).trans e0
  have hwk : IntKind.u8.wrap 2 = 2 := by decide
  obtain ⟨o4, er4, l4, h14, h24, h34, h44⟩ := S4.out.ex
  obtain ⟨oa4, oc4, rfl⟩ := row_one h24
  have c04 := cell_of h14 0
  simp at c04
  have R4 : Hid (w4.ownsRow (w.heap.size + 1 + 1) 5 1 (.slice oa4 l4.length oc4) l4.length (U8 l4)) := h24
  have O4 : Hid (w4.heap[(w.heap.size + 1)]? = some (dob (.slice oa4 l4.length oc4) er4)) := h14
  have E4 : Hid (StE (thenW (thenW R1 R2) (needW bk 4)) l4 er4) := h44
  have hBl4 : (w.heap.size + 1 + 1) ≤ w4.heap.size := S4.out.le
  have c14 := cell_of (heap_alloc O4.out (.cells #[.int .u8 2] 5)) 0
  simp at c14
  clear h14 h24 h44
  go_wp2_with fail
  go_region_law (first
    | (refine step_appG (w0 := w4) (B := (w.heap.size + 1 + 1)) (v := .slice oa4 l4.length oc4) (u := .slice (some ⟨w4.heap.size, 0, none⟩) 1 1) (l := l4) (r := [2]) rfl (.tmp 38) (.tmp 42) rfl rfl rfl (by first | exact ((Grew.refl _).alloc _) | exact ((Grew.refl _).alloc _).drew) R4.out hBl4 (by first | exact reads_new _ _ _ | exact (reads_new _ _ _).below (Grew.refl _).drew.1) (by simp) (by simp; omega) ?_
       intro v5 x5 ho5 hg5
       obtain ⟨a5, cc5, hv5⟩ := row_one ho5
       rw [List.length_append] at hv5
       subst hv5
       have A5 := dw_app (b := (w.heap.size + 1)) (B := (w.heap.size + 1 + 1)) (w := w4.alloc (.cells #[.int .u8 2] 5)) (st := thenW (thenW R1 R2) (needW bk 4)) (N := 131094) (r := [2]) (heap_alloc O4.out _) (World.ownsRow.alloc R4.out _) h34 E4.out (by omega) (by simp; omega) ho5 ⟨hg5.os, hg5.tape, hg5.output, hg5.size, hg5.block⟩
       have q5 := cell_of A5.1 0
       have z5 := free_of A5.1 0
       simp at q5
       have HA5 : Hid (WT (w.heap.size + 1) (w.heap.size + 1 + 1) (w4.alloc (.cells #[.int .u8 2] 5)) (x5.setCell ⟨w.heap.size + 1, 0, none⟩ (.slice a5 (l4.length + [(2 : Int)].length) cc5)) ∧ DW (w.heap.size + 1) (w.heap.size + 1 + 1) (x5.setCell ⟨w.heap.size + 1, 0, none⟩ (.slice a5 (l4.length + [(2 : Int)].length) cc5)) (thenW (thenW (thenW R1 R2) (needW bk 4)) (.ok [2])) (131094 + [(2 : Int)].length)) := A5.2
       clear A5 hg5 ho5))
  all_goals

    generalize hw5 : x5.setCell ⟨w.heap.size + 1, 0, none⟩ (.slice a5 (l4.length + [(2 : Int)].length) cc5) = w5 at *
    have S5 : Hid (DW (w.heap.size + 1) (w.heap.size + 1 + 1) w5 (thenW (thenW (thenW R1 R2) (needW bk 4)) (.ok [2])) (131094 + 1)) := HA5.out.2
    have G5 : Hid (Grew w w5) := HA5.out.1.grew0 (G4.out.alloc _) (by omega) (by omega)
    have X0_5 : Hid (w5.heap[xb]? = some (.cells ea 32 (0, 0))) := HA5.out.1.other (heap_alloc X0_4.out _) (by omega) (NoT.of (heap_alloc X0_4.out _) (by decide))
    clear HA5 hw5 q5 z5 G4 S4 c04 c14 R4 O4 E4 hBl4 h34 X0_4
    clear f00
    have f00 := (cell_of X0_5.out 0).trans e0
    have f09 := (cell_of X0_5.out 9).trans e9
    have f010 := (cell_of X0_5.out 10).trans e10
    have f011 := (cell_of X0_5.out 11).trans e11
    have f012 := (cell_of X0_5.out 12).trans e12
    go_wp2_with fail
    refine (dwLimits_any S5.out mw mm mp mq hmp0 hmp1 hmq0 hmq1 (by omega)).mono ?_
    rintro en w6 ⟨rfl, t6, s6⟩
    have S6 : Hid (DW (w.heap.size + 1) (w.heap.size + 1 + 1) w6 (thenW (thenW (thenW (thenW R1 R2) (needW bk 4)) (.ok [2])) (limW mw mp mq mm)) (131094 + 1 + 23)) := s6
    have G6 : Hid (Grew w w6) := t6.grew0 G5.out (by omega) (by omega)
    have X0_6 : Hid (w6.heap[xb]? = some (.cells ea 32 (0, 0))) := t6.other X0_5.out (by omega) (NoT.of X0_5.out (by decide))
    clear t6 s6 G5 S5 X0_5
    clear f00 f09 f010 f011 f012
    go_wp2_with fail
    have CD := done_any S6.out G6.out (by omega)
    rw [EE.out] at CD
    clear S6 G6 X0_6
    refine CD.mono ?_
    intro en w7 ha
    clear CD
    generalize RR0 = RR at *
    cases RR with
    | error e =>
      obtain ⟨rfl, g1⟩ := ha
      have G1 : Hid (Grew w w7) := g1
      clear g1
      go_wp2_with fail
      go_ret2
      exact ⟨rfl, G1.out⟩
    | ok m =>
      obtain ⟨rv, rfl, r1, g1⟩ := ha
      have G1 : Hid (Grew w w7) := g1
      have R1 : Hid (w7.ownsRow w.heap.size 5 1 rv m.length (U8 m)) := r1
      obtain ⟨ra, rc, rfl⟩ := row_one r1
      clear g1 r1
      go_wp2_with fail
      go_ret2
      exact ⟨_, rfl, R1.out, G1.out⟩
set_option maxRecDepth 100000 in
set_option maxHeartbeats 2000000 in
theorem dimp_3 (w : World) (m n : List Int) (hB1 : Byt m) (hs1 : m.length ≤ 140737488351232) (hB2 : Byt n) (hs2 : n.length ≤ 140737488351232) (k ty tn th tp tq mp mq gn gh : Int) (tz tw tm mw mm gz gm : Bool) (hy0 : -9223372036854775808 ≤ ty) (hy1 : ty ≤ 9223372036854775807) (hth0 : -9223372036854775808 ≤ th) (hth1 : th ≤ 9223372036854775807) (hgh0 : -9223372036854775808 ≤ gh) (hgh1 : gh ≤ 9223372036854775807) (htp0 : 0 ≤ tp) (htp1 : tp ≤ 18446744073709551615) (htq0 : 0 ≤ tq) (htq1 : tq ≤ 18446744073709551615) (hmp0 : 0 ≤ mp) (hmp1 : mp ≤ 18446744073709551615) (hmq0 : 0 ≤ mq) (hmq1 : mq ≤ 18446744073709551615) :
    Calls Tryd.prog 5 #[.agg (.string (strOfNums m) :: .string (strOfNums n) :: [.int .i64 3, .int .i64 ty, .int .i64 tn, .bool tz, .int .i64 th, .bool tw, .int .u64 tp, .int .u64 tq, .bool tm, .bool mw, .int .u64 mp, .int .u64 mq, .bool mm, .int .i64 gn, .bool gz, .int .i64 gh, .bool gm]).toArray] w (PAns w (impW m n (extP 3 ((ty == 0) && ((zT tn tz th tw tp tq tm) && (zM mw mp mq mm))) (gloW ⟨gn, gz, gh⟩ gm)))) := by
  have CB : Hid (∀ W : World, Calls Tryd.prog 18 #[.agg #[.int .i64 3, .int .i64 ty, .int .i64 tn, .bool tz, .int .i64 th, .bool tw, .int .u64 tp, .int .u64 tq, .bool tm, .bool mw, .int .u64 mp, .int .u64 mq, .bool mm, .int .i64 gn, .bool gz, .int .i64 gh, .bool gm], .int .i64 3] W fun en w' => en = .returned (.bool ((ty == 0) && ((zT tn tz th tw tp tq tm) && (zM mw mp mq mm)))) ∧ Grew W w') := fun W => blank3_any k ty tn th tp tq mp mq gn gh tz tw tm mw mm gz gm W
  obtain ⟨ea, hea⟩ : ∃ ea : Array Value, ea = #[.int .i64 3, .int .i64 ty, .int .i64 tn, .bool tz, .int .i64 th, .bool tw, .int .u64 tp, .int .u64 tq, .bool tm, .bool mw, .int .u64 mp, .int .u64 mq, .bool mm, .int .i64 gn, .bool gz, .int .i64 gh, .bool gm] := ⟨_, rfl⟩
  obtain ⟨is, his⟩ : ∃ is : Array Value, is = (.string (strOfNums m) :: .string (strOfNums n) :: [.int .i64 3, .int .i64 ty, .int .i64 tn, .bool tz, .int .i64 th, .bool tw, .int .u64 tp, .int .u64 tq, .bool tm, .bool mw, .int .u64 mp, .int .u64 mq, .bool mm, .int .i64 gn, .bool gz, .int .i64 gh, .bool gm]).toArray := ⟨_, rfl⟩
  rw [← his]
  rw [← hea] at CB
  have hsz17 : ea.size = 17 := by rw [hea]; rfl
  have hsz : (Tryd.prog.info? 32).map (·.size) = some ea.size := by rw [hea]; kernel_rfl
  have hone : ea.all (·.oneCell') = true := by rw [hea]; simp [Value.oneCell']
  have i0 : is[0]? = some (.string (strOfNums m)) := by rw [his]; rfl
  have i1 : is[1]? = some (.string (strOfNums n)) := by rw [his]; rfl
  have LSEG : Hid (∀ W : World, W.heap[w.heap.size]? = some (.cells is 34 (0, 0)) → (loadVar 32 ⟨w.heap.size, 2, none⟩).run Tryd.prog W = .ok (.agg ea) W) := fun W hW => by
    rw [hea]
    exact run_loadVar_seg W w.heap.size 2 32 [.int .i64 3, .int .i64 ty, .int .i64 tn, .bool tz, .int .i64 th, .bool tw, .int .u64 tp, .int .u64 tq, .bool tm, .bool mw, .int .u64 mp, .int .u64 mq, .bool mm, .int .i64 gn, .bool gz, .int .i64 gh, .bool gm] _ (seg_of hW (fun j v hj => by rw [his, show 2 + j = j + 1 + 1 by omega]; simpa using hj)) Tryd.underlying32 rfl (by kernel_rfl)
  have LROW : Hid (∀ (W : World) (g : Nat), W.heap[g]? = some (.cells ea 32 (0, 0)) → (loadVar 32 ⟨g, 0, none⟩).run Tryd.prog W = .ok (.agg ea) W) := fun W g hW => run_loadVar_row W g 32 32 ea (0, 0) _ hW Tryd.underlying32 rfl hsz
  have e0 : ea[0]? = some (.int .i64 3) := by rw [hea]; rfl
  have e13 : ea[13]? = some (.int .i64 gn) := by rw [hea]; rfl
  have e14 : ea[14]? = some (.bool gz) := by rw [hea]; rfl
  have e15 : ea[15]? = some (.int .i64 gh) := by rw [hea]; rfl
  have e16 : ea[16]? = some (.bool gm) := by rw [hea]; rfl
  have C1 : Hid (∀ W : World, DW (w.heap.size + 1) (w.heap.size + 1 + 1) W (.ok []) 0 → Calls Tryd.prog 16 #[.pointer (some ⟨w.heap.size + 1, 0, none⟩), .string (strOfNums m)] W (DA (w.heap.size + 1) (w.heap.size + 1 + 1) W (nameW m) 65547)) := fun W u => by
    have := dwName_any u m hB1 hs1 (by omega)
    rwa [thenW_l, Nat.zero_add] at this
  have C2 : Hid (∀ W : World, DW (w.heap.size + 1) (w.heap.size + 1 + 1) W (nameW m) 65547 → Calls Tryd.prog 16 #[.pointer (some ⟨w.heap.size + 1, 0, none⟩), .string (strOfNums n)] W (DA (w.heap.size + 1) (w.heap.size + 1 + 1) W (thenW (nameW m) (nameW n)) 131094)) := fun W u => dwName_any u n hB2 hs2 (by omega)
  generalize strOfNums m = s1 at *
  generalize strOfNums n = s2 at *
  unfold impW
  generalize nameW m = R1 at *
  generalize nameW n = R2 at *
  generalize ((ty == 0) && ((zT tn tz th tw tp tq tm) && (zM mw mp mq mm))) = bk at *
  have MU : Hid (∀ W : World, DW (w.heap.size + 1) (w.heap.size + 1 + 1) W (thenW R1 R2) 131094 → Calls Tryd.prog 17 #[.pointer (some ⟨w.heap.size + 1, 0, none⟩), .bool bk, .int .i64 4] W (DA (w.heap.size + 1) (w.heap.size + 1 + 1) W (thenW (thenW R1 R2) (needW bk 4)) 131094)) := fun W u => must_any u bk 4 (by decide)
  obtain ⟨RR0, hRR⟩ : ∃ RR0, RR0 = thenW R1 (thenW R2 (extP 3 bk (gloW ⟨gn, gz, gh⟩ gm))) := ⟨_, rfl⟩
  rw [← hRR]
  have EE : Hid (thenW (thenW (thenW (thenW R1 R2) (needW bk 4)) (.ok [3])) (gloW ⟨gn, gz, gh⟩ gm) = RR0) := by
    show _ = _
    rw [hRR]
    unfold extP
    cases R1 with
    | error e => rfl
    | ok r1 =>
      cases R2 with
      | error e => rfl
      | ok r2 =>
        cases bk with
        | false => rfl
        | true =>
          generalize gloW ⟨gn, gz, gh⟩ gm = RP
          cases RP with
          | error e => simp [thenW, needW]
          | ok r3 => simp [thenW, needW]
  clear hea his hRR
  obtain ⟨w0, hw0⟩ : ∃ w0, ((w.alloc (.cells is 34)).alloc (.cells #[.slice none 0 0, .int .i64 0] 59)) = w0 := ⟨_, rfl⟩
  have S0 : Hid (DW (w.heap.size + 1) (w.heap.size + 1 + 1) w0 (.ok []) 0) := by
    have := dw_new (w.alloc (.cells is 34))
    rw [alloc_size, hw0] at this
    exact this
  have G0 : Hid (Grew w w0) := by rw [← hw0]; exact ((Grew.refl w).alloc _).alloc _
  have X0_0 : Hid (w0.heap[w.heap.size]? = some (.cells is 34 (0, 0))) := by rw [← hw0]; exact heap_alloc (heap_alloc_last _ _) _
  have f00 := (cell_of X0_0.out 0).trans i0
  go_enter Tryd.func5, Tryd.ntmps5
  go_wp2_with fail
  refine (C1.out _ S0.out).mono ?_
  rintro en w1 ⟨rfl, t1, s1⟩
  have S1 : Hid (DW (w.heap.size + 1) (w.heap.size + 1 + 1) w1 (R1) (65547)) := s1
  have G1 : Hid (Grew w w1) := t1.grew0 G0.out (by omega) (by omega)
  have X0_1 : Hid (w1.heap[w.heap.size]? = some (.cells is 34 (0, 0))) := t1.other X0_0.out (by omega) (NoT.of X0_0.out (by decide))
  clear t1 s1 G0 S0 X0_0
  clear f00 hw0
  have f01 := (cell_of X0_1.out 1).trans i1
  go_wp2_with fail
  refine (C2.out _ S1.out).mono ?_
  rintro en w2 ⟨rfl, t2, s2⟩
  have S2 : Hid (DW (w.heap.size + 1) (w.heap.size + 1 + 1) w2 (thenW R1 R2) (131094)) := s2
  have G2 : Hid (Grew w w2) := t2.grew0 G1.out (by omega) (by omega)
  have X0_2 : Hid (w2.heap[w.heap.size]? = some (.cells is 34 (0, 0))) := t2.other X0_1.out (by omega) (NoT.of X0_1.out (by decide))
  clear t2 s2 G1 S1 X0_1
  clear f01
  have L2 : (loadVar 32 ⟨w.heap.size, 2, none⟩).run Tryd.prog w2 = .ok (.agg ea) w2 := LSEG.out w2 X0_2.out
  have K2 := run_storeCells_new (P := Tryd.prog) w2 32 #[.int .i64 0, .int .i64 0, .int .i64 0, .bool false, .int .i64 0, .bool false, .int .u64 0, .int .u64 0, .bool false, .bool false, .int .u64 0, .int .u64 0, .bool false, .int .i64 0, .bool false, .int .i64 0, .bool false] ea hsz (by rw [hsz17]; rfl) hone
  have Y2 : Hid ((w2.alloc (.cells ea 32)).heap[w2.heap.size]? = some (.cells ea 32 (0, 0))) := heap_alloc_last _ _
  have hN2 : (w.heap.size + 1 + 1) ≤ w2.heap.size := S2.out.le
  have y0 := (cell_of Y2.out 0).trans e0
  go_wp2_with (first
    | (refine at_load 32 rfl ?_; refine wpList_load_run (by first | rfl | simp [Region.wanted, yielded]) 32 _ rfl w.heap.size 2 rfl (.agg ea) L2 ?_)
    | (refine at_load 32 rfl ?_; refine wpList_load_run (by first | rfl | simp [Region.wanted, yielded]) 32 _ rfl w2.heap.size 0 rfl (.agg ea) (LROW.out _ _ Y2.out) ?_)
    | fail)
  refine (CB.out _).mono ?_
  rintro en w3 ⟨rfl, g3⟩
  have S3 : Hid (DW (w.heap.size + 1) (w.heap.size + 1 + 1) w3 (thenW R1 R2) 131094) := (S2.out.grew ((Grew.refl _).alloc _)).grew g3
  have G3 : Hid (Grew w w3) := (G2.out.alloc _).trans g3
  have X0_3 : Hid (w3.heap[w2.heap.size]? = some (.cells ea 32 (0, 0))) := (g3.turn []).other Y2.out (by simp)
  clear g3 S2 G2 X0_2 Y2 L2 K2 y0
  generalize w2.heap.size = xb at *
  have f00 := (cell_of X0_3.out 0).trans e0
  go_wp2_with fail
  refine (MU.out _ S3.out).mono ?_
  rintro en w4 ⟨rfl, t4, s4⟩
  have S4 : Hid (DW (w.heap.size + 1) (w.heap.size + 1 + 1) w4 (thenW (thenW R1 R2) (needW bk 4)) (131094)) := s4
  have G4 : Hid (Grew w w4) := t4.grew0 G3.out (by omega) (by omega)
  have X0_4 : Hid (w4.heap[xb]? = some (.cells ea 32 (0, 0))) := t4.other X0_3.out (by omega) (NoT.of X0_3.out (by decide))
  clear t4 s4 G3 S3 X0_3
  clear f00
  have f00 := (cell_of X0_4.out 0).trans e0
  have hwk : IntKind.u8.wrap 3 = 3 := by decide
  obtain ⟨o4, er4, l4, h14, h24, h34, h44⟩ := S4.out.ex
  obtain ⟨oa4, oc4, rfl⟩ := row_one h24
  have c04 := cell_of h14 0
  simp at c04
  have R4 : Hid (w4.ownsRow (w.heap.size + 1 + 1) 5 1 (.slice oa4 l4.length oc4) l4.length (U8 l4)) := h24
  have O4 : Hid (w4.heap[(w.heap.size + 1)]? = some (dob (.slice oa4 l4.length oc4) er4)) := h14
  have E4 : Hid (StE (thenW (thenW R1 R2) (needW bk 4)) l4 er4) := h44
  have hBl4 : (w.heap.size + 1 + 1) ≤ w4.heap.size := S4.out.le
  have c14 := cell_of (heap_alloc O4.out (.cells #[.int .u8 3] 5)) 0
  simp at c14
  clear h14 h24 h44
  go_wp2_with fail
  go_region_law (first
    | (refine step_appG (w0 := w4) (B := (w.heap.size + 1 + 1)) (v := .slice oa4 l4.length oc4) (u := .slice (some ⟨w4.heap.size, 0, none⟩) 1 1) (l := l4) (r := [3]) rfl (.tmp 38) (.tmp 42) rfl rfl rfl (by first | exact ((Grew.refl _).alloc _) | exact ((Grew.refl _).alloc _).drew) R4.out hBl4 (by first | exact reads_new _ _ _ | exact (reads_new _ _ _).below (Grew.refl _).drew.1) (by simp) (by simp; omega) ?_
       intro v5 x5 ho5 hg5
       obtain ⟨a5, cc5, hv5⟩ := row_one ho5
       rw [List.length_append] at hv5
       subst hv5
       have A5 := dw_app (b := (w.heap.size + 1)) (B := (w.heap.size + 1 + 1)) (w := w4.alloc (.cells #[.int .u8 3] 5)) (st := thenW (thenW R1 R2) (needW bk 4)) (N := 131094) (r := [3]) (heap_alloc O4.out _) (World.ownsRow.alloc R4.out _) h34 E4.out (by omega) (by simp; omega) ho5 ⟨hg5.os, hg5.tape, hg5.output, hg5.size, hg5.block⟩
       have q5 := cell_of A5.1 0
       have z5 := free_of A5.1 0
       simp at q5
       have HA5 : Hid (WT (w.heap.size + 1) (w.heap.size + 1 + 1) (w4.alloc (.cells #[.int .u8 3] 5)) (x5.setCell ⟨w.heap.size + 1, 0, none⟩ (.slice a5 (l4.length + [(3 : Int)].length) cc5)) ∧ DW (w.heap.size + 1) (w.heap.size + 1 + 1) (x5.setCell ⟨w.heap.size + 1, 0, none⟩ (.slice a5 (l4.length + [(3 : Int)].length) cc5)) (thenW (thenW (thenW R1 R2) (needW bk 4)) (.ok [3])) (131094 + [(3 : Int)].length)) := A5.2
       clear A5 hg5 ho5))
  all_goals

    generalize hw5 : x5.setCell ⟨w.heap.size + 1, 0, none⟩ (.slice a5 (l4.length + [(3 : Int)].length) cc5) = w5 at *
    have S5 : Hid (DW (w.heap.size + 1) (w.heap.size + 1 + 1) w5 (thenW (thenW (thenW R1 R2) (needW bk 4)) (.ok [3])) (131094 + 1)) := HA5.out.2
    have G5 : Hid (Grew w w5) := HA5.out.1.grew0 (G4.out.alloc _) (by omega) (by omega)
    have X0_5 : Hid (w5.heap[xb]? = some (.cells ea 32 (0, 0))) := HA5.out.1.other (heap_alloc X0_4.out _) (by omega) (NoT.of (heap_alloc X0_4.out _) (by decide))
    clear HA5 hw5 q5 z5 G4 S4 c04 c14 R4 O4 E4 hBl4 h34 X0_4
    clear f00
    have f00 := (cell_of X0_5.out 0).trans e0
    have f013 := (cell_of X0_5.out 13).trans e13
    have f014 := (cell_of X0_5.out 14).trans e14
    have f015 := (cell_of X0_5.out 15).trans e15
    have f016 := (cell_of X0_5.out 16).trans e16
    go_wp2_with fail
    refine (dwGlobal_any S5.out gn gh gz gm hgh0 hgh1 (by omega)).mono ?_
    rintro en w6 ⟨rfl, t6, s6⟩
    have S6 : Hid (DW (w.heap.size + 1) (w.heap.size + 1 + 1) w6 (thenW (thenW (thenW (thenW R1 R2) (needW bk 4)) (.ok [3])) (gloW ⟨gn, gz, gh⟩ gm)) (131094 + 1 + 13)) := s6
    have G6 : Hid (Grew w w6) := t6.grew0 G5.out (by omega) (by omega)
    have X0_6 : Hid (w6.heap[xb]? = some (.cells ea 32 (0, 0))) := t6.other X0_5.out (by omega) (NoT.of X0_5.out (by decide))
    clear t6 s6 G5 S5 X0_5
    clear f00 f013 f014 f015 f016
    go_wp2_with fail
    have CD := done_any S6.out G6.out (by omega)
    rw [EE.out] at CD
    clear S6 G6 X0_6
    refine CD.mono ?_
    intro en w7 ha
    clear CD
    generalize RR0 = RR at *
    cases RR with
    | error e =>
      obtain ⟨rfl, g1⟩ := ha
      have G1 : Hid (Grew w w7) := g1
      clear g1
      go_wp2_with fail
      go_ret2
      exact ⟨rfl, G1.out⟩
    | ok m =>
      obtain ⟨rv, rfl, r1, g1⟩ := ha
      have G1 : Hid (Grew w w7) := g1
      have R1 : Hid (w7.ownsRow w.heap.size 5 1 rv m.length (U8 m)) := r1
      obtain ⟨ra, rc, rfl⟩ := row_one r1
      clear g1 r1
      go_wp2_with fail
      go_ret2
      exact ⟨_, rfl, R1.out, G1.out⟩
set_option maxRecDepth 100000 in
set_option maxHeartbeats 2000000 in
theorem dimp_4 (w : World) (m n : List Int) (hB1 : Byt m) (hs1 : m.length ≤ 140737488351232) (hB2 : Byt n) (hs2 : n.length ≤ 140737488351232) (k ty tn th tp tq mp mq gn gh : Int) (tz tw tm mw mm gz gm : Bool) (hy0 : -9223372036854775808 ≤ ty) (hy1 : ty ≤ 9223372036854775807) (hth0 : -9223372036854775808 ≤ th) (hth1 : th ≤ 9223372036854775807) (hgh0 : -9223372036854775808 ≤ gh) (hgh1 : gh ≤ 9223372036854775807) (htp0 : 0 ≤ tp) (htp1 : tp ≤ 18446744073709551615) (htq0 : 0 ≤ tq) (htq1 : tq ≤ 18446744073709551615) (hmp0 : 0 ≤ mp) (hmp1 : mp ≤ 18446744073709551615) (hmq0 : 0 ≤ mq) (hmq1 : mq ≤ 18446744073709551615) :
    Calls Tryd.prog 5 #[.agg (.string (strOfNums m) :: .string (strOfNums n) :: [.int .i64 4, .int .i64 ty, .int .i64 tn, .bool tz, .int .i64 th, .bool tw, .int .u64 tp, .int .u64 tq, .bool tm, .bool mw, .int .u64 mp, .int .u64 mq, .bool mm, .int .i64 gn, .bool gz, .int .i64 gh, .bool gm]).toArray] w (PAns w (impW m n (extP 4 ((zT tn tz th tw tp tq tm) && ((zM mw mp mq mm) && (zG gn gz gh gm))) (tagW ty)))) := by
  have CB : Hid (∀ W : World, Calls Tryd.prog 18 #[.agg #[.int .i64 4, .int .i64 ty, .int .i64 tn, .bool tz, .int .i64 th, .bool tw, .int .u64 tp, .int .u64 tq, .bool tm, .bool mw, .int .u64 mp, .int .u64 mq, .bool mm, .int .i64 gn, .bool gz, .int .i64 gh, .bool gm], .int .i64 4] W fun en w' => en = .returned (.bool ((zT tn tz th tw tp tq tm) && ((zM mw mp mq mm) && (zG gn gz gh gm)))) ∧ Grew W w') := fun W => blank4_any k ty tn th tp tq mp mq gn gh tz tw tm mw mm gz gm W
  obtain ⟨ea, hea⟩ : ∃ ea : Array Value, ea = #[.int .i64 4, .int .i64 ty, .int .i64 tn, .bool tz, .int .i64 th, .bool tw, .int .u64 tp, .int .u64 tq, .bool tm, .bool mw, .int .u64 mp, .int .u64 mq, .bool mm, .int .i64 gn, .bool gz, .int .i64 gh, .bool gm] := ⟨_, rfl⟩
  obtain ⟨is, his⟩ : ∃ is : Array Value, is = (.string (strOfNums m) :: .string (strOfNums n) :: [.int .i64 4, .int .i64 ty, .int .i64 tn, .bool tz, .int .i64 th, .bool tw, .int .u64 tp, .int .u64 tq, .bool tm, .bool mw, .int .u64 mp, .int .u64 mq, .bool mm, .int .i64 gn, .bool gz, .int .i64 gh, .bool gm]).toArray := ⟨_, rfl⟩
  rw [← his]
  rw [← hea] at CB
  have hsz17 : ea.size = 17 := by rw [hea]; rfl
  have hsz : (Tryd.prog.info? 32).map (·.size) = some ea.size := by rw [hea]; kernel_rfl
  have hone : ea.all (·.oneCell') = true := by rw [hea]; simp [Value.oneCell']
  have i0 : is[0]? = some (.string (strOfNums m)) := by rw [his]; rfl
  have i1 : is[1]? = some (.string (strOfNums n)) := by rw [his]; rfl
  have LSEG : Hid (∀ W : World, W.heap[w.heap.size]? = some (.cells is 34 (0, 0)) → (loadVar 32 ⟨w.heap.size, 2, none⟩).run Tryd.prog W = .ok (.agg ea) W) := fun W hW => by
    rw [hea]
    exact run_loadVar_seg W w.heap.size 2 32 [.int .i64 4, .int .i64 ty, .int .i64 tn, .bool tz, .int .i64 th, .bool tw, .int .u64 tp, .int .u64 tq, .bool tm, .bool mw, .int .u64 mp, .int .u64 mq, .bool mm, .int .i64 gn, .bool gz, .int .i64 gh, .bool gm] _ (seg_of hW (fun j v hj => by rw [his, show 2 + j = j + 1 + 1 by omega]; simpa using hj)) Tryd.underlying32 rfl (by kernel_rfl)
  have LROW : Hid (∀ (W : World) (g : Nat), W.heap[g]? = some (.cells ea 32 (0, 0)) → (loadVar 32 ⟨g, 0, none⟩).run Tryd.prog W = .ok (.agg ea) W) := fun W g hW => run_loadVar_row W g 32 32 ea (0, 0) _ hW Tryd.underlying32 rfl hsz
  have e0 : ea[0]? = some (.int .i64 4) := by rw [hea]; rfl
  have e1 : ea[1]? = some (.int .i64 ty) := by rw [hea]; rfl
  have C1 : Hid (∀ W : World, DW (w.heap.size + 1) (w.heap.size + 1 + 1) W (.ok []) 0 → Calls Tryd.prog 16 #[.pointer (some ⟨w.heap.size + 1, 0, none⟩), .string (strOfNums m)] W (DA (w.heap.size + 1) (w.heap.size + 1 + 1) W (nameW m) 65547)) := fun W u => by
    have := dwName_any u m hB1 hs1 (by omega)
    rwa [thenW_l, Nat.zero_add] at this
  have C2 : Hid (∀ W : World, DW (w.heap.size + 1) (w.heap.size + 1 + 1) W (nameW m) 65547 → Calls Tryd.prog 16 #[.pointer (some ⟨w.heap.size + 1, 0, none⟩), .string (strOfNums n)] W (DA (w.heap.size + 1) (w.heap.size + 1 + 1) W (thenW (nameW m) (nameW n)) 131094)) := fun W u => dwName_any u n hB2 hs2 (by omega)
  generalize strOfNums m = s1 at *
  generalize strOfNums n = s2 at *
  unfold impW
  generalize nameW m = R1 at *
  generalize nameW n = R2 at *
  generalize ((zT tn tz th tw tp tq tm) && ((zM mw mp mq mm) && (zG gn gz gh gm))) = bk at *
  have MU : Hid (∀ W : World, DW (w.heap.size + 1) (w.heap.size + 1 + 1) W (thenW R1 R2) 131094 → Calls Tryd.prog 17 #[.pointer (some ⟨w.heap.size + 1, 0, none⟩), .bool bk, .int .i64 4] W (DA (w.heap.size + 1) (w.heap.size + 1 + 1) W (thenW (thenW R1 R2) (needW bk 4)) 131094)) := fun W u => must_any u bk 4 (by decide)
  obtain ⟨RR0, hRR⟩ : ∃ RR0, RR0 = thenW R1 (thenW R2 (extP 4 bk (tagW ty))) := ⟨_, rfl⟩
  rw [← hRR]
  have EE : Hid (thenW (thenW (thenW (thenW (thenW R1 R2) (needW bk 4)) (.ok [4])) (.ok [0])) (uidxW ty) = RR0) := by
    show _ = _
    rw [hRR]
    unfold extP tagW
    cases R1 with
    | error e => rfl
    | ok r1 =>
      cases R2 with
      | error e => rfl
      | ok r2 =>
        cases bk with
        | false => rfl
        | true =>
          generalize uidxW ty = RP
          cases RP with
          | error e => simp [thenW, needW]
          | ok r3 => simp [thenW, needW]
  clear hea his hRR
  obtain ⟨w0, hw0⟩ : ∃ w0, ((w.alloc (.cells is 34)).alloc (.cells #[.slice none 0 0, .int .i64 0] 59)) = w0 := ⟨_, rfl⟩
  have S0 : Hid (DW (w.heap.size + 1) (w.heap.size + 1 + 1) w0 (.ok []) 0) := by
    have := dw_new (w.alloc (.cells is 34))
    rw [alloc_size, hw0] at this
    exact this
  have G0 : Hid (Grew w w0) := by rw [← hw0]; exact ((Grew.refl w).alloc _).alloc _
  have X0_0 : Hid (w0.heap[w.heap.size]? = some (.cells is 34 (0, 0))) := by rw [← hw0]; exact heap_alloc (heap_alloc_last _ _) _
  have f00 := (cell_of X0_0.out 0).trans i0
  go_enter Tryd.func5, Tryd.ntmps5
  go_wp2_with fail
  refine (C1.out _ S0.out).mono ?_
  rintro en w1 ⟨rfl, t1, s1⟩
  have S1 : Hid (DW (w.heap.size + 1) (w.heap.size + 1 + 1) w1 (R1) (65547)) := s1
  have G1 : Hid (Grew w w1) := t1.grew0 G0.out (by omega) (by omega)
  have X0_1 : Hid (w1.heap[w.heap.size]? = some (.cells is 34 (0, 0))) := t1.other X0_0.out (by omega) (NoT.of X0_0.out (by decide))
  clear t1 s1 G0 S0 X0_0
  clear f00 hw0
  have f01 := (cell_of X0_1.out 1).trans i1
  go_wp2_with fail
  refine (C2.out _ S1.out).mono ?_
  rintro en w2 ⟨rfl, t2, s2⟩
  have S2 : Hid (DW (w.heap.size + 1) (w.heap.size + 1 + 1) w2 (thenW R1 R2) (131094)) := s2
  have G2 : Hid (Grew w w2) := t2.grew0 G1.out (by omega) (by omega)
  have X0_2 : Hid (w2.heap[w.heap.size]? = some (.cells is 34 (0, 0))) := t2.other X0_1.out (by omega) (NoT.of X0_1.out (by decide))
  clear t2 s2 G1 S1 X0_1
  clear f01
  have L2 : (loadVar 32 ⟨w.heap.size, 2, none⟩).run Tryd.prog w2 = .ok (.agg ea) w2 := LSEG.out w2 X0_2.out
  have K2 := run_storeCells_new (P := Tryd.prog) w2 32 #[.int .i64 0, .int .i64 0, .int .i64 0, .bool false, .int .i64 0, .bool false, .int .u64 0, .int .u64 0, .bool false, .bool false, .int .u64 0, .int .u64 0, .bool false, .int .i64 0, .bool false, .int .i64 0, .bool false] ea hsz (by rw [hsz17]; rfl) hone
  have Y2 : Hid ((w2.alloc (.cells ea 32)).heap[w2.heap.size]? = some (.cells ea 32 (0, 0))) := heap_alloc_last _ _
  have hN2 : (w.heap.size + 1 + 1) ≤ w2.heap.size := S2.out.le
  have y0 := (cell_of Y2.out 0).trans e0
  go_wp2_with (first
    | (refine at_load 32 rfl ?_; refine wpList_load_run (by first | rfl | simp [Region.wanted, yielded]) 32 _ rfl w.heap.size 2 rfl (.agg ea) L2 ?_)
    | (refine at_load 32 rfl ?_; refine wpList_load_run (by first | rfl | simp [Region.wanted, yielded]) 32 _ rfl w2.heap.size 0 rfl (.agg ea) (LROW.out _ _ Y2.out) ?_)
    | fail)
  refine (CB.out _).mono ?_
  rintro en w3 ⟨rfl, g3⟩
  have S3 : Hid (DW (w.heap.size + 1) (w.heap.size + 1 + 1) w3 (thenW R1 R2) 131094) := (S2.out.grew ((Grew.refl _).alloc _)).grew g3
  have G3 : Hid (Grew w w3) := (G2.out.alloc _).trans g3
  have X0_3 : Hid (w3.heap[w2.heap.size]? = some (.cells ea 32 (0, 0))) := (g3.turn []).other Y2.out (by simp)
  clear g3 S2 G2 X0_2 Y2 L2 K2 y0
  generalize w2.heap.size = xb at *
  have f00 := (cell_of X0_3.out 0).trans e0
  go_wp2_with fail
  refine (MU.out _ S3.out).mono ?_
  rintro en w4 ⟨rfl, t4, s4⟩
  have S4 : Hid (DW (w.heap.size + 1) (w.heap.size + 1 + 1) w4 (thenW (thenW R1 R2) (needW bk 4)) (131094)) := s4
  have G4 : Hid (Grew w w4) := t4.grew0 G3.out (by omega) (by omega)
  have X0_4 : Hid (w4.heap[xb]? = some (.cells ea 32 (0, 0))) := t4.other X0_3.out (by omega) (NoT.of X0_3.out (by decide))
  clear t4 s4 G3 S3 X0_3
  clear f00
  have f00 := (cell_of X0_4.out 0).trans e0
  have hwk : IntKind.u8.wrap 4 = 4 := by decide
  obtain ⟨o4, er4, l4, h14, h24, h34, h44⟩ := S4.out.ex
  obtain ⟨oa4, oc4, rfl⟩ := row_one h24
  have c04 := cell_of h14 0
  simp at c04
  have R4 : Hid (w4.ownsRow (w.heap.size + 1 + 1) 5 1 (.slice oa4 l4.length oc4) l4.length (U8 l4)) := h24
  have O4 : Hid (w4.heap[(w.heap.size + 1)]? = some (dob (.slice oa4 l4.length oc4) er4)) := h14
  have E4 : Hid (StE (thenW (thenW R1 R2) (needW bk 4)) l4 er4) := h44
  have hBl4 : (w.heap.size + 1 + 1) ≤ w4.heap.size := S4.out.le
  have c14 := cell_of (heap_alloc O4.out (.cells #[.int .u8 4] 5)) 0
  simp at c14
  clear h14 h24 h44
  go_wp2_with fail
  go_region_law (first
    | (refine step_appG (w0 := w4) (B := (w.heap.size + 1 + 1)) (v := .slice oa4 l4.length oc4) (u := .slice (some ⟨w4.heap.size, 0, none⟩) 1 1) (l := l4) (r := [4]) rfl (.tmp 38) (.tmp 42) rfl rfl rfl (by first | exact ((Grew.refl _).alloc _) | exact ((Grew.refl _).alloc _).drew) R4.out hBl4 (by first | exact reads_new _ _ _ | exact (reads_new _ _ _).below (Grew.refl _).drew.1) (by simp) (by simp; omega) ?_
       intro v5 x5 ho5 hg5
       obtain ⟨a5, cc5, hv5⟩ := row_one ho5
       rw [List.length_append] at hv5
       subst hv5
       have A5 := dw_app (b := (w.heap.size + 1)) (B := (w.heap.size + 1 + 1)) (w := w4.alloc (.cells #[.int .u8 4] 5)) (st := thenW (thenW R1 R2) (needW bk 4)) (N := 131094) (r := [4]) (heap_alloc O4.out _) (World.ownsRow.alloc R4.out _) h34 E4.out (by omega) (by simp; omega) ho5 ⟨hg5.os, hg5.tape, hg5.output, hg5.size, hg5.block⟩
       have q5 := cell_of A5.1 0
       have z5 := free_of A5.1 0
       simp at q5
       have HA5 : Hid (WT (w.heap.size + 1) (w.heap.size + 1 + 1) (w4.alloc (.cells #[.int .u8 4] 5)) (x5.setCell ⟨w.heap.size + 1, 0, none⟩ (.slice a5 (l4.length + [(4 : Int)].length) cc5)) ∧ DW (w.heap.size + 1) (w.heap.size + 1 + 1) (x5.setCell ⟨w.heap.size + 1, 0, none⟩ (.slice a5 (l4.length + [(4 : Int)].length) cc5)) (thenW (thenW (thenW R1 R2) (needW bk 4)) (.ok [4])) (131094 + [(4 : Int)].length)) := A5.2
       clear A5 hg5 ho5))
  all_goals

    generalize hw5 : x5.setCell ⟨w.heap.size + 1, 0, none⟩ (.slice a5 (l4.length + [(4 : Int)].length) cc5) = w5 at *
    have S5 : Hid (DW (w.heap.size + 1) (w.heap.size + 1 + 1) w5 (thenW (thenW (thenW R1 R2) (needW bk 4)) (.ok [4])) (131094 + 1)) := HA5.out.2
    have G5 : Hid (Grew w w5) := HA5.out.1.grew0 (G4.out.alloc _) (by omega) (by omega)
    have X0_5 : Hid (w5.heap[xb]? = some (.cells ea 32 (0, 0))) := HA5.out.1.other (heap_alloc X0_4.out _) (by omega) (NoT.of (heap_alloc X0_4.out _) (by decide))
    clear HA5 hw5 q5 z5 G4 S4 c04 c14 R4 O4 E4 hBl4 h34 X0_4
    clear f00
    have f00 := (cell_of X0_5.out 0).trans e0
    obtain ⟨o5, e5_, l5, h15, h25, h35, h45⟩ := S5.out.ex
    obtain ⟨oa5, oc5, rfl⟩ := row_one h25
    have c05 := cell_of h15 0
    simp at c05
    have R5 : Hid (w5.ownsRow (w.heap.size + 1 + 1) 5 1 (.slice oa5 l5.length oc5) l5.length (U8 l5)) := h25
    have O5 : Hid (w5.heap[(w.heap.size + 1)]? = some (dob (.slice oa5 l5.length oc5) e5_)) := h15
    have E5 : Hid (StE (thenW (thenW (thenW R1 R2) (needW bk 4)) (.ok [4])) l5 e5_) := h45
    have hBl5 : (w.heap.size + 1 + 1) ≤ w5.heap.size := S5.out.le
    clear h15 h25 h45
    go_wp2_with (
      at_builtin
      refine wp_appG (w := w5.alloc (.cells #[.int .u8 0] 5)) (v := .slice oa5 l5.length oc5) (u := .slice (some ⟨w5.heap.size, 0, none⟩) 1 1) (r := [0]) rfl _ _ rfl rfl rfl (World.ownsRow.alloc R5.out _) (by simp; omega) (reads_new _ _ _) (by simp; omega) ?_
      intro v6 x6 ho6 hg6
      obtain ⟨a6, cc6, hv6⟩ := row_one ho6
      rw [List.length_append] at hv6
      subst hv6
      have A6 := dw_app (b := (w.heap.size + 1)) (B := (w.heap.size + 1 + 1)) (w := w5.alloc (.cells #[.int .u8 0] 5)) (st := thenW (thenW (thenW R1 R2) (needW bk 4)) (.ok [4])) (N := 131094 + 1) (r := [0]) (heap_alloc O5.out _) (World.ownsRow.alloc R5.out _) h35 E5.out (by omega) (by simp; omega) ho6 hg6
      have q6 := cell_of A6.1 0
      have z6 := free_of A6.1 0
      simp at q6
      have HA6 : Hid (WT (w.heap.size + 1) (w.heap.size + 1 + 1) (w5.alloc (.cells #[.int .u8 0] 5)) (x6.setCell ⟨w.heap.size + 1, 0, none⟩ (.slice a6 (l5.length + [(0 : Int)].length) cc6)) ∧ DW (w.heap.size + 1) (w.heap.size + 1 + 1) (x6.setCell ⟨w.heap.size + 1, 0, none⟩ (.slice a6 (l5.length + [(0 : Int)].length) cc6)) (thenW (thenW (thenW (thenW R1 R2) (needW bk 4)) (.ok [4])) (.ok [0])) (131094 + 1 + [(0 : Int)].length)) := A6.2
      have X0_6' : Hid (x6.heap[xb]? = some (.cells ea 32 (0, 0))) := (wt_grown (b := (w.heap.size + 1)) (World.ownsRow.alloc R5.out _) hg6).other (heap_alloc X0_5.out _) (by omega) (NoT.of (heap_alloc X0_5.out _) (by decide))
      have gx1 := (cell_of X0_6'.out 1).trans e1
      have hxb : ¬ (xb = w.heap.size + 1) := by omega
      clear A6 hg6 ho6)
    have S6 : Hid (DW (w.heap.size + 1) (w.heap.size + 1 + 1) (x6.setCell ⟨w.heap.size + 1, 0, none⟩ (.slice a6 (l5.length + [(0 : Int)].length) cc6)) (thenW (thenW (thenW (thenW R1 R2) (needW bk 4)) (.ok [4])) (.ok [0])) (131094 + 1 + 1)) := HA6.out.2
    have G6 : Hid (Grew w (x6.setCell ⟨w.heap.size + 1, 0, none⟩ (.slice a6 (l5.length + [(0 : Int)].length) cc6))) := HA6.out.1.grew0 (G5.out.alloc _) (by omega) (by omega)
    have X0_6 : Hid ((x6.setCell ⟨w.heap.size + 1, 0, none⟩ (.slice a6 (l5.length + [(0 : Int)].length) cc6)).heap[xb]? = some (.cells ea 32 (0, 0))) := heap_other X0_6'.out (show xb ≠ w.heap.size + 1 by omega) _
    skip
    refine (dwIndex_any S6.out ty hy0 hy1 (by omega)).mono ?_
    rintro en w7 ⟨rfl, t7, s7⟩
    have S7 : Hid (DW (w.heap.size + 1) (w.heap.size + 1 + 1) w7 (thenW (thenW (thenW (thenW (thenW R1 R2) (needW bk 4)) (.ok [4])) (.ok [0])) (uidxW ty)) (131094 + 1 + 1 + 11)) := s7
    have G7 : Hid (Grew w w7) := t7.grew0 G6.out (by omega) (by omega)
    have X0_7 : Hid (w7.heap[xb]? = some (.cells ea 32 (0, 0))) := t7.other X0_6.out (by omega) (NoT.of X0_6.out (by decide))
    clear t7 s7 G6 S6 X0_6
    clear f00 gx1
    go_wp2_with fail
    have CD := done_any S7.out G7.out (by omega)
    rw [EE.out] at CD
    clear S7 G7 X0_7
    refine CD.mono ?_
    intro en w8 ha
    clear CD
    generalize RR0 = RR at *
    cases RR with
    | error e =>
      obtain ⟨rfl, g1⟩ := ha
      have G1 : Hid (Grew w w8) := g1
      clear g1
      go_wp2_with fail
      go_ret2
      exact ⟨rfl, G1.out⟩
    | ok m =>
      obtain ⟨rv, rfl, r1, g1⟩ := ha
      have G1 : Hid (Grew w w8) := g1
      have R1 : Hid (w8.ownsRow w.heap.size 5 1 rv m.length (U8 m)) := r1
      obtain ⟨ra, rc, rfl⟩ := row_one r1
      clear g1 r1
      go_wp2_with fail
      go_ret2
      exact ⟨_, rfl, R1.out, G1.out⟩
set_option maxRecDepth 100000 in
set_option maxHeartbeats 2000000 in
theorem dimp_no (w : World) (m n : List Int) (hB1 : Byt m) (hs1 : m.length ≤ 140737488351232) (hB2 : Byt n) (hs2 : n.length ≤ 140737488351232) (k ty tn th tp tq mp mq gn gh : Int) (tz tw tm mw mm gz gm : Bool) (hy0 : -9223372036854775808 ≤ ty) (hy1 : ty ≤ 9223372036854775807) (hth0 : -9223372036854775808 ≤ th) (hth1 : th ≤ 9223372036854775807) (hgh0 : -9223372036854775808 ≤ gh) (hgh1 : gh ≤ 9223372036854775807) (htp0 : 0 ≤ tp) (htp1 : tp ≤ 18446744073709551615) (htq0 : 0 ≤ tq) (htq1 : tq ≤ 18446744073709551615) (hmp0 : 0 ≤ mp) (hmp1 : mp ≤ 18446744073709551615) (hmq0 : 0 ≤ mq) (hmq1 : mq ≤ 18446744073709551615) (hk : ¬ (0 ≤ k ∧ k ≤ 4)) :
    Calls Tryd.prog 5 #[.agg (.string (strOfNums m) :: .string (strOfNums n) :: [.int .i64 k, .int .i64 ty, .int .i64 tn, .bool tz, .int .i64 th, .bool tw, .int .u64 tp, .int .u64 tq, .bool tm, .bool mw, .int .u64 mp, .int .u64 mq, .bool mm, .int .i64 gn, .bool gz, .int .i64 gh, .bool gm]).toArray] w (PAns w (impW m n (.error 4))) := by
  obtain ⟨ea, hea⟩ : ∃ ea : Array Value, ea = #[.int .i64 k, .int .i64 ty, .int .i64 tn, .bool tz, .int .i64 th, .bool tw, .int .u64 tp, .int .u64 tq, .bool tm, .bool mw, .int .u64 mp, .int .u64 mq, .bool mm, .int .i64 gn, .bool gz, .int .i64 gh, .bool gm] := ⟨_, rfl⟩
  obtain ⟨is, his⟩ : ∃ is : Array Value, is = (.string (strOfNums m) :: .string (strOfNums n) :: [.int .i64 k, .int .i64 ty, .int .i64 tn, .bool tz, .int .i64 th, .bool tw, .int .u64 tp, .int .u64 tq, .bool tm, .bool mw, .int .u64 mp, .int .u64 mq, .bool mm, .int .i64 gn, .bool gz, .int .i64 gh, .bool gm]).toArray := ⟨_, rfl⟩
  rw [← his]
  have hsz17 : ea.size = 17 := by rw [hea]; rfl
  have hsz : (Tryd.prog.info? 32).map (·.size) = some ea.size := by rw [hea]; kernel_rfl
  have hone : ea.all (·.oneCell') = true := by rw [hea]; simp [Value.oneCell']
  have i0 : is[0]? = some (.string (strOfNums m)) := by rw [his]; rfl
  have i1 : is[1]? = some (.string (strOfNums n)) := by rw [his]; rfl
  have LSEG : Hid (∀ W : World, W.heap[w.heap.size]? = some (.cells is 34 (0, 0)) → (loadVar 32 ⟨w.heap.size, 2, none⟩).run Tryd.prog W = .ok (.agg ea) W) := fun W hW => by
    rw [hea]
    exact run_loadVar_seg W w.heap.size 2 32 [.int .i64 k, .int .i64 ty, .int .i64 tn, .bool tz, .int .i64 th, .bool tw, .int .u64 tp, .int .u64 tq, .bool tm, .bool mw, .int .u64 mp, .int .u64 mq, .bool mm, .int .i64 gn, .bool gz, .int .i64 gh, .bool gm] _ (seg_of hW (fun j v hj => by rw [his, show 2 + j = j + 1 + 1 by omega]; simpa using hj)) Tryd.underlying32 rfl (by kernel_rfl)
  have LROW : Hid (∀ (W : World) (g : Nat), W.heap[g]? = some (.cells ea 32 (0, 0)) → (loadVar 32 ⟨g, 0, none⟩).run Tryd.prog W = .ok (.agg ea) W) := fun W g hW => run_loadVar_row W g 32 32 ea (0, 0) _ hW Tryd.underlying32 rfl hsz
  have e0 : ea[0]? = some (.int .i64 k) := by rw [hea]; rfl
  have C1 : Hid (∀ W : World, DW (w.heap.size + 1) (w.heap.size + 1 + 1) W (.ok []) 0 → Calls Tryd.prog 16 #[.pointer (some ⟨w.heap.size + 1, 0, none⟩), .string (strOfNums m)] W (DA (w.heap.size + 1) (w.heap.size + 1 + 1) W (nameW m) 65547)) := fun W u => by
    have := dwName_any u m hB1 hs1 (by omega)
    rwa [thenW_l, Nat.zero_add] at this
  have C2 : Hid (∀ W : World, DW (w.heap.size + 1) (w.heap.size + 1 + 1) W (nameW m) 65547 → Calls Tryd.prog 16 #[.pointer (some ⟨w.heap.size + 1, 0, none⟩), .string (strOfNums n)] W (DA (w.heap.size + 1) (w.heap.size + 1 + 1) W (thenW (nameW m) (nameW n)) 131094)) := fun W u => dwName_any u n hB2 hs2 (by omega)
  generalize strOfNums m = s1 at *
  generalize strOfNums n = s2 at *
  unfold impW
  generalize nameW m = R1 at *
  generalize nameW n = R2 at *
  obtain ⟨c, hc⟩ : ∃ c, IntKind.u8.wrap k = c := ⟨_, rfl⟩
  obtain ⟨RR0, hRR⟩ : ∃ RR0, RR0 = thenW R1 (thenW R2 (.error 4)) := ⟨_, rfl⟩
  rw [← hRR]
  have EE : Hid (thenW (thenW (thenW R1 R2) (needW false 4)) (.ok [c]) = RR0) := by
    show _ = _
    rw [hRR]
    cases R1 with
    | error e => rfl
    | ok r1 =>
      cases R2 with
      | error e => rfl
      | ok r2 => rfl
  clear hea his hRR
  have k0 : (k == 0) = false := by simp; omega
  have k1 : (k == 1) = false := by simp; omega
  have k2 : (k == 2) = false := by simp; omega
  have k3 : (k == 3) = false := by simp; omega
  have k4 : (k == 4) = false := by simp; omega
  by_cases h0 : 0 ≤ k
  · have d0 : decide (0 ≤ k) = true := by simp; omega
    have d1 : decide (k ≤ 4) = false := by simp; omega
    obtain ⟨w0, hw0⟩ : ∃ w0, ((w.alloc (.cells is 34)).alloc (.cells #[.slice none 0 0, .int .i64 0] 59)) = w0 := ⟨_, rfl⟩
    have S0 : Hid (DW (w.heap.size + 1) (w.heap.size + 1 + 1) w0 (.ok []) 0) := by
      have := dw_new (w.alloc (.cells is 34))
      rw [alloc_size, hw0] at this
      exact this
    have G0 : Hid (Grew w w0) := by rw [← hw0]; exact ((Grew.refl w).alloc _).alloc _
    have X0_0 : Hid (w0.heap[w.heap.size]? = some (.cells is 34 (0, 0))) := by rw [← hw0]; exact heap_alloc (heap_alloc_last _ _) _
    have f00 := (cell_of X0_0.out 0).trans i0
    go_enter Tryd.func5, Tryd.ntmps5
    go_wp2_with fail
    refine (C1.out _ S0.out).mono ?_
    rintro en w1 ⟨rfl, t1, s1⟩
    have S1 : Hid (DW (w.heap.size + 1) (w.heap.size + 1 + 1) w1 (R1) (65547)) := s1
    have G1 : Hid (Grew w w1) := t1.grew0 G0.out (by omega) (by omega)
    have X0_1 : Hid (w1.heap[w.heap.size]? = some (.cells is 34 (0, 0))) := t1.other X0_0.out (by omega) (NoT.of X0_0.out (by decide))
    clear t1 s1 G0 S0 X0_0
    clear f00 hw0
    have f01 := (cell_of X0_1.out 1).trans i1
    go_wp2_with fail
    refine (C2.out _ S1.out).mono ?_
    rintro en w2 ⟨rfl, t2, s2⟩
    have S2 : Hid (DW (w.heap.size + 1) (w.heap.size + 1 + 1) w2 (thenW R1 R2) (131094)) := s2
    have G2 : Hid (Grew w w2) := t2.grew0 G1.out (by omega) (by omega)
    have X0_2 : Hid (w2.heap[w.heap.size]? = some (.cells is 34 (0, 0))) := t2.other X0_1.out (by omega) (NoT.of X0_1.out (by decide))
    clear t2 s2 G1 S1 X0_1
    clear f01
    have L2 : (loadVar 32 ⟨w.heap.size, 2, none⟩).run Tryd.prog w2 = .ok (.agg ea) w2 := LSEG.out w2 X0_2.out
    have K2 := run_storeCells_new (P := Tryd.prog) w2 32 #[.int .i64 0, .int .i64 0, .int .i64 0, .bool false, .int .i64 0, .bool false, .int .u64 0, .int .u64 0, .bool false, .bool false, .int .u64 0, .int .u64 0, .bool false, .int .i64 0, .bool false, .int .i64 0, .bool false] ea hsz (by rw [hsz17]; rfl) hone
    have Y2 : Hid ((w2.alloc (.cells ea 32)).heap[w2.heap.size]? = some (.cells ea 32 (0, 0))) := heap_alloc_last _ _
    have hN2 : (w.heap.size + 1 + 1) ≤ w2.heap.size := S2.out.le
    have y0 := (cell_of Y2.out 0).trans e0
    go_wp2_with (first
      | (refine at_load 32 rfl ?_; refine wpList_load_run (by first | rfl | simp [Region.wanted, yielded]) 32 _ rfl w.heap.size 2 rfl (.agg ea) L2 ?_)
      | fail)
    have S3 : Hid (DW (w.heap.size + 1) (w.heap.size + 1 + 1) (w2.alloc (.cells ea 32)) (thenW R1 R2) 131094) := S2.out.grew ((Grew.refl _).alloc _)
    have G3 : Hid (Grew w (w2.alloc (.cells ea 32))) := G2.out.alloc _
    refine (must_any S3.out false 4 (by decide)).mono ?_
    rintro en w4 ⟨rfl, t4, s4⟩
    have S4 : Hid (DW (w.heap.size + 1) (w.heap.size + 1 + 1) w4 (thenW (thenW R1 R2) (needW false 4)) (131094)) := s4
    have G4 : Hid (Grew w w4) := t4.grew0 G3.out (by omega) (by omega)
    have X0_4 : Hid (w4.heap[w2.heap.size]? = some (.cells ea 32 (0, 0))) := t4.other Y2.out (by omega) (NoT.of Y2.out (by decide))
    clear t4 s4 G3 S3 S2 G2 X0_2 Y2 L2 K2 y0
    generalize w2.heap.size = xb at *
    have f00 := (cell_of X0_4.out 0).trans e0
    obtain ⟨o4, er4, l4, h14, h24, h34, h44⟩ := S4.out.ex
    obtain ⟨oa4, oc4, rfl⟩ := row_one h24
    have c04 := cell_of h14 0
    simp at c04
    have R4 : Hid (w4.ownsRow (w.heap.size + 1 + 1) 5 1 (.slice oa4 l4.length oc4) l4.length (U8 l4)) := h24
    have O4 : Hid (w4.heap[(w.heap.size + 1)]? = some (dob (.slice oa4 l4.length oc4) er4)) := h14
    have E4 : Hid (StE (thenW (thenW R1 R2) (needW false 4)) l4 er4) := h44
    have hBl4 : (w.heap.size + 1 + 1) ≤ w4.heap.size := S4.out.le
    have c14 := cell_of (heap_alloc O4.out (.cells #[.int .u8 c] 5)) 0
    simp at c14
    clear h14 h24 h44
    go_wp2_with fail
    go_region_law (first
      | (refine step_appG (w0 := w4) (B := (w.heap.size + 1 + 1)) (v := .slice oa4 l4.length oc4) (u := .slice (some ⟨w4.heap.size, 0, none⟩) 1 1) (l := l4) (r := [c]) rfl (.tmp 38) (.tmp 42) rfl rfl rfl (by first | exact ((Grew.refl _).alloc _) | exact ((Grew.refl _).alloc _).drew) R4.out hBl4 (by first | exact reads_new _ _ _ | exact (reads_new _ _ _).below (Grew.refl _).drew.1) (by simp) (by simp; omega) ?_
         intro v5 x5 ho5 hg5
         obtain ⟨a5, cc5, hv5⟩ := row_one ho5
         rw [List.length_append] at hv5
         subst hv5
         have A5 := dw_app (b := (w.heap.size + 1)) (B := (w.heap.size + 1 + 1)) (w := w4.alloc (.cells #[.int .u8 c] 5)) (st := thenW (thenW R1 R2) (needW false 4)) (N := 131094) (r := [c]) (heap_alloc O4.out _) (World.ownsRow.alloc R4.out _) h34 E4.out (by omega) (by simp; omega) ho5 ⟨hg5.os, hg5.tape, hg5.output, hg5.size, hg5.block⟩
         have q5 := cell_of A5.1 0
         have z5 := free_of A5.1 0
         simp at q5
         have HA5 : Hid (WT (w.heap.size + 1) (w.heap.size + 1 + 1) (w4.alloc (.cells #[.int .u8 c] 5)) (x5.setCell ⟨w.heap.size + 1, 0, none⟩ (.slice a5 (l4.length + [(c : Int)].length) cc5)) ∧ DW (w.heap.size + 1) (w.heap.size + 1 + 1) (x5.setCell ⟨w.heap.size + 1, 0, none⟩ (.slice a5 (l4.length + [(c : Int)].length) cc5)) (thenW (thenW (thenW R1 R2) (needW false 4)) (.ok [c])) (131094 + [(c : Int)].length)) := A5.2
         clear A5 hg5 ho5))
    all_goals

      generalize hw5 : x5.setCell ⟨w.heap.size + 1, 0, none⟩ (.slice a5 (l4.length + [(c : Int)].length) cc5) = w5 at *
      have S5 : Hid (DW (w.heap.size + 1) (w.heap.size + 1 + 1) w5 (thenW (thenW (thenW R1 R2) (needW false 4)) (.ok [c])) (131094 + 1)) := HA5.out.2
      have G5 : Hid (Grew w w5) := HA5.out.1.grew0 (G4.out.alloc _) (by omega) (by omega)
      have X0_5 : Hid (w5.heap[xb]? = some (.cells ea 32 (0, 0))) := HA5.out.1.other (heap_alloc X0_4.out _) (by omega) (NoT.of (heap_alloc X0_4.out _) (by decide))
      clear HA5 hw5 q5 z5 G4 S4 c04 c14 R4 O4 E4 hBl4 h34 X0_4
      clear f00
      have f00 := (cell_of X0_5.out 0).trans e0
      go_wp2_with fail
      have CD := done_any S5.out G5.out (by omega)
      rw [EE.out] at CD
      clear S5 G5 X0_5
      refine CD.mono ?_
      intro en w6 ha
      clear CD
      generalize RR0 = RR at *
      cases RR with
      | error e =>
        obtain ⟨rfl, g1⟩ := ha
        have G1 : Hid (Grew w w6) := g1
        clear g1
        go_wp2_with fail
        go_ret2
        exact ⟨rfl, G1.out⟩
      | ok m =>
        obtain ⟨rv, rfl, r1, g1⟩ := ha
        have G1 : Hid (Grew w w6) := g1
        have R1 : Hid (w6.ownsRow w.heap.size 5 1 rv m.length (U8 m)) := r1
        obtain ⟨ra, rc, rfl⟩ := row_one r1
        clear g1 r1
        go_wp2_with fail
        go_ret2
        exact ⟨_, rfl, R1.out, G1.out⟩
  · have d0 : decide (0 ≤ k) = false := by simp; omega
    obtain ⟨w0, hw0⟩ : ∃ w0, ((w.alloc (.cells is 34)).alloc (.cells #[.slice none 0 0, .int .i64 0] 59)) = w0 := ⟨_, rfl⟩
    have S0 : Hid (DW (w.heap.size + 1) (w.heap.size + 1 + 1) w0 (.ok []) 0) := by
      have := dw_new (w.alloc (.cells is 34))
      rw [alloc_size, hw0] at this
      exact this
    have G0 : Hid (Grew w w0) := by rw [← hw0]; exact ((Grew.refl w).alloc _).alloc _
    have X0_0 : Hid (w0.heap[w.heap.size]? = some (.cells is 34 (0, 0))) := by rw [← hw0]; exact heap_alloc (heap_alloc_last _ _) _
    have f00 := (cell_of X0_0.out 0).trans i0
    go_enter Tryd.func5, Tryd.ntmps5
    go_wp2_with fail
    refine (C1.out _ S0.out).mono ?_
    rintro en w1 ⟨rfl, t1, s1⟩
    have S1 : Hid (DW (w.heap.size + 1) (w.heap.size + 1 + 1) w1 (R1) (65547)) := s1
    have G1 : Hid (Grew w w1) := t1.grew0 G0.out (by omega) (by omega)
    have X0_1 : Hid (w1.heap[w.heap.size]? = some (.cells is 34 (0, 0))) := t1.other X0_0.out (by omega) (NoT.of X0_0.out (by decide))
    clear t1 s1 G0 S0 X0_0
    clear f00 hw0
    have f01 := (cell_of X0_1.out 1).trans i1
    go_wp2_with fail
    refine (C2.out _ S1.out).mono ?_
    rintro en w2 ⟨rfl, t2, s2⟩
    have S2 : Hid (DW (w.heap.size + 1) (w.heap.size + 1 + 1) w2 (thenW R1 R2) (131094)) := s2
    have G2 : Hid (Grew w w2) := t2.grew0 G1.out (by omega) (by omega)
    have X0_2 : Hid (w2.heap[w.heap.size]? = some (.cells is 34 (0, 0))) := t2.other X0_1.out (by omega) (NoT.of X0_1.out (by decide))
    clear t2 s2 G1 S1 X0_1
    clear f01
    have L2 : (loadVar 32 ⟨w.heap.size, 2, none⟩).run Tryd.prog w2 = .ok (.agg ea) w2 := LSEG.out w2 X0_2.out
    have K2 := run_storeCells_new (P := Tryd.prog) w2 32 #[.int .i64 0, .int .i64 0, .int .i64 0, .bool false, .int .i64 0, .bool false, .int .u64 0, .int .u64 0, .bool false, .bool false, .int .u64 0, .int .u64 0, .bool false, .int .i64 0, .bool false, .int .i64 0, .bool false] ea hsz (by rw [hsz17]; rfl) hone
    have Y2 : Hid ((w2.alloc (.cells ea 32)).heap[w2.heap.size]? = some (.cells ea 32 (0, 0))) := heap_alloc_last _ _
    have hN2 : (w.heap.size + 1 + 1) ≤ w2.heap.size := S2.out.le
    have y0 := (cell_of Y2.out 0).trans e0
    go_wp2_with (first
      | (refine at_load 32 rfl ?_; refine wpList_load_run (by first | rfl | simp [Region.wanted, yielded]) 32 _ rfl w.heap.size 2 rfl (.agg ea) L2 ?_)
      | fail)
    have S3 : Hid (DW (w.heap.size + 1) (w.heap.size + 1 + 1) (w2.alloc (.cells ea 32)) (thenW R1 R2) 131094) := S2.out.grew ((Grew.refl _).alloc _)
    have G3 : Hid (Grew w (w2.alloc (.cells ea 32))) := G2.out.alloc _
    refine (must_any S3.out false 4 (by decide)).mono ?_
    rintro en w4 ⟨rfl, t4, s4⟩
    have S4 : Hid (DW (w.heap.size + 1) (w.heap.size + 1 + 1) w4 (thenW (thenW R1 R2) (needW false 4)) (131094)) := s4
    have G4 : Hid (Grew w w4) := t4.grew0 G3.out (by omega) (by omega)
    have X0_4 : Hid (w4.heap[w2.heap.size]? = some (.cells ea 32 (0, 0))) := t4.other Y2.out (by omega) (NoT.of Y2.out (by decide))
    clear t4 s4 G3 S3 S2 G2 X0_2 Y2 L2 K2 y0
    generalize w2.heap.size = xb at *
    have f00 := (cell_of X0_4.out 0).trans e0
    obtain ⟨o4, er4, l4, h14, h24, h34, h44⟩ := S4.out.ex
    obtain ⟨oa4, oc4, rfl⟩ := row_one h24
    have c04 := cell_of h14 0
    simp at c04
    have R4 : Hid (w4.ownsRow (w.heap.size + 1 + 1) 5 1 (.slice oa4 l4.length oc4) l4.length (U8 l4)) := h24
    have O4 : Hid (w4.heap[(w.heap.size + 1)]? = some (dob (.slice oa4 l4.length oc4) er4)) := h14
    have E4 : Hid (StE (thenW (thenW R1 R2) (needW false 4)) l4 er4) := h44
    have hBl4 : (w.heap.size + 1 + 1) ≤ w4.heap.size := S4.out.le
    have c14 := cell_of (heap_alloc O4.out (.cells #[.int .u8 c] 5)) 0
    simp at c14
    clear h14 h24 h44
    go_wp2_with fail
    go_region_law (first
      | (refine step_appG (w0 := w4) (B := (w.heap.size + 1 + 1)) (v := .slice oa4 l4.length oc4) (u := .slice (some ⟨w4.heap.size, 0, none⟩) 1 1) (l := l4) (r := [c]) rfl (.tmp 38) (.tmp 42) rfl rfl rfl (by first | exact ((Grew.refl _).alloc _) | exact ((Grew.refl _).alloc _).drew) R4.out hBl4 (by first | exact reads_new _ _ _ | exact (reads_new _ _ _).below (Grew.refl _).drew.1) (by simp) (by simp; omega) ?_
         intro v5 x5 ho5 hg5
         obtain ⟨a5, cc5, hv5⟩ := row_one ho5
         rw [List.length_append] at hv5
         subst hv5
         have A5 := dw_app (b := (w.heap.size + 1)) (B := (w.heap.size + 1 + 1)) (w := w4.alloc (.cells #[.int .u8 c] 5)) (st := thenW (thenW R1 R2) (needW false 4)) (N := 131094) (r := [c]) (heap_alloc O4.out _) (World.ownsRow.alloc R4.out _) h34 E4.out (by omega) (by simp; omega) ho5 ⟨hg5.os, hg5.tape, hg5.output, hg5.size, hg5.block⟩
         have q5 := cell_of A5.1 0
         have z5 := free_of A5.1 0
         simp at q5
         have HA5 : Hid (WT (w.heap.size + 1) (w.heap.size + 1 + 1) (w4.alloc (.cells #[.int .u8 c] 5)) (x5.setCell ⟨w.heap.size + 1, 0, none⟩ (.slice a5 (l4.length + [(c : Int)].length) cc5)) ∧ DW (w.heap.size + 1) (w.heap.size + 1 + 1) (x5.setCell ⟨w.heap.size + 1, 0, none⟩ (.slice a5 (l4.length + [(c : Int)].length) cc5)) (thenW (thenW (thenW R1 R2) (needW false 4)) (.ok [c])) (131094 + [(c : Int)].length)) := A5.2
         clear A5 hg5 ho5))
    all_goals

      generalize hw5 : x5.setCell ⟨w.heap.size + 1, 0, none⟩ (.slice a5 (l4.length + [(c : Int)].length) cc5) = w5 at *
      have S5 : Hid (DW (w.heap.size + 1) (w.heap.size + 1 + 1) w5 (thenW (thenW (thenW R1 R2) (needW false 4)) (.ok [c])) (131094 + 1)) := HA5.out.2
      have G5 : Hid (Grew w w5) := HA5.out.1.grew0 (G4.out.alloc _) (by omega) (by omega)
      have X0_5 : Hid (w5.heap[xb]? = some (.cells ea 32 (0, 0))) := HA5.out.1.other (heap_alloc X0_4.out _) (by omega) (NoT.of (heap_alloc X0_4.out _) (by decide))
      clear HA5 hw5 q5 z5 G4 S4 c04 c14 R4 O4 E4 hBl4 h34 X0_4
      clear f00
      have f00 := (cell_of X0_5.out 0).trans e0
      go_wp2_with fail
      have CD := done_any S5.out G5.out (by omega)
      rw [EE.out] at CD
      clear S5 G5 X0_5
      refine CD.mono ?_
      intro en w6 ha
      clear CD
      generalize RR0 = RR at *
      cases RR with
      | error e =>
        obtain ⟨rfl, g1⟩ := ha
        have G1 : Hid (Grew w w6) := g1
        clear g1
        go_wp2_with fail
        go_ret2
        exact ⟨rfl, G1.out⟩
      | ok m =>
        obtain ⟨rv, rfl, r1, g1⟩ := ha
        have G1 : Hid (Grew w w6) := g1
        have R1 : Hid (w6.ownsRow w.heap.size 5 1 rv m.length (U8 m)) := r1
        obtain ⟨ra, rc, rfl⟩ := row_one r1
        clear g1 r1
        go_wp2_with fail
        go_ret2
        exact ⟨_, rfl, R1.out, G1.out⟩
theorem dPutImp_any (w : World) (m n : List Int) (hB1 : Byt m) (hs1 : m.length ≤ 140737488351232) (hB2 : Byt n) (hs2 : n.length ≤ 140737488351232) (k ty tn th tp tq mp mq gn gh : Int) (tz tw tm mw mm gz gm : Bool) (hy0 : -9223372036854775808 ≤ ty) (hy1 : ty ≤ 9223372036854775807) (hth0 : -9223372036854775808 ≤ th) (hth1 : th ≤ 9223372036854775807) (hgh0 : -9223372036854775808 ≤ gh) (hgh1 : gh ≤ 9223372036854775807) (htp0 : 0 ≤ tp) (htp1 : tp ≤ 18446744073709551615) (htq0 : 0 ≤ tq) (htq1 : tq ≤ 18446744073709551615) (hmp0 : 0 ≤ mp) (hmp1 : mp ≤ 18446744073709551615) (hmq0 : 0 ≤ mq) (hmq1 : mq ≤ 18446744073709551615) :
    Calls Tryd.prog 5 #[.agg (.string (strOfNums m) :: .string (strOfNums n) :: [.int .i64 k, .int .i64 ty, .int .i64 tn, .bool tz, .int .i64 th, .bool tw, .int .u64 tp, .int .u64 tq, .bool tm, .bool mw, .int .u64 mp, .int .u64 mq, .bool mm, .int .i64 gn, .bool gz, .int .i64 gh, .bool gm]).toArray] w (PAns w (impW m n (extW k ty tn th tp tq mp mq gn gh tz tw tm mw mm gz gm))) := by
  unfold extW
  by_cases h0 : k = 0
  · rw [if_pos h0]
    subst h0
    exact dimp_0 w m n hB1 hs1 hB2 hs2 0 ty tn th tp tq mp mq gn gh tz tw tm mw mm gz gm hy0 hy1 hth0 hth1 hgh0 hgh1 htp0 htp1 htq0 htq1 hmp0 hmp1 hmq0 hmq1
  rw [if_neg h0]
  by_cases h1 : k = 1
  · rw [if_pos h1]
    subst h1
    exact dimp_1 w m n hB1 hs1 hB2 hs2 1 ty tn th tp tq mp mq gn gh tz tw tm mw mm gz gm hy0 hy1 hth0 hth1 hgh0 hgh1 htp0 htp1 htq0 htq1 hmp0 hmp1 hmq0 hmq1
  rw [if_neg h1]
  by_cases h2 : k = 2
  · rw [if_pos h2]
    subst h2
    exact dimp_2 w m n hB1 hs1 hB2 hs2 2 ty tn th tp tq mp mq gn gh tz tw tm mw mm gz gm hy0 hy1 hth0 hth1 hgh0 hgh1 htp0 htp1 htq0 htq1 hmp0 hmp1 hmq0 hmq1
  rw [if_neg h2]
  by_cases h3 : k = 3
  · rw [if_pos h3]
    subst h3
    exact dimp_3 w m n hB1 hs1 hB2 hs2 3 ty tn th tp tq mp mq gn gh tz tw tm mw mm gz gm hy0 hy1 hth0 hth1 hgh0 hgh1 htp0 htp1 htq0 htq1 hmp0 hmp1 hmq0 hmq1
  rw [if_neg h3]
  by_cases h4 : k = 4
  · rw [if_pos h4]
    subst h4
    exact dimp_4 w m n hB1 hs1 hB2 hs2 4 ty tn th tp tq mp mq gn gh tz tw tm mw mm gz gm hy0 hy1 hth0 hth1 hgh0 hgh1 htp0 htp1 htq0 htq1 hmp0 hmp1 hmq0 hmq1
  rw [if_neg h4]
  exact dimp_no w m n hB1 hs1 hB2 hs2 k ty tn th tp tq mp mq gn gh tz tw tm mw mm gz gm hy0 hy1 hth0 hth1 hgh0 hgh1 htp0 htp1 htq0 htq1 hmp0 hmp1 hmq0 hmq1 (by omega)
theorem pPutImp_all (w : World) (hT : Tab w) (m n : List Int) (hB1 : Byt m) (hs1 : m.length ≤ 140737488351232) (hB2 : Byt n) (hs2 : n.length ≤ 140737488351232) (k ty tn th tp tq mp mq gn gh : Int) (tz tw tm mw mm gz gm : Bool) (hy0 : -9223372036854775808 ≤ ty) (hy1 : ty ≤ 9223372036854775807) (hth0 : -9223372036854775808 ≤ th) (hth1 : th ≤ 9223372036854775807) (hgh0 : -9223372036854775808 ≤ gh) (hgh1 : gh ≤ 9223372036854775807) (htp0 : 0 ≤ tp) (htp1 : tp ≤ 18446744073709551615) (htq0 : 0 ≤ tq) (htq1 : tq ≤ 18446744073709551615) (hmp0 : 0 ≤ mp) (hmp1 : mp ≤ 18446744073709551615) (hmq0 : 0 ≤ mq) (hmq1 : mq ≤ 18446744073709551615) :
    Calls Tryd.prog 4 #[.agg (.string (strOfNums m) :: .string (strOfNums n) :: [.int .i64 k, .int .i64 ty, .int .i64 tn, .bool tz, .int .i64 th, .bool tw, .int .u64 tp, .int .u64 tq, .bool tm, .bool mw, .int .u64 mp, .int .u64 mq, .bool mm, .int .i64 gn, .bool gz, .int .i64 gh, .bool gm]).toArray] w (PAns w (impW m n (extW k ty tn th tp tq mp mq gn gh tz tw tm mw mm gz gm))) :=
  pPutImp_any w hT m n [.int .i64 k, .int .i64 ty, .int .i64 tn, .bool tz, .int .i64 th, .bool tw, .int .u64 tp, .int .u64 tq, .bool tm, .bool mw, .int .u64 mp, .int .u64 mq, .bool mm, .int .i64 gn, .bool gz, .int .i64 gh, .bool gm] (extW k ty tn th tp tq mp mq gn gh tz tw tm mw mm gz gm) hB1 hs1 hB2 hs2 (by kernel_rfl) (by kernel_rfl) (fun b B W l' hl' u => extern2 u k ty tn th tp tq mp mq gn gh tz tw tm mw mm gz gm htp0 htp1 htq0 htq1 hmp0 hmp1 hmq0 hmq1 hl')
end Go.Proofs.YtfnfbioenngjoaaDoor
