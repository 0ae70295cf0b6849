/-
  The walk of the law EntryPuts; no statement is proved here.
-/
import Derived.Test.YtfnfbioenngjoaaDoorE8r
import Derived.Test.YtfnfbioenngjoaaDoorWrL
import Derived.Test.YtfnfbioenngjoaaDoorAwk
namespace Go.Proofs.YtfnfbioenngjoaaDoor
open Go.RowKit
set_option linter.unusedVariables false
set_option linter.unusedSimpArgs false
set_option linter.constructorNameAsVariable false

set_option maxRecDepth 100000 in
set_option maxHeartbeats 2000000 in
theorem puts_any (w : World) (hT : Tab w) (m n q : List Int) (hB1 : Byt m) (hs1 : m.length ≤ 140737488351232) (hB2 : Byt n) (hs2 : n.length ≤ 140737488351232) (hB3 : Byt q) (hs3 : q.length ≤ 140737488351232) (k ty tn th tp tq mp mq gn gh : Int) (tz tw tm mw mm gz gm : Bool) (hy0 : -9223372036854775808 ≤ ty) (hy1 : ty ≤ 9223372036854775807) (hth0 : -9223372036854775808 ≤ th) (hth1 : th ≤ 9223372036854775807) (hgh0 : -9223372036854775808 ≤ gh) (hgh1 : gh ≤ 9223372036854775807) (htp0 : 0 ≤ tp) (htp1 : tp ≤ 18446744073709551615) (htq0 : 0 ≤ tq) (htq1 : tq ≤ 18446744073709551615) (hmp0 : 0 ≤ mp) (hmp1 : mp ≤ 18446744073709551615) (hmq0 : 0 ≤ mq) (hmq1 : mq ≤ 18446744073709551615) (xk xa : Int) (hx0 : 0 ≤ xa) (hx1 : xa ≤ 4294967295) :
    Calls Tryd.prog 3 #[.agg (Value.string (strOfNums m) :: .string (strOfNums n) :: [.int .i64 k, .int .i64 ty, .int .i64 tn, .bool tz, .int .i64 th, .bool tw, .int .u64 tp, .int .u64 tq, .bool tm, .bool mw, .int .u64 mp, .int .u64 mq, .bool mm, .int .i64 gn, .bool gz, .int .i64 gh, .bool gm]).toArray, .agg #[.string (strOfNums q), .int .i64 xk, .int .u32 xa]] w fun en w' => en = .returned (.bool true) ∧ Grew w w' := by
  have HT : Hid (Tab w) := hT
  have PI : Hid (∀ W : World, Tab W → Calls Tryd.prog 4 #[.agg (Value.string (strOfNums m) :: .string (strOfNums n) :: [.int .i64 k, .int .i64 ty, .int .i64 tn, .bool tz, .int .i64 th, .bool tw, .int .u64 tp, .int .u64 tq, .bool tm, .bool mw, .int .u64 mp, .int .u64 mq, .bool mm, .int .i64 gn, .bool gz, .int .i64 gh, .bool gm]).toArray] W (PAns W (impW m n (extW k ty tn th tp tq mp mq gn gh tz tw tm mw mm gz gm)))) := fun W t => pPutImp_all W t m n hB1 hs1 hB2 hs2 k ty tn th tp tq mp mq gn gh tz tw tm mw mm gz gm hy0 hy1 hth0 hth1 hgh0 hgh1 htp0 htp1 htq0 htq1 hmp0 hmp1 hmq0 hmq1
  have DI : Hid (∀ W : World, Calls Tryd.prog 5 #[.agg (Value.string (strOfNums m) :: .string (strOfNums n) :: [.int .i64 k, .int .i64 ty, .int .i64 tn, .bool tz, .int .i64 th, .bool tw, .int .u64 tp, .int .u64 tq, .bool tm, .bool mw, .int .u64 mp, .int .u64 mq, .bool mm, .int .i64 gn, .bool gz, .int .i64 gh, .bool gm]).toArray] W (PAns W (impW m n (extW k ty tn th tp tq mp mq gn gh tz tw tm mw mm gz gm)))) := fun W => dPutImp_any W m n hB1 hs1 hB2 hs2 k ty tn th tp tq mp mq gn gh tz tw tm mw mm gz gm hy0 hy1 hth0 hth1 hgh0 hgh1 htp0 htp1 htq0 htq1 hmp0 hmp1 hmq0 hmq1
  have PX : Hid (∀ W : World, Tab W → Calls Tryd.prog 7 #[.agg #[.string (strOfNums q), .int .i64 xk, .int .u32 xa]] W (PAns W (expW q xk xa))) := fun W t => pPutExp_any W t q xk xa hB3 hs3 hx0 hx1
  have DX : Hid (∀ W : World, Calls Tryd.prog 8 #[.agg #[.string (strOfNums q), .int .i64 xk, .int .u32 xa]] W (PAns W (expW q xk xa))) := fun W => dPutExp_any W q xk xa hB3 hs3 hx0 hx1
  have PT : Hid (∀ W : World, Tab W → Calls Tryd.prog 9 #[.agg #[.int .i64 tn, .bool tz, .int .i64 th, .bool tw, .int .u64 tp, .int .u64 tq, .bool tm]] W (PAns W (tabW ⟨tn, tz, th⟩ tw tp tq tm))) := fun W t => pPutTab_any W t tn th tz tw tm tp tq htp0 htp1 htq0 htq1
  have DT : Hid (∀ W : World, Calls Tryd.prog 10 #[.agg #[.int .i64 tn, .bool tz, .int .i64 th, .bool tw, .int .u64 tp, .int .u64 tq, .bool tm]] W (PAns W (tabW ⟨tn, tz, th⟩ tw tp tq tm))) := fun W => dPutTab_any W tn th tz tw tm tp tq hth0 hth1 htp0 htp1 htq0 htq1
  have PG : Hid (∀ W : World, Tab W → Calls Tryd.prog 11 #[.agg #[.int .i64 gn, .bool gz, .int .i64 gh, .bool gm]] W (PAns W (gloW ⟨gn, gz, gh⟩ gm))) := fun W t => pPutGlo_any W t gn gh gz gm
  have DG : Hid (∀ W : World, Calls Tryd.prog 12 #[.agg #[.int .i64 gn, .bool gz, .int .i64 gh, .bool gm]] W (PAns W (gloW ⟨gn, gz, gh⟩ gm))) := fun W => dPutGlo_any W gn gh gz gm hgh0 hgh1
  generalize impW m n (extW k ty tn th tp tq mp mq gn gh tz tw tm mw mm gz gm) = RI at *
  generalize expW q xk xa = RX at *
  generalize tabW ⟨tn, tz, th⟩ tw tp tq tm = RT at *
  generalize gloW ⟨gn, gz, gh⟩ gm = RG at *
  obtain ⟨is, his⟩ : ∃ is : Array Value, is = (Value.string (strOfNums m) :: .string (strOfNums n) :: [.int .i64 k, .int .i64 ty, .int .i64 tn, .bool tz, .int .i64 th, .bool tw, .int .u64 tp, .int .u64 tq, .bool tm, .bool mw, .int .u64 mp, .int .u64 mq, .bool mm, .int .i64 gn, .bool gz, .int .i64 gh, .bool gm]).toArray := ⟨_, rfl⟩
  rw [← his] at PI DI
  rw [← his]
  have hsz : (Tryd.prog.info? 34).map (·.size) = some is.size := by rw [his]; kernel_rfl
  have e4 : is[4]? = some (.int .i64 tn) := by rw [his]; rfl
  have e5 : is[5]? = some (.bool tz) := by rw [his]; rfl
  have e6 : is[6]? = some (.int .i64 th) := by rw [his]; rfl
  have e7 : is[7]? = some (.bool tw) := by rw [his]; rfl
  have e8 : is[8]? = some (.int .u64 tp) := by rw [his]; rfl
  have e9 : is[9]? = some (.int .u64 tq) := by rw [his]; rfl
  have e10 : is[10]? = some (.bool tm) := by rw [his]; rfl
  have e15 : is[15]? = some (.int .i64 gn) := by rw [his]; rfl
  have e16 : is[16]? = some (.bool gz) := by rw [his]; rfl
  have e17 : is[17]? = some (.int .i64 gh) := by rw [his]; rfl
  have e18 : is[18]? = some (.bool gm) := by rw [his]; rfl
  generalize strOfNums q = s3 at *
  have LROW : Hid (∀ W : World, W.heap[w.heap.size]? = some (.cells is 34 (0, 0)) → (loadVar 34 ⟨w.heap.size, 0, none⟩).run Tryd.prog W = .ok (.agg is) W) := fun W hW => run_loadVar_row W w.heap.size 34 34 is (0, 0) _ hW Tryd.underlying34 rfl hsz
  clear hT his hsz
  obtain ⟨w0, hw0⟩ : ∃ w0, ((w.alloc (.cells is 34)).alloc (.cells #[.string s3, .int .i64 xk, .int .u32 xa] 37)) = w0 := ⟨_, rfl⟩
  have GG0 : Hid (Grew w w0) := by rw [← hw0]; exact ((Grew.refl w).alloc _).alloc _
  have OI0 : Hid (w0.heap[w.heap.size]? = some (.cells is 34 (0, 0))) := by rw [← hw0]; exact heap_alloc (heap_alloc_last _ _) _
  have OX0 : Hid (w0.heap[w.heap.size + 1]? = some (.cells #[.string s3, .int .i64 xk, .int .u32 xa] 37 (0, 0))) := by
    rw [← hw0]
    have := heap_alloc_last (w.alloc (.cells is 34)) (.cells #[.string s3, .int .i64 xk, .int .u32 xa] 37)
    rwa [alloc_size] at this
  have L0 := LROW.out w0 OI0.out
  go_enter Tryd.func3, Tryd.ntmps3
  go_wp2_with (first
    | (refine at_load 34 rfl ?_; refine wpList_load_run (by first | rfl | simp [Region.wanted, yielded]) 34 _ rfl w.heap.size 0 rfl (.agg is) L0 ?_)
    | fail)
  refine (PI.out _ (HT.out.grew GG0.out)).mono ?_
  intro en w1 ha
  obtain ⟨Ppa, Ppe, rfl, hp1, g1⟩ := PAns.pv ha
  have Pp : Hid (PV RI w1 Ppa Ppe) := hp1
  have GG1 : Hid (Grew w w1) := GG0.out.trans g1
  have OI1 : Hid (w1.heap[w.heap.size]? = some (.cells is 34 (0, 0))) := (g1.turn []).other OI0.out (by simp)
  have OX1 : Hid (w1.heap[w.heap.size + 1]? = some (.cells #[.string s3, .int .i64 xk, .int .u32 xa] 37 (0, 0))) := (g1.turn []).other OX0.out (by simp)
  clear ha hp1 g1 GG0 OI0 OX0 L0 hw0
  have L1 := LROW.out w1 OI1.out
  go_wp2_with (first
    | (refine at_load 34 rfl ?_; refine wpList_load_run (by first | rfl | simp [Region.wanted, yielded]) 34 _ rfl w.heap.size 0 rfl (.agg is) L1 ?_)
    | fail)
  refine (DI.out _).mono ?_
  intro en w2 ha
  obtain ⟨Pda, Pde, rfl, hp2, g2⟩ := PAns.pv ha
  have Pd : Hid (PV RI w2 Pda Pde) := hp2
  have Pp : Hid (PV RI w2 Ppa Ppe) := Pp.out.grew g2
  have GG2 : Hid (Grew w w2) := GG1.out.trans g2
  have OI2 : Hid (w2.heap[w.heap.size]? = some (.cells is 34 (0, 0))) := (g2.turn []).other OI1.out (by simp)
  have OX2 : Hid (w2.heap[w.heap.size + 1]? = some (.cells #[.string s3, .int .i64 xk, .int .u32 xa] 37 (0, 0))) := (g2.turn []).other OX1.out (by simp)
  clear ha hp2 g2 GG1 OI1 OX1 L1
  go_wp2_with fail
  refine (lsame_any Pp.out Pd.out).mono ?_
  rintro en w99 ⟨rfl, h9⟩
  obtain rfl := h9.symm
  clear h9 Pp Pd
  have f0 := cell_of OX2.out 0
  have f1 := cell_of OX2.out 1
  have f2 := cell_of OX2.out 2
  simp at f0 f1 f2
  go_wp2_with fail
  refine (PX.out _ (HT.out.grew GG2.out)).mono ?_
  intro en w3 ha
  obtain ⟨Ppa, Ppe, rfl, hp3, g3⟩ := PAns.pv ha
  have Pp : Hid (PV RX w3 Ppa Ppe) := hp3
  have GG3 : Hid (Grew w w3) := GG2.out.trans g3
  have OI3 : Hid (w3.heap[w.heap.size]? = some (.cells is 34 (0, 0))) := (g3.turn []).other OI2.out (by simp)
  have OX3 : Hid (w3.heap[w.heap.size + 1]? = some (.cells #[.string s3, .int .i64 xk, .int .u32 xa] 37 (0, 0))) := (g3.turn []).other OX2.out (by simp)
  clear ha hp3 g3 GG2 OI2 OX2 f0 f1 f2
  have f0 := cell_of OX3.out 0
  have f1 := cell_of OX3.out 1
  have f2 := cell_of OX3.out 2
  simp at f0 f1 f2
  go_wp2_with fail
  refine (DX.out _).mono ?_
  intro en w4 ha
  obtain ⟨Pda, Pde, rfl, hp4, g4⟩ := PAns.pv ha
  have Pd : Hid (PV RX w4 Pda Pde) := hp4
  have Pp : Hid (PV RX w4 Ppa Ppe) := Pp.out.grew g4
  have GG4 : Hid (Grew w w4) := GG3.out.trans g4
  have OI4 : Hid (w4.heap[w.heap.size]? = some (.cells is 34 (0, 0))) := (g4.turn []).other OI3.out (by simp)
  have OX4 : Hid (w4.heap[w.heap.size + 1]? = some (.cells #[.string s3, .int .i64 xk, .int .u32 xa] 37 (0, 0))) := (g4.turn []).other OX3.out (by simp)
  clear ha hp4 g4 GG3 OI3 OX3 f0 f1 f2
  go_wp2_with fail
  refine (lsame_any Pp.out Pd.out).mono ?_
  rintro en w99 ⟨rfl, h9⟩
  obtain rfl := h9.symm
  clear h9 Pp Pd
  have f4 := (cell_of OI4.out 4).trans e4
  have f5 := (cell_of OI4.out 5).trans e5
  have f6 := (cell_of OI4.out 6).trans e6
  have f7 := (cell_of OI4.out 7).trans e7
  have f8 := (cell_of OI4.out 8).trans e8
  have f9 := (cell_of OI4.out 9).trans e9
  have f10 := (cell_of OI4.out 10).trans e10
  go_wp2_with fail
  refine (PT.out _ (HT.out.grew GG4.out)).mono ?_
  intro en w5 ha
  obtain ⟨Ppa, Ppe, rfl, hp5, g5⟩ := PAns.pv ha
  have Pp : Hid (PV RT w5 Ppa Ppe) := hp5
  have GG5 : Hid (Grew w w5) := GG4.out.trans g5
  have OI5 : Hid (w5.heap[w.heap.size]? = some (.cells is 34 (0, 0))) := (g5.turn []).other OI4.out (by simp)
  have OX5 : Hid (w5.heap[w.heap.size + 1]? = some (.cells #[.string s3, .int .i64 xk, .int .u32 xa] 37 (0, 0))) := (g5.turn []).other OX4.out (by simp)
  clear ha hp5 g5 GG4 OI4 OX4 f4 f5 f6 f7 f8 f9 f10
  have f4 := (cell_of OI5.out 4).trans e4
  have f5 := (cell_of OI5.out 5).trans e5
  have f6 := (cell_of OI5.out 6).trans e6
  have f7 := (cell_of OI5.out 7).trans e7
  have f8 := (cell_of OI5.out 8).trans e8
  have f9 := (cell_of OI5.out 9).trans e9
  have f10 := (cell_of OI5.out 10).trans e10
  go_wp2_with fail
  refine (DT.out _).mono ?_
  intro en w6 ha
  obtain ⟨Pda, Pde, rfl, hp6, g6⟩ := PAns.pv ha
  have Pd : Hid (PV RT w6 Pda Pde) := hp6
  have Pp : Hid (PV RT w6 Ppa Ppe) := Pp.out.grew g6
  have GG6 : Hid (Grew w w6) := GG5.out.trans g6
  have OI6 : Hid (w6.heap[w.heap.size]? = some (.cells is 34 (0, 0))) := (g6.turn []).other OI5.out (by simp)
  have OX6 : Hid (w6.heap[w.heap.size + 1]? = some (.cells #[.string s3, .int .i64 xk, .int .u32 xa] 37 (0, 0))) := (g6.turn []).other OX5.out (by simp)
  clear ha hp6 g6 GG5 OI5 OX5 f4 f5 f6 f7 f8 f9 f10
  go_wp2_with fail
  refine (lsame_any Pp.out Pd.out).mono ?_
  rintro en w99 ⟨rfl, h9⟩
  obtain rfl := h9.symm
  clear h9 Pp Pd
  have f15 := (cell_of OI6.out 15).trans e15
  have f16 := (cell_of OI6.out 16).trans e16
  have f17 := (cell_of OI6.out 17).trans e17
  have f18 := (cell_of OI6.out 18).trans e18
  go_wp2_with fail
  refine (PG.out _ (HT.out.grew GG6.out)).mono ?_
  intro en w7 ha
  obtain ⟨Ppa, Ppe, rfl, hp7, g7⟩ := PAns.pv ha
  have Pp : Hid (PV RG w7 Ppa Ppe) := hp7
  have GG7 : Hid (Grew w w7) := GG6.out.trans g7
  have OI7 : Hid (w7.heap[w.heap.size]? = some (.cells is 34 (0, 0))) := (g7.turn []).other OI6.out (by simp)
  have OX7 : Hid (w7.heap[w.heap.size + 1]? = some (.cells #[.string s3, .int .i64 xk, .int .u32 xa] 37 (0, 0))) := (g7.turn []).other OX6.out (by simp)
  clear ha hp7 g7 GG6 OI6 OX6 f15 f16 f17 f18
  have f15 := (cell_of OI7.out 15).trans e15
  have f16 := (cell_of OI7.out 16).trans e16
  have f17 := (cell_of OI7.out 17).trans e17
  have f18 := (cell_of OI7.out 18).trans e18
  go_wp2_with fail
  refine (DG.out _).mono ?_
  intro en w8 ha
  obtain ⟨Pda, Pde, rfl, hp8, g8⟩ := PAns.pv ha
  have Pd : Hid (PV RG w8 Pda Pde) := hp8
  have Pp : Hid (PV RG w8 Ppa Ppe) := Pp.out.grew g8
  have GG8 : Hid (Grew w w8) := GG7.out.trans g8
  have OI8 : Hid (w8.heap[w.heap.size]? = some (.cells is 34 (0, 0))) := (g8.turn []).other OI7.out (by simp)
  have OX8 : Hid (w8.heap[w.heap.size + 1]? = some (.cells #[.string s3, .int .i64 xk, .int .u32 xa] 37 (0, 0))) := (g8.turn []).other OX7.out (by simp)
  clear ha hp8 g8 GG7 OI7 OX7 f15 f16 f17 f18
  go_wp2_with fail
  refine (lsame_any Pp.out Pd.out).mono ?_
  rintro en w99 ⟨rfl, h9⟩
  obtain rfl := h9.symm
  clear h9 Pp Pd
  go_wp2_with fail
  refine (awake_any _ (HT.out.grew GG8.out)).mono ?_
  rintro en w20 ⟨rfl, g20⟩
  have G20 : Hid (Grew w w20) := GG8.out.trans g20
  clear g20
  go_wp2_with fail
  go_ret
  exact ⟨rfl, G20.out⟩
end Go.Proofs.YtfnfbioenngjoaaDoor
