/-
  vnum's Ops, Least, and the law VnumOps; no statement is proved here.
-/
import Derived.Test.YtahmjgmaaaegcaaGreatDoorVoO
namespace Go.Proofs.YtahmjgmaaaegcaaGreatDoor
open Go.RowKit
set_option linter.unusedVariables false
set_option linter.unusedSimpArgs false

set_option maxRecDepth 100000 in
set_option maxHeartbeats 2000000 in
theorem least_any (wa : Bool) (a1 a2 : Int) (a3 : Bool) (wb : Bool) (b1 b2 : Int) (b3 : Bool) (w : World) : Calls Tryz.prog 9 #[.agg #[.bool wa, .int .u64 a1, .int .u64 a2, .bool a3], .agg #[.bool wb, .int .u64 b1, .int .u64 b2, .bool b3]] w fun en w' => en = .returned (adT (wa && wb)) ∧ Grew w w' := by
  have C1 : Hid (∀ wd a b h W, Calls Tryz.prog 7 #[.agg #[.bool wd, .int .u64 a, .int .u64 b, .bool h]] W fun en w' => en = .returned (adT wd) ∧ Grew W w') := addr_any
  unfold adT TI at C1
  cases wa <;> cases wb
  all_goals
    go_enter Tryz.func9, Tryz.ntmps9
    go_wp2_with fail
    refine (C1.out _ _ _ _ _).mono ?_
    rintro e w1 ⟨rfl, g1⟩
    obtain ⟨gg, hl, n0, n1, n2, z0, z1, z2⟩ := vfresh3 g1
    have G1 : Hid (Grew w w1) := (((Grew.refl w).alloc _).alloc _).trans gg
    clear g1 gg C1
    rw [alloc_size, alloc_size] at *
    go_wp2_with fail
    first
    | (refine bodyPost_ret (v := TI 1) (by simp [adT, TI, results, Tryz.results9, go_sem, n0, n1, n2]) rfl ?_
       exact ⟨rfl, ((G1.out.set (p := ⟨w.heap.size + 1 + 1, 0, none⟩) (by simp; omega) _).set (p := ⟨w.heap.size + 1 + 1, 1, none⟩) (by simp; omega) _).set (p := ⟨w.heap.size + 1 + 1, 2, none⟩) (by simp; omega) _⟩)
    | (refine bodyPost_ret (v := TI 2) (by simp [adT, TI, results, Tryz.results9, go_sem, n0, n1, n2]) rfl ?_
       exact ⟨rfl, ((G1.out.set (p := ⟨w.heap.size + 1 + 1, 0, none⟩) (by simp; omega) _).set (p := ⟨w.heap.size + 1 + 1, 1, none⟩) (by simp; omega) _).set (p := ⟨w.heap.size + 1 + 1, 2, none⟩) (by simp; omega) _⟩)
set_option maxRecDepth 100000 in
set_option maxHeartbeats 2000000 in
theorem rleast_any (wa : Bool) (a1 a2 : Int) (a3 : Bool) (wb : Bool) (b1 b2 : Int) (b3 : Bool) (w : World) : Calls Tryz.prog 10 #[.agg #[.bool wa, .int .u64 a1, .int .u64 a2, .bool a3], .agg #[.bool wb, .int .u64 b1, .int .u64 b2, .bool b3]] w fun en w' => en = .returned (adT (wa && wb)) ∧ Grew w w' := by
  have C1 : Hid (∀ n W, Calls Tryz.prog 26 #[.int .i64 n] W fun en w' => en = .returned (TI n) ∧ Grew W w') := rnum_any
  unfold TI at C1
  cases wa <;> cases wb
  all_goals
    go_enter Tryz.func10, Tryz.ntmps10
    go_wp2_with fail
    refine (C1.out _ _).mono ?_
    rintro e w1 ⟨rfl, g1⟩
    obtain ⟨gg, hl, n0, n1, n2, z0, z1, z2⟩ := vfresh3 g1
    have G1 : Hid (Grew w w1) := (((Grew.refl w).alloc _).alloc _).trans gg
    clear g1 gg C1
    rw [alloc_size, alloc_size] at *
    go_wp2_with fail
    first
    | (refine bodyPost_ret (v := TI 1) (by simp [adT, TI, results, Tryz.results10, go_sem, n0, n1, n2]) rfl ?_
       exact ⟨rfl, ((G1.out.set (p := ⟨w.heap.size + 1 + 1, 0, none⟩) (by simp; omega) _).set (p := ⟨w.heap.size + 1 + 1, 1, none⟩) (by simp; omega) _).set (p := ⟨w.heap.size + 1 + 1, 2, none⟩) (by simp; omega) _⟩)
    | (refine bodyPost_ret (v := TI 2) (by simp [adT, TI, results, Tryz.results10, go_sem, n0, n1, n2]) rfl ?_
       exact ⟨rfl, ((G1.out.set (p := ⟨w.heap.size + 1 + 1, 0, none⟩) (by simp; omega) _).set (p := ⟨w.heap.size + 1 + 1, 1, none⟩) (by simp; omega) _).set (p := ⟨w.heap.size + 1 + 1, 2, none⟩) (by simp; omega) _⟩)
set_option maxRecDepth 100000 in
set_option maxHeartbeats 2000000 in
theorem awakeV_any (w : World) : Calls Tryz.prog 11 #[] w fun en w' => en = .returned (.bool true) ∧ Grew w w' := by
  have C1 : Hid (∀ W, Calls Tryz.prog 7 #[.agg #[.bool true, .int .u64 0, .int .u64 0, .bool false]] W fun en w' => en = .returned (adT true) ∧ Grew W w') := fun W => addr_any true 0 0 false W
  unfold adT TI at C1
  go_enter Tryz.func11, Tryz.ntmps11
  go_wp2_with fail
  refine (C1.out _).mono ?_
  rintro e w1 ⟨rfl, g1⟩
  have G1 : Hid (Grew w w1) := g1
  clear g1 C1
  go_wp2_with fail
  go_ret
  exact ⟨rfl, G1.out⟩
theorem neq_fn (n : Nat) (w : World) : (binOp .neq 55 (.func (.func n) #[] #[]) .nilFunc).run Tryz.prog w = .ok (.bool true) w := by kernel_rfl
theorem neq_fn0 (w : World) : (binOp .neq 55 .nilFunc .nilFunc).run Tryz.prog w = .ok (.bool false) w := by kernel_rfl
theorem OL_bnd : ∀ x ∈ OL, 0 ≤ grpF x ∧ grpF x ≤ 70000 := by decide +kernel
set_option maxRecDepth 100000 in
set_option maxHeartbeats 4000000 in
theorem vops_any (w : World) : Calls Tryz.prog 5 #[] w fun e w' => ∃ v, e = .returned v ∧ w'.ownsRow w.heap.size 3 1 v VL.length (IV VL) ∧ Grew w w' := by
  have hn1 := neq_fn
  have hn0 := neq_fn0
  go_enter Tryz.func5, Tryz.ntmps5
  go_wp2_with fail
  refine (steps_any _).mono ?_
  rintro e w1 ⟨rfl, S1, g1⟩
  have HS1 : Hid (StM 25 w1 w.heap.size) := S1
  have G1 : Hid (Grew w w1) := g1
  clear S1 g1
  go_wp2_with fail
  refine (ops_any _).mono ?_
  rintro e w2 ⟨v, rfl, hv, g2⟩
  rw [OL_len] at hv
  obtain ⟨g, c, rfl, hc1, hc2, hg⟩ := row_at hv (by omega)
  have V2 : Hid (w2.ownsRow w1.heap.size 3 1 (.slice (some ⟨g, 0, none⟩) 243 c) 243 (IV OL)) := hv
  have HS2 : Hid (StM 25 w2 w.heap.size) := HS1.out.grew g2
  have G2 : Hid (Grew w w2) := G1.out.trans g2
  clear hv g2 HS1 G1
  go_wp2_with fail
  go_loopw [1, 8] (fun s i wx => ∃ k : Nat, k ≤ 243 ∧ i = .int .i64 k ∧ wx.ownsRow w2.heap.size 3 1 s ((OL.take k).filter vkeep).length (IV ((OL.take k).filter vkeep)) ∧ Grew w2 wx) (fun _ i _ => 243 - (intOf i).toNat)
  case atStart => exact ⟨0, by omega, rfl, World.ownsRow_nil _ _ _ _, Grew.refl w2⟩
  case round =>
    obtain ⟨k, hk, rfl, p0, pg⟩ := hrel
    have P0 : Hid (wr.ownsRow w2.heap.size 3 1 u1 ((OL.take k).filter vkeep).length (IV ((OL.take k).filter vkeep))) := p0
    have PG : Hid (Grew w2 wr) := pg
    by_cases hlt : k < 243
    · obtain ⟨n, hn⟩ : ∃ n, OL[k]? = some n := ⟨OL[k]'(by rw [OL_len]; exact hlt), List.getElem?_eq_getElem (by rw [OL_len]; exact hlt)⟩
      have q0 : wr.cell? ⟨g, k, none⟩ = some (.int .i64 n) := by
        rw [pg.1.cell hg, V2.out.cellAt k (by omega)]
        unfold IV
        rw [List.getElem?_map, hn]
        rfl
      have d1 : decide ((k : Int) < 243) = true := by simp; omega
      have hgr : g < wr.heap.size := Nat.lt_of_lt_of_le hg pg.2
      have hT : Hid (OL.take (k + 1) = OL.take k ++ [n]) := by
        obtain ⟨h', he⟩ := List.getElem?_eq_some_iff.1 hn
        show OL.take (k + 1) = OL.take k ++ [n]
        rw [List.take_succ_eq_append_getElem h', he]
      have hb := OL_bnd n (List.mem_of_getElem? hn)
      have hwf : (Lit.int .i64 (grpF n)).wf = true := by simp [Lit.wf, IntKind.min, IntKind.max, IntKind.signed, IntKind.bits]; omega
      obtain ⟨fv, hfv, hrun⟩ := lookS_run (HS2.out.grew pg) hwf
      have hsub := VL_sub (k + 1)
      have hsub0 := VL_sub k
      have HR : Hid ((Instr.lookup 53 (.map (some w.heap.size)) (.int .i64 (grpF n)) false).run Tryz.prog wr = .ok fv wr) := hrun
      have C1 := group_any n wr
      obtain ⟨A, hA⟩ : ∃ A, (OL.take k).filter vkeep = A := ⟨_, rfl⟩
      have HA : Hid ((OL.take k).filter vkeep = A) := hA
      rw [hA] at P0 p0 hsub0
      obtain ⟨ua, uc, hu1⟩ := row_one p0
      subst hu1
      have hstep : vkeep n = decide (stepF (grpF n) ≠ -1) := rfl
      have HST : Hid (vkeep n = decide (stepF (grpF n) ≠ -1)) := hstep
      clear hn hA hb hwf hrun hsub hstep V2 HS2
      generalize grpF n = gn at *
      go_wp2_with fail
      refine C1.mono ?_
      rintro en wX ⟨rfl, hwX⟩
      obtain rfl := hwX.symm
      clear hwX C1
      have hrun := HR.out
      rcases hfv with ⟨hm, rfl⟩ | ⟨fnn, hm, rfl⟩
      · go_wp2_with fail
        go_roundw
        case rel =>
          refine ⟨k + 1, by omega, by go_num, ?_, PG.out⟩
          rw [hT.out, List.filter_append, HA.out]
          have : [n].filter vkeep = [] := by simp [HST.out, hm]
          rw [this, List.append_nil]
          exact P0.out
        case measure => simp [intOf]; omega
      · have hl2 : w2.heap.size ≤ wr.heap.size := PG.out.2
        clear hrun
        have hrun := HR.out
        go_wp2_with (at_builtin; refine wp_app1 rfl (.tmp 17) (.tmp 19) 25 3 1 8 (.int .i64 0) Tryz.underlying25 (by kernel_rfl) rfl (by decide) (by decide) rfl w2.heap.size rfl rfl P0.out (by omega) rfl (by intro u hu; simp at hu; subst hu; rfl) (by omega) ?_; intro v' w' hv' ht' hb')
        go_roundw
        case rel =>
          refine ⟨k + 1, by omega, by go_num, ?_, grew_tb PG.out ht' (Nat.le_refl _) (Nat.le_refl _)⟩
          rw [hT.out, List.filter_append, HA.out]
          have : [n].filter vkeep = [n] := by simp [HST.out, hm]
          rw [this, List.length_append, IV, List.map_append]
          exact hv'
        case measure => simp [intOf]; omega
    · obtain rfl : k = 243 := by omega
      have e243 : OL.take 243 = OL := by rw [← OL_len, List.take_length]
      rw [e243] at P0
      rw [e243] at p0
      obtain ⟨ua, uc, hu1⟩ := row_one p0
      subst hu1
      have PP : Hid (wr.ownsRow w2.heap.size 3 1 (.slice ua (OL.filter vkeep).length uc) VL.length (IV VL)) := P0.out
      clear p0 pg e243 hn1 hn0 P0
      go_wp2_with fail
      go_ret
      exact ⟨_, rfl, row_low PP.out G2.out.2, G2.out.trans PG.out⟩
end Go.Proofs.YtahmjgmaaaegcaaGreatDoor
