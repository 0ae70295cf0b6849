/-
  The law VnumOps; no statement is proved here.
-/
import Derived.Test.YtahmjgmaaaegcaaGreatDoorVoL
namespace Go.Proofs.YtahmjgmaaaegcaaGreatDoor
open Go.RowKit
set_option linter.unusedVariables false
set_option linter.unusedSimpArgs false

theorem rise_at : ∀ (l : List Int) (j : Nat) (a b : Int), riseB l = true → l[j]? = some a → l[j + 1]? = some b → a < b
  | [], j, a, b, h, h1, h2 => by simp at h1
  | [x], j, a, b, h, h1, h2 => by simp at h2
  | x :: y :: l, 0, a, b, h, h1, h2 => by
    simp only [riseB, Bool.and_eq_true, decide_eq_true_eq] at h
    simp at h1 h2
    subst h1
    subst h2
    exact h.1
  | x :: y :: l, j + 1, a, b, h, h1, h2 => by
    simp only [riseB, Bool.and_eq_true, decide_eq_true_eq] at h
    rw [List.getElem?_cons_succ] at h1 h2
    exact rise_at (y :: l) j a b h.2 h1 h2
theorem has_stepV {op n : Int} {j : Nat} (h : VL[j]? = some n) : (VL.take (j + 1)).any (fun x => decide (x = op)) = ((VL.take j).any (fun x => decide (x = op)) || decide (n = op)) := by
  obtain ⟨h', he⟩ := List.getElem?_eq_some_iff.1 h
  rw [List.take_succ_eq_append_getElem h', he, List.any_append]
  simp
set_option maxRecDepth 100000 in
set_option maxHeartbeats 4000000 in
theorem vnumOps_any (op : Int) (h0 : -9223372036854775808 ≤ op) (h1 : op ≤ 9223372036854775807) (wa : Bool) (a1 a2 : Int) (a3 : Bool) (wb : Bool) (b1 b2 : Int) (b3 : Bool) (w : World) :
    Calls Tryz.prog 3 #[.int .i64 op, .agg #[.bool wa, .int .u64 a1, .int .u64 a2, .bool a3], .agg #[.bool wb, .int .u64 b1, .int .u64 b2, .bool b3]] w fun e w' => e = .returned (.bool true) ∧ Grew w w' := by
  have CT : Hid (∀ W, Calls Tryz.prog 6 #[.int .i64 op] W fun en w' => en = .returned (.bool (inVL op)) ∧ Grew W w') := fun W => takesKnown_any op h0 h1 W
  have CA : Hid (∀ W, Calls Tryz.prog 7 #[.agg #[.bool wa, .int .u64 a1, .int .u64 a2, .bool a3]] W fun en w' => en = .returned (adT wa) ∧ Grew W w') := fun W => addr_any wa a1 a2 a3 W
  have CB : Hid (∀ W, Calls Tryz.prog 8 #[.agg #[.bool wa, .int .u64 a1, .int .u64 a2, .bool a3]] W fun en w' => en = .returned (adT wa) ∧ Grew W w') := fun W => raddr_any wa a1 a2 a3 W
  have CL : Hid (∀ W, Calls Tryz.prog 9 #[.agg #[.bool wa, .int .u64 a1, .int .u64 a2, .bool a3], .agg #[.bool wb, .int .u64 b1, .int .u64 b2, .bool b3]] W fun en w' => en = .returned (adT (wa && wb)) ∧ Grew W w') := fun W => least_any wa a1 a2 a3 wb b1 b2 b3 W
  have CM : Hid (∀ W, Calls Tryz.prog 10 #[.agg #[.bool wa, .int .u64 a1, .int .u64 a2, .bool a3], .agg #[.bool wb, .int .u64 b1, .int .u64 b2, .bool b3]] W fun en w' => en = .returned (adT (wa && wb)) ∧ Grew W w') := fun W => rleast_any wa a1 a2 a3 wb b1 b2 b3 W
  go_enter Tryz.func3, Tryz.ntmps3
  go_wp2_with fail
  obtain ⟨w0, hw0⟩ : ∃ w0, w0 = (w.alloc (.cells #[.bool wa, .int .u64 a1, .int .u64 a2, .bool a3] 24)).alloc (.cells #[.bool wb, .int .u64 b1, .int .u64 b2, .bool b3] 24) := ⟨_, rfl⟩
  have G0 : Hid (Grew w w0) := by rw [hw0]; exact ((Grew.refl w).alloc _).alloc _
  have N0 : Hid (w0.heap[w.heap.size]? = some (.cells #[.bool wa, .int .u64 a1, .int .u64 a2, .bool a3] 24 (0, 0))) := by rw [hw0]; exact heap_alloc (heap_alloc_last _ _) _
  have N1 : Hid (w0.heap[w.heap.size + 1]? = some (.cells #[.bool wb, .int .u64 b1, .int .u64 b2, .bool b3] 24 (0, 0))) := by
    rw [hw0]
    have := heap_alloc_last (w.alloc (.cells #[.bool wa, .int .u64 a1, .int .u64 a2, .bool a3] 24)) (.cells #[.bool wb, .int .u64 b1, .int .u64 b2, .bool b3] 24)
    rw [alloc_size] at this
    exact this
  rw [← hw0]
  clear hw0
  refine (vops_any _).mono ?_
  rintro e w2 ⟨v, rfl, hv, g2⟩
  rw [VL_len] at hv
  obtain ⟨g, c, rfl, hc1, hc2, hg⟩ := row_at hv (by omega)
  have V2 : Hid (w2.ownsRow w0.heap.size 3 1 (.slice (some ⟨g, 0, none⟩) 185 c) 185 (IV VL)) := hv
  have G2 : Hid (Grew w w2) := G0.out.trans g2
  have N02 : Hid _ := (g2.turn []).other N0.out (by simp)
  have N12 : Hid _ := (g2.turn []).other N1.out (by simp)
  clear hv g2 G0 N0 N1
  go_wp2_with fail
  go_loopw [8, 9] (fun b i wx => ∃ j : Nat, j ≤ 185 ∧ i = .int .i64 j ∧ b = .bool ((VL.take j).any (fun x => decide (x = op))) ∧ Grew w2 wx) (fun _ i _ => 185 - (intOf i).toNat)
  case atStart => exact ⟨0, by omega, rfl, rfl, Grew.refl w2⟩
  case round =>
    obtain ⟨j, hj, rfl, rfl, pg⟩ := hrel
    have PG : Hid (Grew w2 wr) := pg
    by_cases hlt : j < 185
    · obtain ⟨n, hn⟩ : ∃ n, VL[j]? = some n := ⟨VL[j]'(by rw [VL_len]; exact hlt), List.getElem?_eq_getElem (by rw [VL_len]; exact hlt)⟩
      have HS : Hid ((VL.take (j + 1)).any (fun x => decide (x = op)) = ((VL.take j).any (fun x => decide (x = op)) || decide (n = op))) := has_stepV hn
      have CE : ∀ k m, VL[k]? = some m → k < 185 → wr.cell? ⟨g, k, none⟩ = some (.int .i64 m) := by
        intro k m hk hk2
        rw [pg.1.cell hg, V2.out.cellAt k (by omega)]
        unfold IV
        rw [List.getElem?_map, hk]
        rfl
      have q0 := CE j n hn hlt
      have d1 : decide ((j : Int) < 185) = true := by simp; omega
      generalize (VL.take j).any (fun x => decide (x = op)) = B at *
      have hgr : g < wr.heap.size := Nat.lt_of_lt_of_le hg pg.2
      have heq : (n == op) = decide (n = op) := rfl
      by_cases hj0 : j = 0
      · have d2 : decide ((0 : Int) < (j : Int)) = false := by simp; omega
        have d2n : decide (0 < j) = false := by simp; omega
        have m : Int := 0
        clear CE pg hn hj0
        go_wp2_with fail
        refine wp_region_ck [(g, j, .int .i64 n), (g, j, .int .i64 n)] (by kernel_rfl) (by kernel_rfl) ⟨⟨hgr, q0⟩, ⟨hgr, q0⟩, trivial⟩ ?_
        repeat (first
          | go_big_quiet_skip
          | (go_big_quiet_want
             go_big_quiet_op
             first
             | (refine ⟨.bool true, fun w' hw' => ?_, ?_⟩
                · (go_simp; done)
                go_big_quiet_on)
             | (refine ⟨.bool false, fun w' hw' => ?_, ?_⟩
                · (go_simp; done)
                go_big_quiet_on)
             | (refine ⟨.int .i64 (j : Int), fun w' hw' => ?_, ?_⟩
                · (go_simp; done)
                go_big_quiet_on)
             | go_big_quiet_on
             | (refine ⟨_, fun _ _ => rfl, ?_⟩; go_big_quiet_on)
             | (refine ⟨.int .i64 n, fun w' hw' => ?_, ?_⟩
                · (obtain ⟨_, ⟨_, hc0⟩, ⟨_, hc1⟩, _⟩ := hw'; go_simp; done)
                go_big_quiet_on)
             | (refine ⟨.int .i64 m, fun w' hw' => ?_, ?_⟩
                · (obtain ⟨_, ⟨_, hc0⟩, ⟨_, hc1⟩, _⟩ := hw'; go_simp; done)
                go_big_quiet_on)))
        refine wpQuiet_nil ?_
        rintro w6 ⟨g6, _⟩
        have G6 : Hid (Grew w2 w6) := PG.out.trans g6
        have r0 : w6.cell? ⟨g, j, none⟩ = some (.int .i64 n) := by rw [g6.1.cell hgr]; exact q0
        clear g6 q0
        cases B with
        | true =>
          go_wp2_with fail
          go_roundw
          case rel => exact ⟨j + 1, by omega, by go_num, by rw [HS.out]; rfl, G6.out⟩
          case measure => simp [intOf]; omega
        | false =>
          go_wp2_with fail
          go_roundw
          case rel => exact ⟨j + 1, by omega, by go_num, by rw [HS.out]; rfl, G6.out⟩
          case measure => simp [intOf]; omega
      · obtain ⟨i, hi⟩ : ∃ i, j = i + 1 := ⟨j - 1, by omega⟩
        obtain ⟨m, hm⟩ : ∃ m, VL[i]? = some m := ⟨VL[i]'(by rw [VL_len]; omega), List.getElem?_eq_getElem (by rw [VL_len]; omega)⟩
        have hrise := rise_at VL i m n VL_rise hm (by rw [← hi]; exact hn)
        have q1 := CE i m hm (by omega)
        have d2 : decide ((0 : Int) < (j : Int)) = true := by simp; omega
        have d2n : decide (0 < j) = true := by simp; omega
        have hw : IntKind.i64.wrap ((j : Int) - 1) = (i : Int) := by rw [wrap_id (by omega) (by omega)]; omega
        have hs : (j : Int) - 1 = (i : Int) := by omega
        have d3 : decide (n ≤ m) = false := by simp; omega
        have b1 : (i : Int) < 185 := by omega
        have b2 : (j : Int) < 185 := by omega
        clear CE pg hn hm hj0 hi hrise
        go_wp2_with fail
        refine wp_region_ck [(g, j, .int .i64 n), (g, i, .int .i64 m)] (by kernel_rfl) (by kernel_rfl) ⟨⟨hgr, q0⟩, ⟨hgr, q1⟩, trivial⟩ ?_
        repeat (first
          | go_big_quiet_skip
          | (go_big_quiet_want
             go_big_quiet_op
             first
             | (refine ⟨.bool true, fun w' hw' => ?_, ?_⟩
                · (go_simp; done)
                go_big_quiet_on)
             | (refine ⟨.bool false, fun w' hw' => ?_, ?_⟩
                · (go_simp; done)
                go_big_quiet_on)
             | (refine ⟨.int .i64 (i : Int), fun w' hw' => ?_, ?_⟩
                · (go_simp; done)
                go_big_quiet_on)
             | go_big_quiet_on
             | (refine ⟨_, fun _ _ => rfl, ?_⟩; go_big_quiet_on)
             | (refine ⟨.int .i64 n, fun w' hw' => ?_, ?_⟩
                · (obtain ⟨_, ⟨_, hc0⟩, ⟨_, hc1⟩, _⟩ := hw'; go_simp; done)
                go_big_quiet_on)
             | (refine ⟨.int .i64 m, fun w' hw' => ?_, ?_⟩
                · (obtain ⟨_, ⟨_, hc0⟩, ⟨_, hc1⟩, _⟩ := hw'; go_simp; done)
                go_big_quiet_on)))
        refine wpQuiet_nil ?_
        rintro w6 ⟨g6, _⟩
        have G6 : Hid (Grew w2 w6) := PG.out.trans g6
        have r0 : w6.cell? ⟨g, j, none⟩ = some (.int .i64 n) := by rw [g6.1.cell hgr]; exact q0
        clear g6 q0
        cases B with
        | true =>
          go_wp2_with fail
          go_roundw
          case rel => exact ⟨j + 1, by omega, by go_num, by rw [HS.out]; rfl, G6.out⟩
          case measure => simp [intOf]; omega
        | false =>
          go_wp2_with fail
          go_roundw
          case rel => exact ⟨j + 1, by omega, by go_num, by rw [HS.out]; rfl, G6.out⟩
          case measure => simp [intOf]; omega
    · have hjn : j = 185 := by omega
      have e185 : VL.take 185 = VL := by rw [← VL_len, List.take_length]
      have HB : (VL.take j).any (fun x => decide (x = op)) = inVL op := by rw [hjn, e185]; rfl
      rw [HB]
      have hd : decide ((j : Int) < 185) = false := by simp; omega
      have M0 := (pg.turn []).other N02.out (by simp)
      have M1 := (pg.turn []).other N12.out (by simp)
      have GA : Hid (Grew w wr) := G2.out.trans pg
      clear HB hjn e185 pg V2 PG N02 N12 G2
      generalize inVL op = B at *
      have r0 := cell_of M0 0
      have r1 := cell_of M0 1
      have r2 := cell_of M0 2
      have r3 := cell_of M0 3
      have t0 := cell_of M1 0
      have t1 := cell_of M1 1
      have t2 := cell_of M1 2
      have t3 := cell_of M1 3
      simp at r0 r1 r2 r3 t0 t1 t2 t3
      have hm0 := lt_of_obj M0
      have hm1 := lt_of_obj M1
      have CW : Hid (∀ W, Calls Tryz.prog 11 #[] W fun en w' => en = .returned (.bool true) ∧ Grew W w') := awakeV_any
      unfold adT TI at CA CB CL CM
      clear M0 M1
      generalize w.heap.size = b0 at *
      go_wp2_with fail
      refine wp_region_ck [(b0, 0, .bool wa), (b0, 1, .int .u64 a1), (b0, 2, .int .u64 a2), (b0, 3, .bool a3), (b0 + 1, 0, .bool wb), (b0 + 1, 1, .int .u64 b1), (b0 + 1, 2, .int .u64 b2), (b0 + 1, 3, .bool b3)] (by kernel_rfl) (by kernel_rfl) ⟨⟨hm0, r0⟩, ⟨hm0, r1⟩, ⟨hm0, r2⟩, ⟨hm0, r3⟩, ⟨hm1, t0⟩, ⟨hm1, t1⟩, ⟨hm1, t2⟩, ⟨hm1, t3⟩, trivial⟩ ?_
      repeat (first
        | go_big_quiet_skip
        | (go_big_quiet_want
           go_big_quiet_op
           first
           | (refine ⟨.bool B, fun w' hw' => ?_, ?_⟩
              · exact hw'.call (CT.out _)
              go_big_quiet_on)
           | (apply Exists.intro
              refine ⟨fun w' hw' => ?_, ?_⟩
              · exact hw'.call (CA.out _)
              go_big_quiet_on)
           | (apply Exists.intro
              refine ⟨fun w' hw' => ?_, ?_⟩
              · exact hw'.call (CB.out _)
              go_big_quiet_on)
           | (apply Exists.intro
              refine ⟨fun w' hw' => ?_, ?_⟩
              · exact hw'.call (CL.out _)
              go_big_quiet_on)
           | (apply Exists.intro
              refine ⟨fun w' hw' => ?_, ?_⟩
              · exact hw'.call (CM.out _)
              go_big_quiet_on)
           | (refine ⟨.bool true, fun w' hw' => ?_, ?_⟩
              · exact hw'.call (CW.out _)
              go_big_quiet_on)
           | (refine ⟨.bool true, fun w' hw' => ?_, ?_⟩
              · (go_simp; done)
              go_big_quiet_on)
           | go_big_quiet_on
           | (refine ⟨_, fun _ _ => rfl, ?_⟩; go_big_quiet_on)
           | (refine ⟨.agg #[.bool wa, .int .u64 a1, .int .u64 a2, .bool a3], fun w' hw' => ?_, ?_⟩
              · (obtain ⟨_, ⟨_, e0⟩, ⟨_, e1⟩, ⟨_, e2⟩, ⟨_, e3⟩, _⟩ := hw'; go_simp; done)
              go_big_quiet_on)
           | (refine ⟨.agg #[.bool wb, .int .u64 b1, .int .u64 b2, .bool b3], fun w' hw' => ?_, ?_⟩
              · (obtain ⟨_, _, _, _, _, ⟨_, e0⟩, ⟨_, e1⟩, ⟨_, e2⟩, ⟨_, e3⟩, _⟩ := hw'; go_simp; done)
              go_big_quiet_on)))
      refine wpQuiet_nil ?_
      rintro w6 ⟨g6, _⟩
      have G6 : Hid (Grew w w6) := GA.out.trans g6
      clear g6
      go_wp2_with fail
      all_goals
        go_ret
        exact ⟨rfl, G6.out⟩
end Go.Proofs.YtahmjgmaaaegcaaGreatDoor
