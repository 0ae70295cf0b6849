/-
  The table of codes: the walks of meaning and codeOf over it; no statement is proved here.
-/
import Derived.Test.YtchehejjdinifaaGreatDoorRowM
import Derived.Test.YtchehejjdinifaaGreatDoorEMR
namespace Go.Proofs.YtchehejjdinifaaGreatDoor
open Go.RowKit
set_option linter.unusedVariables false
set_option linter.unusedSimpArgs false

def CTB : Array Value := List.toArray (.int .u8 127 :: .int .i64 1 :: .int .i64 1 :: .int .u8 126 :: .int .i64 1 :: .int .i64 2 :: .int .u8 125 :: .int .i64 1 :: .int .i64 3 :: .int .u8 124 :: .int .i64 1 :: .int .i64 4 :: .int .u8 123 :: .int .i64 2 :: .int .i64 0 :: .int .u8 120 :: .int .i64 3 :: .int .i64 6 :: .int .u8 119 :: .int .i64 3 :: .int .i64 7 :: .int .u8 116 :: .int .i64 4 :: .int .i64 (-12) :: .int .u8 115 :: .int .i64 4 :: .int .i64 (-2) :: .int .u8 114 :: .int .i64 4 :: .int .i64 (-4) :: .int .u8 113 :: .int .i64 4 :: .int .i64 (-10) :: .int .u8 112 :: .int .i64 4 :: .int .i64 (-1) :: .int .u8 111 :: .int .i64 4 :: .int .i64 (-3) :: .int .u8 110 :: .int .i64 4 :: .int .i64 (-5) :: .int .u8 109 :: .int .i64 4 :: .int .i64 (-6) :: .int .u8 108 :: .int .i64 4 :: .int .i64 (-7) :: .int .u8 107 :: .int .i64 4 :: .int .i64 (-8) :: .int .u8 106 :: .int .i64 4 :: .int .i64 (-9) :: .int .u8 105 :: .int .i64 4 :: .int .i64 (-11) :: .int .u8 100 :: .int .i64 5 :: .int .i64 0 :: .int .u8 99 :: .int .i64 5 :: .int .i64 1 :: .int .u8 96 :: .int .i64 6 :: .int .i64 1 :: .int .u8 95 :: .int .i64 6 :: .int .i64 2 :: .int .u8 94 :: .int .i64 6 :: .int .i64 3 :: [])
def cRow (k : Nat) : Int × Int × Int := codeL.getD k (0, 0, 0)
theorem ct_0 (w : World) : (Instr.index 155 (.agg CTB) (.int .i64 0)).run Tryz.prog w = .ok (.agg #[.int .u8 127, .int .i64 1, .int .i64 1]) w := by kernel_rfl
theorem ct_1 (w : World) : (Instr.index 155 (.agg CTB) (.int .i64 1)).run Tryz.prog w = .ok (.agg #[.int .u8 126, .int .i64 1, .int .i64 2]) w := by kernel_rfl
theorem ct_2 (w : World) : (Instr.index 155 (.agg CTB) (.int .i64 2)).run Tryz.prog w = .ok (.agg #[.int .u8 125, .int .i64 1, .int .i64 3]) w := by kernel_rfl
theorem ct_3 (w : World) : (Instr.index 155 (.agg CTB) (.int .i64 3)).run Tryz.prog w = .ok (.agg #[.int .u8 124, .int .i64 1, .int .i64 4]) w := by kernel_rfl
theorem ct_4 (w : World) : (Instr.index 155 (.agg CTB) (.int .i64 4)).run Tryz.prog w = .ok (.agg #[.int .u8 123, .int .i64 2, .int .i64 0]) w := by kernel_rfl
theorem ct_5 (w : World) : (Instr.index 155 (.agg CTB) (.int .i64 5)).run Tryz.prog w = .ok (.agg #[.int .u8 120, .int .i64 3, .int .i64 6]) w := by kernel_rfl
theorem ct_6 (w : World) : (Instr.index 155 (.agg CTB) (.int .i64 6)).run Tryz.prog w = .ok (.agg #[.int .u8 119, .int .i64 3, .int .i64 7]) w := by kernel_rfl
theorem ct_7 (w : World) : (Instr.index 155 (.agg CTB) (.int .i64 7)).run Tryz.prog w = .ok (.agg #[.int .u8 116, .int .i64 4, .int .i64 (-12)]) w := by kernel_rfl
theorem ct_8 (w : World) : (Instr.index 155 (.agg CTB) (.int .i64 8)).run Tryz.prog w = .ok (.agg #[.int .u8 115, .int .i64 4, .int .i64 (-2)]) w := by kernel_rfl
theorem ct_9 (w : World) : (Instr.index 155 (.agg CTB) (.int .i64 9)).run Tryz.prog w = .ok (.agg #[.int .u8 114, .int .i64 4, .int .i64 (-4)]) w := by kernel_rfl
theorem ct_10 (w : World) : (Instr.index 155 (.agg CTB) (.int .i64 10)).run Tryz.prog w = .ok (.agg #[.int .u8 113, .int .i64 4, .int .i64 (-10)]) w := by kernel_rfl
theorem ct_11 (w : World) : (Instr.index 155 (.agg CTB) (.int .i64 11)).run Tryz.prog w = .ok (.agg #[.int .u8 112, .int .i64 4, .int .i64 (-1)]) w := by kernel_rfl
theorem ct_12 (w : World) : (Instr.index 155 (.agg CTB) (.int .i64 12)).run Tryz.prog w = .ok (.agg #[.int .u8 111, .int .i64 4, .int .i64 (-3)]) w := by kernel_rfl
theorem ct_13 (w : World) : (Instr.index 155 (.agg CTB) (.int .i64 13)).run Tryz.prog w = .ok (.agg #[.int .u8 110, .int .i64 4, .int .i64 (-5)]) w := by kernel_rfl
theorem ct_14 (w : World) : (Instr.index 155 (.agg CTB) (.int .i64 14)).run Tryz.prog w = .ok (.agg #[.int .u8 109, .int .i64 4, .int .i64 (-6)]) w := by kernel_rfl
theorem ct_15 (w : World) : (Instr.index 155 (.agg CTB) (.int .i64 15)).run Tryz.prog w = .ok (.agg #[.int .u8 108, .int .i64 4, .int .i64 (-7)]) w := by kernel_rfl
theorem ct_16 (w : World) : (Instr.index 155 (.agg CTB) (.int .i64 16)).run Tryz.prog w = .ok (.agg #[.int .u8 107, .int .i64 4, .int .i64 (-8)]) w := by kernel_rfl
theorem ct_17 (w : World) : (Instr.index 155 (.agg CTB) (.int .i64 17)).run Tryz.prog w = .ok (.agg #[.int .u8 106, .int .i64 4, .int .i64 (-9)]) w := by kernel_rfl
theorem ct_18 (w : World) : (Instr.index 155 (.agg CTB) (.int .i64 18)).run Tryz.prog w = .ok (.agg #[.int .u8 105, .int .i64 4, .int .i64 (-11)]) w := by kernel_rfl
theorem ct_19 (w : World) : (Instr.index 155 (.agg CTB) (.int .i64 19)).run Tryz.prog w = .ok (.agg #[.int .u8 100, .int .i64 5, .int .i64 0]) w := by kernel_rfl
theorem ct_20 (w : World) : (Instr.index 155 (.agg CTB) (.int .i64 20)).run Tryz.prog w = .ok (.agg #[.int .u8 99, .int .i64 5, .int .i64 1]) w := by kernel_rfl
theorem ct_21 (w : World) : (Instr.index 155 (.agg CTB) (.int .i64 21)).run Tryz.prog w = .ok (.agg #[.int .u8 96, .int .i64 6, .int .i64 1]) w := by kernel_rfl
theorem ct_22 (w : World) : (Instr.index 155 (.agg CTB) (.int .i64 22)).run Tryz.prog w = .ok (.agg #[.int .u8 95, .int .i64 6, .int .i64 2]) w := by kernel_rfl
theorem ct_23 (w : World) : (Instr.index 155 (.agg CTB) (.int .i64 23)).run Tryz.prog w = .ok (.agg #[.int .u8 94, .int .i64 6, .int .i64 3]) w := by kernel_rfl
theorem ct_idx (k : Nat) (hk : k < 24) (w : World) : (Instr.index 155 (.agg CTB) (.int .i64 (k : Int))).run Tryz.prog w = .ok (.agg #[.int .u8 (cRow k).1, .int .i64 (cRow k).2.1, .int .i64 (cRow k).2.2]) w := by
  have h : k = 0 ∨ k = 1 ∨ k = 2 ∨ k = 3 ∨ k = 4 ∨ k = 5 ∨ k = 6 ∨ k = 7 ∨ k = 8 ∨ k = 9 ∨ k = 10 ∨ k = 11 ∨ k = 12 ∨ k = 13 ∨ k = 14 ∨ k = 15 ∨ k = 16 ∨ k = 17 ∨ k = 18 ∨ k = 19 ∨ k = 20 ∨ k = 21 ∨ k = 22 ∨ k = 23 := by omega
  rcases h with rfl | rfl | rfl | rfl | rfl | rfl | rfl | rfl | rfl | rfl | rfl | rfl | rfl | rfl | rfl | rfl | rfl | rfl | rfl | rfl | rfl | rfl | rfl | rfl
  · exact ct_0 w
  · exact ct_1 w
  · exact ct_2 w
  · exact ct_3 w
  · exact ct_4 w
  · exact ct_5 w
  · exact ct_6 w
  · exact ct_7 w
  · exact ct_8 w
  · exact ct_9 w
  · exact ct_10 w
  · exact ct_11 w
  · exact ct_12 w
  · exact ct_13 w
  · exact ct_14 w
  · exact ct_15 w
  · exact ct_16 w
  · exact ct_17 w
  · exact ct_18 w
  · exact ct_19 w
  · exact ct_20 w
  · exact ct_21 w
  · exact ct_22 w
  · exact ct_23 w
theorem code_drop (k : Nat) (hk : k < 24) : codeL.drop k = cRow k :: codeL.drop (k + 1) := by
  have hl : k < codeL.length := hk
  rw [List.drop_eq_getElem_cons hl]
  unfold cRow
  rw [List.getD_eq_getElem?_getD, List.getElem?_eq_getElem hl]
  rfl
/- The table of codes stands as its text lays it. -/
def Tab (w : World) : Prop := ∀ (j : Nat) (v : Value), CTB[j]? = some v → w.cell? ⟨0, j, none⟩ = some v
theorem Tab.pos {w : World} (h : Tab w) : 0 < w.heap.size := block_lt_of_cell (h 0 (.int .u8 127) rfl)
theorem Tab.grew {w w' : World} (h : Tab w) (g : Grew w w') : Tab w' := fun j v hj => by rw [g.1.cell h.pos]; exact h j v hj
theorem Tab.turn {w w' : World} {S : List Nat} (h : Tab w) (t : Turn S w w') (hS : 0 ∉ S) : Tab w' := fun j v hj => by
  rw [← h j v hj]
  exact World.cell?_of_block (w := w) (a := ⟨0, j, none⟩) (t.block _ h.pos hS)
theorem Tab.tb {w w' : World} {b B : Nat} (h : Tab w) (t : TB b B w w') (hb : 0 ≠ b) (hB : 0 < B) : Tab w' := fun j v hj => by
  rw [← h j v hj]
  exact World.cell?_of_block (w := w) (a := ⟨0, j, none⟩) (t.block _ h.pos hb hB)
theorem isAgg_of {P : Program} {w : World} {ty e : TypeId} {n : Nat} (hu : P.underlying ty = some (.array n e)) : (isAgg ty).run P w = .ok true w := by
  simp [isAgg, run_underlying hu]
theorem wpList_load_glob {P : Program} {ops : Array Oper} {rest : List Oper} {o : Oper} {a : Act} {w : World} {Q : Exit → Act → World → Prop} (hgd : o.guard = none) (ty : TypeId) (g : Nat) (ho : o.op = .load ty (.global g))
    (cells : Array Value) (n : Nat) (e : TypeId) (hu : P.underlying ty = some (.array n e)) (hz : (sizeOf ty).run P w = .ok cells.size w) (hc : ∀ (j : Nat) (v : Value), cells[j]? = some v → w.cell? ⟨g, j, none⟩ = some v)
    (h : wpList P ops Q rest (a.put o.dst (.agg cells)) w) : wpList P ops Q (o :: rest) a w :=
  wpList_plain hgd fun _ hK => by
    have hl := run_loadCells_list (P := P) w ⟨g, 0, none⟩ cells.toList (fun j v hv => by
      have hadd : (⟨g, 0, none⟩ : Addr).add j = ⟨g, j, none⟩ := by unfold Addr.add; split <;> simp_all
      rw [hadd]
      exact hc j v (by simpa using hv))
    have hl2 : (loadCells ⟨g, 0, none⟩ cells.size).run P w = .ok cells w := by simpa using hl
    have hv : (Instr.loadAt ty (.pointer (some ⟨g, 0, none⟩))).run P w = .ok (.agg cells) w := by
      simp only [Instr.loadAt, Instr.sureAddr, Sem.run_bind, Sem.run_pure, Result.andThen, loadVar, isAgg_of hu, if_true, hz, hl2]
    unfold Oper.wp execOp
    have he : a.eval (.global g) = .pointer (some ⟨g, 0, none⟩) := rfl
    simp only [ho, he, Sem.run_bind, Result.andThen_ok, hv]
    exact hK _ _ h
set_option maxRecDepth 100000 in
set_option maxHeartbeats 1000000 in
theorem meaning_any (c : Int) (w : World) (hT : Tab w) :
    Calls Tryz.prog 73 #[.int .u8 c] w fun e w' => e = .returned (.tuple #[.int .i64 (mean c).1, .int .i64 (mean c).2]) ∧ Grew w w' := by
  have HT : Hid (Tab w) := hT
  obtain ⟨M, hM⟩ : ∃ M, M = mean c := ⟨_, rfl⟩
  rw [← hM]
  have HM : Hid (M = findC c codeL) := hM
  clear hT hM
  go_enter Tryz.func73, Tryz.ntmps73
  go_wp2_with (refine wpList_load_glob rfl 155 0 rfl CTB 24 154 Tryz.underlying155 (by kernel_rfl) HT.out ?_)
  go_loopw [7] (fun n_ wr => ∃ k : Nat, n_ = .int .i64 k ∧ k ≤ 24 ∧ Hid (Grew w wr) ∧ Hid (M = findC c (codeL.drop k))) (fun n_ _ => 24 - (intOf n_).toNat)
  case atStart => exact ⟨0, rfl, by omega, Grew.refl _, HM⟩
  case round =>
    obtain ⟨k, rfl, hk, GR, HR⟩ := hrel
    by_cases h24 : k < 24
    · have ci := ct_idx k h24
      have HD := HR.out
      rw [code_drop k h24] at HD
      obtain ⟨x, y, z, hx⟩ : ∃ x y z, cRow k = (x, y, z) := ⟨_, _, _, rfl⟩
      rw [hx] at ci HD
      simp only at ci
      have d1 : decide ((k : Int) < 24) = true := by simp; omega
      by_cases hc : x = c
      · have he : M = (y, z) := by rw [HD, findC, if_pos hc]
        have HE : Hid (M = (y, z)) := he
        clear he
        have hc' : (x == c) = true := by simpa using hc
        clear hx HD HR
        go_wp2_with fail
        go_quiet (fail)
        go_wp2_with fail
        go_ret2
        go_light
        refine ⟨?_, ?_⟩
        · rw [HE.out]; rfl
        · exact (GR.out.alloc _).drewN _
      · have he : M = findC c (codeL.drop (k + 1)) := by rw [HD, findC, if_neg hc]
        have HE : Hid (M = findC c (codeL.drop (k + 1))) := he
        clear he
        have hc' : (x == c) = false := by simpa using hc
        clear hx HD HR
        go_wp2_with fail
        go_roundw
        case rel => exact ⟨k + 1, by go_num, by omega, by first | exact GR.out | exact GR.out.alloc _, HE⟩
        case measure => simp [intOf]; omega
    · have h : k = 24 := by omega
      have d1 : decide ((k : Int) < 24) = false := by simp; omega
      have he : M = (0, 0) := by rw [HR.out, h]; rfl
      have HE : Hid (M = (0, 0)) := he
      clear he h
      go_wp2_with fail
      go_ret2
      go_light
      refine ⟨?_, ?_⟩
      · rw [HE.out]; rfl
      · first | exact GR.out | exact GR.out.alloc _
set_option maxRecDepth 100000 in
set_option maxHeartbeats 1000000 in
theorem codeOf_any (kd n : Int) (w : World) (hT : Tab w) :
    Calls Tryz.prog 91 #[.int .i64 kd, .int .i64 n] w fun e w' => e = .returned (.tuple #[.int .u8 ((codeW kd n).getD 0), .bool (codeW kd n).isSome]) ∧ Grew w w' := by
  have HT : Hid (Tab w) := hT
  obtain ⟨M, hM⟩ : ∃ M, M = codeW kd n := ⟨_, rfl⟩
  rw [← hM]
  have HM : Hid (M = findW kd n codeL) := hM
  clear hT hM
  go_enter Tryz.func91, Tryz.ntmps91
  go_wp2_with (refine wpList_load_glob rfl 155 0 rfl CTB 24 154 Tryz.underlying155 (by kernel_rfl) HT.out ?_)
  go_loopw [9] (fun n_ wr => ∃ k : Nat, n_ = .int .i64 k ∧ k ≤ 24 ∧ Hid (Grew w wr) ∧ Hid (M = findW kd n (codeL.drop k))) (fun n_ _ => 24 - (intOf n_).toNat)
  case atStart => exact ⟨0, rfl, by omega, Grew.refl _, HM⟩
  case round =>
    obtain ⟨k, rfl, hk, GR, HR⟩ := hrel
    by_cases h24 : k < 24
    · have ci := ct_idx k h24
      have HD := HR.out
      rw [code_drop k h24] at HD
      obtain ⟨x, y, z, hx⟩ : ∃ x y z, cRow k = (x, y, z) := ⟨_, _, _, rfl⟩
      rw [hx] at ci HD
      simp only at ci
      have d1 : decide ((k : Int) < 24) = true := by simp; omega
      by_cases hy : y = kd
      · have hy' : (y == kd) = true := by simpa using hy
        by_cases hz : z = n
        · have hz' : (z == n) = true := by simpa using hz
          have he : M = some x := by rw [HD, findW, if_pos ⟨hy, hz⟩]
          have HE : Hid (M = some x) := he
          clear he
          clear hx HD HR hy hz
          go_wp2_with fail
          go_ret2
          go_light
          refine ⟨?_, ?_⟩
          · rw [HE.out]; rfl
          · exact GR.out.alloc _
        · have hz' : (z == n) = false := by simpa using hz
          have he : M = findW kd n (codeL.drop (k + 1)) := by rw [HD, findW, if_neg (fun h => hz h.2)]
          have HE : Hid (M = findW kd n (codeL.drop (k + 1))) := he
          clear he
          clear hx HD HR hy hz
          go_wp2_with fail
          go_roundw
          case rel => exact ⟨k + 1, by go_num, by omega, GR.out.alloc _, HE⟩
          case measure => simp [intOf]; omega
      · have hy' : (y == kd) = false := by simpa using hy
        have he : M = findW kd n (codeL.drop (k + 1)) := by rw [HD, findW, if_neg (fun h => hy h.1)]
        have HE : Hid (M = findW kd n (codeL.drop (k + 1))) := he
        clear he
        clear hx HD HR hy
        go_wp2_with fail
        go_roundw
        case rel => exact ⟨k + 1, by go_num, by omega, GR.out.alloc _, HE⟩
        case measure => simp [intOf]; omega
    · have h : k = 24 := by omega
      have d1 : decide ((k : Int) < 24) = false := by simp; omega
      have he : M = none := by rw [HR.out, h]; rfl
      have HE : Hid (M = none) := he
      clear he h
      go_wp2_with fail
      go_ret2
      go_light
      refine ⟨?_, ?_⟩
      · rw [HE.out]; rfl
      · exact GR.out
end Go.Proofs.YtchehejjdinifaaGreatDoor
