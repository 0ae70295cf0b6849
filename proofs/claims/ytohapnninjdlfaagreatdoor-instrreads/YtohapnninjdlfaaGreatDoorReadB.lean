/-
  The walks of the readers of signed numbers, within bounds; no statement is proved here.
-/
import Derived.Test.YtohapnninjdlfaaGreatDoorRowM
import Derived.Test.YtohapnninjdlfaaGreatDoorInM
import Derived.Outline
namespace Go.Proofs.YtohapnninjdlfaaGreatDoor
open Go.RowKit
set_option linter.unusedVariables false
set_option linter.unusedSimpArgs false

def CTB : Array Value := List.toArray (.int .u8 127 :: .int .i64 1 :: .int .i64 1 :: .int .u8 126 :: .int .i64 1 :: .int .i64 2 :: .int .u8 125 :: .int .i64 1 :: .int .i64 3 :: .int .u8 124 :: .int .i64 1 :: .int .i64 4 :: .int .u8 123 :: .int .i64 2 :: .int .i64 0 :: .int .u8 120 :: .int .i64 3 :: .int .i64 6 :: .int .u8 119 :: .int .i64 3 :: .int .i64 7 :: .int .u8 116 :: .int .i64 4 :: .int .i64 (-12) :: .int .u8 115 :: .int .i64 4 :: .int .i64 (-2) :: .int .u8 114 :: .int .i64 4 :: .int .i64 (-4) :: .int .u8 113 :: .int .i64 4 :: .int .i64 (-10) :: .int .u8 112 :: .int .i64 4 :: .int .i64 (-1) :: .int .u8 111 :: .int .i64 4 :: .int .i64 (-3) :: .int .u8 110 :: .int .i64 4 :: .int .i64 (-5) :: .int .u8 109 :: .int .i64 4 :: .int .i64 (-6) :: .int .u8 108 :: .int .i64 4 :: .int .i64 (-7) :: .int .u8 107 :: .int .i64 4 :: .int .i64 (-8) :: .int .u8 106 :: .int .i64 4 :: .int .i64 (-9) :: .int .u8 105 :: .int .i64 4 :: .int .i64 (-11) :: .int .u8 100 :: .int .i64 5 :: .int .i64 0 :: .int .u8 99 :: .int .i64 5 :: .int .i64 1 :: .int .u8 96 :: .int .i64 6 :: .int .i64 1 :: .int .u8 95 :: .int .i64 6 :: .int .i64 2 :: .int .u8 94 :: .int .i64 6 :: .int .i64 3 :: [])
def cRow (k : Nat) : Int × Int × Int := codeL.getD k (0, 0, 0)
theorem ct_0 (w : World) : (Instr.index 183 (.agg CTB) (.int .i64 0)).run Tryz.prog w = .ok (.agg #[.int .u8 127, .int .i64 1, .int .i64 1]) w := by kernel_rfl
theorem ct_1 (w : World) : (Instr.index 183 (.agg CTB) (.int .i64 1)).run Tryz.prog w = .ok (.agg #[.int .u8 126, .int .i64 1, .int .i64 2]) w := by kernel_rfl
theorem ct_2 (w : World) : (Instr.index 183 (.agg CTB) (.int .i64 2)).run Tryz.prog w = .ok (.agg #[.int .u8 125, .int .i64 1, .int .i64 3]) w := by kernel_rfl
theorem ct_3 (w : World) : (Instr.index 183 (.agg CTB) (.int .i64 3)).run Tryz.prog w = .ok (.agg #[.int .u8 124, .int .i64 1, .int .i64 4]) w := by kernel_rfl
theorem ct_4 (w : World) : (Instr.index 183 (.agg CTB) (.int .i64 4)).run Tryz.prog w = .ok (.agg #[.int .u8 123, .int .i64 2, .int .i64 0]) w := by kernel_rfl
theorem ct_5 (w : World) : (Instr.index 183 (.agg CTB) (.int .i64 5)).run Tryz.prog w = .ok (.agg #[.int .u8 120, .int .i64 3, .int .i64 6]) w := by kernel_rfl
theorem ct_6 (w : World) : (Instr.index 183 (.agg CTB) (.int .i64 6)).run Tryz.prog w = .ok (.agg #[.int .u8 119, .int .i64 3, .int .i64 7]) w := by kernel_rfl
theorem ct_7 (w : World) : (Instr.index 183 (.agg CTB) (.int .i64 7)).run Tryz.prog w = .ok (.agg #[.int .u8 116, .int .i64 4, .int .i64 (-12)]) w := by kernel_rfl
theorem ct_8 (w : World) : (Instr.index 183 (.agg CTB) (.int .i64 8)).run Tryz.prog w = .ok (.agg #[.int .u8 115, .int .i64 4, .int .i64 (-2)]) w := by kernel_rfl
theorem ct_9 (w : World) : (Instr.index 183 (.agg CTB) (.int .i64 9)).run Tryz.prog w = .ok (.agg #[.int .u8 114, .int .i64 4, .int .i64 (-4)]) w := by kernel_rfl
theorem ct_10 (w : World) : (Instr.index 183 (.agg CTB) (.int .i64 10)).run Tryz.prog w = .ok (.agg #[.int .u8 113, .int .i64 4, .int .i64 (-10)]) w := by kernel_rfl
theorem ct_11 (w : World) : (Instr.index 183 (.agg CTB) (.int .i64 11)).run Tryz.prog w = .ok (.agg #[.int .u8 112, .int .i64 4, .int .i64 (-1)]) w := by kernel_rfl
theorem ct_12 (w : World) : (Instr.index 183 (.agg CTB) (.int .i64 12)).run Tryz.prog w = .ok (.agg #[.int .u8 111, .int .i64 4, .int .i64 (-3)]) w := by kernel_rfl
theorem ct_13 (w : World) : (Instr.index 183 (.agg CTB) (.int .i64 13)).run Tryz.prog w = .ok (.agg #[.int .u8 110, .int .i64 4, .int .i64 (-5)]) w := by kernel_rfl
theorem ct_14 (w : World) : (Instr.index 183 (.agg CTB) (.int .i64 14)).run Tryz.prog w = .ok (.agg #[.int .u8 109, .int .i64 4, .int .i64 (-6)]) w := by kernel_rfl
theorem ct_15 (w : World) : (Instr.index 183 (.agg CTB) (.int .i64 15)).run Tryz.prog w = .ok (.agg #[.int .u8 108, .int .i64 4, .int .i64 (-7)]) w := by kernel_rfl
theorem ct_16 (w : World) : (Instr.index 183 (.agg CTB) (.int .i64 16)).run Tryz.prog w = .ok (.agg #[.int .u8 107, .int .i64 4, .int .i64 (-8)]) w := by kernel_rfl
theorem ct_17 (w : World) : (Instr.index 183 (.agg CTB) (.int .i64 17)).run Tryz.prog w = .ok (.agg #[.int .u8 106, .int .i64 4, .int .i64 (-9)]) w := by kernel_rfl
theorem ct_18 (w : World) : (Instr.index 183 (.agg CTB) (.int .i64 18)).run Tryz.prog w = .ok (.agg #[.int .u8 105, .int .i64 4, .int .i64 (-11)]) w := by kernel_rfl
theorem ct_19 (w : World) : (Instr.index 183 (.agg CTB) (.int .i64 19)).run Tryz.prog w = .ok (.agg #[.int .u8 100, .int .i64 5, .int .i64 0]) w := by kernel_rfl
theorem ct_20 (w : World) : (Instr.index 183 (.agg CTB) (.int .i64 20)).run Tryz.prog w = .ok (.agg #[.int .u8 99, .int .i64 5, .int .i64 1]) w := by kernel_rfl
theorem ct_21 (w : World) : (Instr.index 183 (.agg CTB) (.int .i64 21)).run Tryz.prog w = .ok (.agg #[.int .u8 96, .int .i64 6, .int .i64 1]) w := by kernel_rfl
theorem ct_22 (w : World) : (Instr.index 183 (.agg CTB) (.int .i64 22)).run Tryz.prog w = .ok (.agg #[.int .u8 95, .int .i64 6, .int .i64 2]) w := by kernel_rfl
theorem ct_23 (w : World) : (Instr.index 183 (.agg CTB) (.int .i64 23)).run Tryz.prog w = .ok (.agg #[.int .u8 94, .int .i64 6, .int .i64 3]) w := by kernel_rfl
theorem ct_idx (k : Nat) (hk : k < 24) (w : World) : (Instr.index 183 (.agg CTB) (.int .i64 (k : Int))).run Tryz.prog w = .ok (.agg #[.int .u8 (cRow k).1, .int .i64 (cRow k).2.1, .int .i64 (cRow k).2.2]) w := by
  have h : k = 0 ∨ k = 1 ∨ k = 2 ∨ k = 3 ∨ k = 4 ∨ k = 5 ∨ k = 6 ∨ k = 7 ∨ k = 8 ∨ k = 9 ∨ k = 10 ∨ k = 11 ∨ k = 12 ∨ k = 13 ∨ k = 14 ∨ k = 15 ∨ k = 16 ∨ k = 17 ∨ k = 18 ∨ k = 19 ∨ k = 20 ∨ k = 21 ∨ k = 22 ∨ k = 23 := by omega
  rcases h with rfl | rfl | rfl | rfl | rfl | rfl | rfl | rfl | rfl | rfl | rfl | rfl | rfl | rfl | rfl | rfl | rfl | rfl | rfl | rfl | rfl | rfl | rfl | rfl
  · exact ct_0 w
  · exact ct_1 w
  · exact ct_2 w
  · exact ct_3 w
  · exact ct_4 w
  · exact ct_5 w
  · exact ct_6 w
  · exact ct_7 w
  · exact ct_8 w
  · exact ct_9 w
  · exact ct_10 w
  · exact ct_11 w
  · exact ct_12 w
  · exact ct_13 w
  · exact ct_14 w
  · exact ct_15 w
  · exact ct_16 w
  · exact ct_17 w
  · exact ct_18 w
  · exact ct_19 w
  · exact ct_20 w
  · exact ct_21 w
  · exact ct_22 w
  · exact ct_23 w
theorem code_drop (k : Nat) (hk : k < 24) : codeL.drop k = cRow k :: codeL.drop (k + 1) := by
  have hl : k < codeL.length := hk
  rw [List.drop_eq_getElem_cons hl]
  unfold cRow
  rw [List.getD_eq_getElem?_getD, List.getElem?_eq_getElem hl]
  rfl
/- The table of codes stands as its text lays it. -/
def Tab (w : World) : Prop := ∀ (j : Nat) (v : Value), CTB[j]? = some v → w.cell? ⟨1, j, none⟩ = some v
theorem Tab.pos {w : World} (h : Tab w) : 1 < w.heap.size := block_lt_of_cell (h 0 (.int .u8 127) rfl)
theorem Tab.grew {w w' : World} (h : Tab w) (g : Grew w w') : Tab w' := fun j v hj => by rw [g.1.cell h.pos]; exact h j v hj
theorem Tab.turn {w w' : World} {S : List Nat} (h : Tab w) (t : Turn S w w') (hS : 1 ∉ S) : Tab w' := fun j v hj => by
  rw [← h j v hj]
  exact World.cell?_of_block (w := w) (a := ⟨1, j, none⟩) (t.block _ h.pos hS)
theorem Tab.tb {w w' : World} {b B : Nat} (h : Tab w) (t : TB b B w w') (hb : 1 ≠ b) (hB : 1 < B) : Tab w' := fun j v hj => by
  rw [← h j v hj]
  exact World.cell?_of_block (w := w) (a := ⟨1, j, none⟩) (t.block _ h.pos hb hB)
theorem isAgg_of {P : Program} {w : World} {ty e : TypeId} {n : Nat} (hu : P.underlying ty = some (.array n e)) : (isAgg ty).run P w = .ok true w := by
  simp [isAgg, run_underlying hu]
theorem wpList_load_glob {P : Program} {ops : Array Oper} {rest : List Oper} {o : Oper} {a : Act} {w : World} {Q : Exit → Act → World → Prop} (hgd : o.guard = none) (ty : TypeId) (g : Nat) (ho : o.op = .load ty (.global g))
    (cells : Array Value) (n : Nat) (e : TypeId) (hu : P.underlying ty = some (.array n e)) (hz : (sizeOf ty).run P w = .ok cells.size w) (hc : ∀ (j : Nat) (v : Value), cells[j]? = some v → w.cell? ⟨g, j, none⟩ = some v)
    (h : wpList P ops Q rest (a.put o.dst (.agg cells)) w) : wpList P ops Q (o :: rest) a w :=
  wpList_plain hgd fun _ hK => by
    have hl := run_loadCells_list (P := P) w ⟨g, 0, none⟩ cells.toList (fun j v hv => by
      have hadd : (⟨g, 0, none⟩ : Addr).add j = ⟨g, j, none⟩ := by unfold Addr.add; split <;> simp_all
      rw [hadd]
      exact hc j v (by simpa using hv))
    have hl2 : (loadCells ⟨g, 0, none⟩ cells.size).run P w = .ok cells w := by simpa using hl
    have hv : (Instr.loadAt ty (.pointer (some ⟨g, 0, none⟩))).run P w = .ok (.agg cells) w := by
      simp only [Instr.loadAt, Instr.sureAddr, Sem.run_bind, Sem.run_pure, Result.andThen, loadVar, isAgg_of hu, if_true, hz, hl2]
    unfold Oper.wp execOp
    have he : a.eval (.global g) = .pointer (some ⟨g, 0, none⟩) := rfl
    simp only [ho, he, Sem.run_bind, Result.andThen_ok, hv]
    exact hK _ _ h
set_option maxRecDepth 100000 in
set_option maxHeartbeats 1000000 in
theorem meaning_any (c : Int) (w : World) (hT : Tab w) :
    Calls Tryz.prog 125 #[.int .u8 c] w fun e w' => e = .returned (.tuple #[.int .i64 (mean c).1, .int .i64 (mean c).2]) ∧ Grew w w' := by
  have HT : Hid (Tab w) := hT
  obtain ⟨M, hM⟩ : ∃ M, M = mean c := ⟨_, rfl⟩
  rw [← hM]
  have HM : Hid (M = findC c codeL) := hM
  clear hT hM
  go_enter Tryz.func125, Tryz.ntmps125
  go_wp2_with (refine wpList_load_glob rfl 183 1 rfl CTB 24 182 Tryz.underlying183 (by kernel_rfl) HT.out ?_)
  go_loopw [7] (fun n_ wr => ∃ k : Nat, n_ = .int .i64 k ∧ k ≤ 24 ∧ Hid (Grew w wr) ∧ Hid (M = findC c (codeL.drop k))) (fun n_ _ => 24 - (intOf n_).toNat)
  case atStart => exact ⟨0, rfl, by omega, Grew.refl _, HM⟩
  case round =>
    obtain ⟨k, rfl, hk, GR, HR⟩ := hrel
    by_cases h24 : k < 24
    · have ci := ct_idx k h24
      have HD := HR.out
      rw [code_drop k h24] at HD
      obtain ⟨x, y, z, hx⟩ : ∃ x y z, cRow k = (x, y, z) := ⟨_, _, _, rfl⟩
      rw [hx] at ci HD
      simp only at ci
      have d1 : decide ((k : Int) < 24) = true := by simp; omega
      by_cases hc : x = c
      · have he : M = (y, z) := by rw [HD, findC, if_pos hc]
        have HE : Hid (M = (y, z)) := he
        clear he
        have hc' : (x == c) = true := by simpa using hc
        clear hx HD HR
        go_wp2_with fail
        go_quiet (fail)
        go_wp2_with fail
        go_ret2
        go_light
        refine ⟨?_, ?_⟩
        · rw [HE.out]; rfl
        · exact (GR.out.alloc _).drewN _
      · have he : M = findC c (codeL.drop (k + 1)) := by rw [HD, findC, if_neg hc]
        have HE : Hid (M = findC c (codeL.drop (k + 1))) := he
        clear he
        have hc' : (x == c) = false := by simpa using hc
        clear hx HD HR
        go_wp2_with fail
        go_roundw
        case rel => exact ⟨k + 1, by go_num, by omega, by first | exact GR.out | exact GR.out.alloc _, HE⟩
        case measure => simp [intOf]; omega
    · have h : k = 24 := by omega
      have d1 : decide ((k : Int) < 24) = false := by simp; omega
      have he : M = (0, 0) := by rw [HR.out, h]; rfl
      have HE : Hid (M = (0, 0)) := he
      clear he h
      go_wp2_with fail
      go_ret2
      go_light
      refine ⟨?_, ?_⟩
      · rw [HE.out]; rfl
      · first | exact GR.out | exact GR.out.alloc _
end Go.Proofs.YtohapnninjdlfaaGreatDoor

namespace Go.Proofs.YtohapnninjdlfaaGreatDoor
open Go.RowKit
set_option linter.unusedVariables false

theorem inside_yes (a : Option Addr) (len cap : Nat) (x y : Int) (w : World) (h0 : 0 ≤ x) (h1 : x ≤ y) (h2 : y ≤ len) :
    Calls Tryz.prog 120 #[.slice a len cap, .int .i64 x, .int .i64 y] w fun e w' => e = .returned (.bool true) ∧ w' = w := by
  go_enter Tryz.func120, Tryz.ntmps120
  go_wp2
  go_ret
  exact ⟨rfl, rfl⟩
theorem inside_no (a : Option Addr) (len cap : Nat) (x y : Int) (w : World) (h : ¬ (0 ≤ x ∧ x ≤ y ∧ y ≤ len)) :
    Calls Tryz.prog 120 #[.slice a len cap, .int .i64 x, .int .i64 y] w fun e w' => e = .returned (.bool false) ∧ w' = w := by
  by_cases h0 : 0 ≤ x
  · by_cases h1 : x ≤ y
    · have h2 : ¬ y ≤ len := by omega
      clear h
      go_enter Tryz.func120, Tryz.ntmps120
      go_wp2
      go_ret
      exact ⟨rfl, rfl⟩
    · clear h
      have h1' : decide (x ≤ y) = false := by simpa using h1
      go_enter Tryz.func120, Tryz.ntmps120
      go_wp2
      go_ret
      exact ⟨rfl, rfl⟩
  · clear h
    have h0' : decide (0 ≤ x) = false := by simpa using h0
    go_enter Tryz.func120, Tryz.ntmps120
    go_wp2
    go_ret
    exact ⟨rfl, rfl⟩
theorem reads_yes (a : Option Addr) (len cap : Nat) (x y : Int) (w : World) (h0 : 0 ≤ x) (h1 : x ≤ y) (h2 : y ≤ len) :
    Calls Tryz.prog 91 #[.slice a len cap, .int .i64 x, .int .i64 y] w fun e w' => e = .returned (.bool true) ∧ w' = w := by
  go_enter Tryz.func91, Tryz.ntmps91
  go_wp2
  go_ret
  exact ⟨rfl, rfl⟩
theorem reads_no (a : Option Addr) (len cap : Nat) (x y : Int) (w : World) (h : ¬ (0 ≤ x ∧ x ≤ y ∧ y ≤ len)) :
    Calls Tryz.prog 91 #[.slice a len cap, .int .i64 x, .int .i64 y] w fun e w' => e = .returned (.bool false) ∧ w' = w := by
  by_cases h0 : 0 ≤ x
  · by_cases h2 : y ≤ len
    · have h1 : ¬ x ≤ y := by omega
      clear h
      go_enter Tryz.func91, Tryz.ntmps91
      go_wp2
      go_ret
      exact ⟨rfl, rfl⟩
    · clear h
      have h2' : decide (y ≤ len) = false := by simpa using h2
      go_enter Tryz.func91, Tryz.ntmps91
      go_wp2
      go_ret
      exact ⟨rfl, rfl⟩
  · clear h
    have h0' : decide (0 ≤ x) = false := by simpa using h0
    go_enter Tryz.func91, Tryz.ntmps91
    go_wp2
    go_ret
    exact ⟨rfl, rfl⟩

set_option maxHeartbeats 400000 in
theorem mayEnd_u (c : Int) (left : Nat) (w : World) (h0 : 0 ≤ c) (h1 : c ≤ 255) (hl : 1 ≤ left) (hl7 : left ≤ 7) :
    Calls Tryz.prog 121 #[.int .u8 c, .int .i64 left, .bool false] w fun e w' => e = .returned (.bool (okB left false c)) ∧ w' = w := by
  by_cases hc : 128 ≤ c
  · have e : okB left false c = false := by unfold okB; simp; omega
    rw [e]
    go_enter Tryz.func121, Tryz.ntmps121
    go_wp2
    go_ret
    exact ⟨rfl, rfl⟩
  · have e : okB left false c = (c / 2 ^ left == 0) := by unfold okB; rw [decide_eq_true (by omega)]; simp; rfl
    rw [e]
    clear e
    go_enter Tryz.func121, Tryz.ntmps121
    go_wp2
    go_ret
    exact ⟨rfl, rfl⟩
set_option maxHeartbeats 400000 in
theorem mayEnd_s (c : Int) (left : Nat) (w : World) (h0 : 0 ≤ c) (h1 : c ≤ 255) (hl : 1 ≤ left) (hl7 : left ≤ 7) :
    Calls Tryz.prog 121 #[.int .u8 c, .int .i64 left, .bool true] w fun e w' => e = .returned (.bool (okB left true c)) ∧ w' = w := by
  by_cases hc : 128 ≤ c
  · have e : okB left true c = false := by unfold okB; simp; omega
    rw [e]
    go_enter Tryz.func121, Tryz.ntmps121
    go_wp2
    go_ret
    exact ⟨rfl, rfl⟩
  · by_cases hz : c / 2 ^ (left - 1) = 0
    · have e : okB left true c = true := by unfold okB; rw [decide_eq_true (by omega)]; simp [hz]
      rw [e]
      clear e
      have hz' : (c / 2 ^ (left - 1) == 0) = true := by simpa using hz
      clear hz
      go_enter Tryz.func121, Tryz.ntmps121
      go_wp2
      go_ret
      exact ⟨rfl, rfl⟩
    · have e : okB left true c = (c / 2 ^ (left - 1) == 127 / 2 ^ (left - 1)) := by unfold okB; rw [decide_eq_true (by omega)]; simp [hz]; rfl
      rw [e]
      clear e
      have hz' : (c / 2 ^ (left - 1) == 0) = false := by simpa using hz
      clear hz
      go_enter Tryz.func121, Tryz.ntmps121
      go_wp2
      go_ret
      exact ⟨rfl, rfl⟩

theorem wraps_u64 (n : Int) (h0 : 0 ≤ n) (h1 : n < 2 ^ 64) : IntKind.u64.wrap n = n := by rw [IntKind.wrap_u64]; omega
theorem and1 (x : Int) (h0 : 0 ≤ x) (h1 : x ≤ 18446744073709551615) : bits .and .u64 x 1 = x % 2 := bits_mask .u64 64 (by decide) wraps_u64 1 (by decide) x h0 (by omega)
theorem div_le (n : Int) (k : Nat) (h0 : 0 ≤ n) : 0 ≤ n / 2 ^ k ∧ n / 2 ^ k ≤ n := by
  have hp : (0 : Int) < 2 ^ k := Int.pow_pos (by decide)
  exact ⟨Int.ediv_nonneg h0 (by omega), Int.ediv_le_self _ h0⟩
theorem bits_or_comm (k : IntKind) (x y : Int) : bits .or k x y = bits .or k y x := by
  show k.wrap (((BitVec.ofInt k.bits x ||| BitVec.ofInt k.bits y).toNat : Nat) : Int) = k.wrap (((BitVec.ofInt k.bits y ||| BitVec.ofInt k.bits x).toNat : Nat) : Int)
  rw [BitVec.or_comm]
theorem ret_int {k : IntKind} {a b : Int} (h : a = b) : Ending.returned (.int k a) = .returned (.int k b) := by rw [h]
theorem signOr (n : Int) (width : Nat) (h0 : 0 ≤ n) (hw7 : width ≤ 63) (hn : n < 2 ^ width) :
    bits .or .u64 n (IntKind.u64.wrap (18446744073709551615 * 2 ^ width)) = n + (18446744073709551616 - 2 ^ width) := by
  have hp : (0 : Int) < 2 ^ width := Int.pow_pos (by decide)
  have hq : (2 : Int) ^ width * 2 ^ (64 - width) = 18446744073709551616 := by
    rw [← Int.pow_add, show width + (64 - width) = 64 from by omega]; rfl
  have hle : (2 : Int) ^ width ≤ 9223372036854775808 := by
    have h2 : (2 : Int) ≤ 2 ^ (64 - width) := by
      rw [show 64 - width = (63 - width) + 1 from by omega, Int.pow_succ]
      have : (0 : Int) < 2 ^ (63 - width) := Int.pow_pos (by decide)
      omega
    have h3 := Int.mul_le_mul_of_nonneg_left h2 (Int.le_of_lt hp)
    rw [hq] at h3
    omega
  have hm : (18446744073709551616 - (2 : Int) ^ width) % 2 ^ width = 0 := by
    rw [← hq, Int.sub_emod, Int.mul_emod_right, Int.emod_self]; simp
  rw [IntKind.wrap_u64, show (18446744073709551615 * (2 : Int) ^ width) % 18446744073709551616 = 18446744073709551616 - 2 ^ width from by omega, bits_or_comm,
    bits_join .u64 64 (by decide) wraps_u64 width _ n (by omega) hm (by omega) h0 hn (by omega)]
  omega
set_option maxHeartbeats 400000 in
theorem withSign_u (n : Int) (width : Nat) (w : World) :
    Calls Tryz.prog 122 #[.int .u64 n, .int .i64 width, .bool false] w fun e w' => e = .returned (.int .u64 n) ∧ w' = w := by
  go_enter Tryz.func122, Tryz.ntmps122
  go_wp2
  go_ret
  exact ⟨rfl, rfl⟩
set_option maxRecDepth 100000 in
set_option maxHeartbeats 400000 in
theorem withSign_s (n : Int) (width : Nat) (w : World) (h0 : 0 ≤ n) (h1 : n ≤ 18446744073709551615) (hw : 7 ≤ width) (hw7 : width ≤ 63) (hn : n < 2 ^ width) :
    Calls Tryz.prog 122 #[.int .u64 n, .int .i64 width, .bool true] w fun e w' => e = .returned (.int .u64 (ws n width true)) ∧ w' = w := by
  obtain ⟨d0, d1⟩ := div_le n (width - 1) h0
  have ha := and1 (n / 2 ^ (width - 1)) d0 (by omega)
  by_cases hb : n / 2 ^ (width - 1) % 2 = 1
  · have hb' : (n / 2 ^ (width - 1) % 2 == 1) = true := by simpa using hb
    have HN : Hid (n < 2 ^ width) := hn
    have HB : Hid (n / 2 ^ (width - 1) % 2 = 1) := hb
    clear hn hb
    go_enter Tryz.func122, Tryz.ntmps122
    go_wp2
    go_ret
    refine ⟨ret_int ?_, rfl⟩
    rw [signOr n width h0 hw7 HN.out, ws, if_pos ⟨rfl, HB.out, by omega⟩]
  · have hb' : (n / 2 ^ (width - 1) % 2 == 1) = false := by simpa using hb
    have e : ws n width true = n := by unfold ws; simp [hb]
    rw [e]
    clear hn hb e
    go_enter Tryz.func122, Tryz.ntmps122
    go_wp2
    go_ret
    exact ⟨rfl, rfl⟩
set_option maxRecDepth 100000 in
set_option maxHeartbeats 400000 in
theorem withSign_70 (n : Int) (w : World) (h0 : 0 ≤ n) (h1 : n ≤ 18446744073709551615) :
    Calls Tryz.prog 122 #[.int .u64 n, .int .i64 70, .bool true] w fun e w' => e = .returned (.int .u64 n) ∧ w' = w := by
  have hz : (bits .and .u64 (n / 18446744073709551616) 1 == 1) = false := by
    rw [show n / 18446744073709551616 = 0 from by omega]; decide
  go_enter Tryz.func122, Tryz.ntmps122
  go_wp2
  go_ret
  exact ⟨rfl, rfl⟩
set_option maxHeartbeats 400000 in
theorem last_32u (c : Int) (w : World) (h0 : 0 ≤ c) (h1 : c ≤ 255) :
    Calls Tryz.prog 92 #[.int .u8 c, .int .i64 32, .int .i64 4, .bool false] w fun e w' => e = .returned (.bool (okB 4 false c)) ∧ w' = w := by
  by_cases hc : 128 ≤ c
  · have e : okB 4 false c = false := by unfold okB; simp; omega
    rw [e]
    go_enter Tryz.func92, Tryz.ntmps92
    go_wp2
    go_ret
    exact ⟨rfl, rfl⟩
  · have e : okB 4 false c = (c / 16 == 0) := by unfold okB; rw [decide_eq_true (by omega)]; simp; rfl
    rw [e]
    clear e
    go_enter Tryz.func92, Tryz.ntmps92
    go_wp2
    go_ret
    exact ⟨rfl, rfl⟩
set_option maxHeartbeats 400000 in
theorem last_64u (c : Int) (w : World) (h0 : 0 ≤ c) (h1 : c ≤ 255) :
    Calls Tryz.prog 92 #[.int .u8 c, .int .i64 64, .int .i64 9, .bool false] w fun e w' => e = .returned (.bool (okB 1 false c)) ∧ w' = w := by
  by_cases hc : 128 ≤ c
  · have e : okB 1 false c = false := by unfold okB; simp; omega
    rw [e]
    go_enter Tryz.func92, Tryz.ntmps92
    go_wp2
    go_ret
    exact ⟨rfl, rfl⟩
  · have e : okB 1 false c = (c / 2 == 0) := by unfold okB; rw [decide_eq_true (by omega)]; simp; rfl
    rw [e]
    clear e
    go_enter Tryz.func92, Tryz.ntmps92
    go_wp2
    go_ret
    exact ⟨rfl, rfl⟩
set_option maxHeartbeats 400000 in
theorem last_32s (c : Int) (w : World) (h0 : 0 ≤ c) (h1 : c ≤ 255) :
    Calls Tryz.prog 92 #[.int .u8 c, .int .i64 32, .int .i64 4, .bool true] w fun e w' => e = .returned (.bool (okB 4 true c)) ∧ w' = w := by
  by_cases hc : 128 ≤ c
  · have e : okB 4 true c = false := by unfold okB; simp; omega
    rw [e]
    go_enter Tryz.func92, Tryz.ntmps92
    go_wp2
    go_ret
    exact ⟨rfl, rfl⟩
  · by_cases hz : c / 8 = 0
    · have e : okB 4 true c = true := by unfold okB; rw [decide_eq_true (by omega)]; simp; omega
      rw [e]
      clear e
      have hz' : (c / 8 == 0) = true := by simpa using hz
      clear hz
      go_enter Tryz.func92, Tryz.ntmps92
      go_wp2
      go_ret
      exact ⟨rfl, rfl⟩
    · have e : okB 4 true c = (c / 8 == 15) := by unfold okB; rw [decide_eq_true (by omega), Bool.eq_iff_iff]; simp; omega
      rw [e]
      clear e
      have hz' : (c / 8 == 0) = false := by simpa using hz
      clear hz
      go_enter Tryz.func92, Tryz.ntmps92
      go_wp2
      go_ret
      exact ⟨rfl, rfl⟩
set_option maxHeartbeats 400000 in
theorem last_33s (c : Int) (w : World) (h0 : 0 ≤ c) (h1 : c ≤ 255) :
    Calls Tryz.prog 92 #[.int .u8 c, .int .i64 33, .int .i64 4, .bool true] w fun e w' => e = .returned (.bool (okB 5 true c)) ∧ w' = w := by
  by_cases hc : 128 ≤ c
  · have e : okB 5 true c = false := by unfold okB; simp; omega
    rw [e]
    go_enter Tryz.func92, Tryz.ntmps92
    go_wp2
    go_ret
    exact ⟨rfl, rfl⟩
  · by_cases hz : c / 16 = 0
    · have e : okB 5 true c = true := by unfold okB; rw [decide_eq_true (by omega)]; simp; omega
      rw [e]
      clear e
      have hz' : (c / 16 == 0) = true := by simpa using hz
      clear hz
      go_enter Tryz.func92, Tryz.ntmps92
      go_wp2
      go_ret
      exact ⟨rfl, rfl⟩
    · have e : okB 5 true c = (c / 16 == 7) := by unfold okB; rw [decide_eq_true (by omega), Bool.eq_iff_iff]; simp; omega
      rw [e]
      clear e
      have hz' : (c / 16 == 0) = false := by simpa using hz
      clear hz
      go_enter Tryz.func92, Tryz.ntmps92
      go_wp2
      go_ret
      exact ⟨rfl, rfl⟩
set_option maxHeartbeats 400000 in
theorem last_64s (c : Int) (w : World) (h0 : 0 ≤ c) (h1 : c ≤ 255) :
    Calls Tryz.prog 92 #[.int .u8 c, .int .i64 64, .int .i64 9, .bool true] w fun e w' => e = .returned (.bool (okB 1 true c)) ∧ w' = w := by
  by_cases hc : 128 ≤ c
  · have e : okB 1 true c = false := by unfold okB; simp; omega
    rw [e]
    go_enter Tryz.func92, Tryz.ntmps92
    go_wp2
    go_ret
    exact ⟨rfl, rfl⟩
  · by_cases hz : c = 0
    · have e : okB 1 true c = true := by unfold okB; rw [decide_eq_true (by omega)]; simp; omega
      rw [e]
      clear e
      have hz' : (c == 0) = true := by simpa using hz
      clear hz
      go_enter Tryz.func92, Tryz.ntmps92
      go_wp2
      go_ret
      exact ⟨rfl, rfl⟩
    · have e : okB 1 true c = (c == 127) := by unfold okB; rw [decide_eq_true (by omega), Bool.eq_iff_iff]; simp; omega
      rw [e]
      clear e
      have hz' : (c == 0) = false := by simpa using hz
      clear hz
      go_enter Tryz.func92, Tryz.ntmps92
      go_wp2
      go_ret
      exact ⟨rfl, rfl⟩
end Go.Proofs.YtohapnninjdlfaaGreatDoor

namespace Go.Proofs.YtohapnninjdlfaaGreatDoor
open Go.RowKit
set_option linter.unusedVariables false

theorem orStep (X c : Int) (k : Nat) (h0 : 0 ≤ X) (hX : X < 2 ^ (7 * k)) (hk : k ≤ 9) : bits .or .u64 X (IntKind.u64.wrap (c % 128 * 2 ^ (7 * k))) = addAt X c k := by
  have hp := pow_pos7 k
  have hq : (2 : Int) ^ (7 * k) * 2 ^ (64 - 7 * k) = 18446744073709551616 := by
    rw [← Int.pow_add, show 7 * k + (64 - 7 * k) = 64 from by omega]; rfl
  have h1 : (1 : Int) ≤ 2 ^ (64 - 7 * k) := by
    have : (0 : Int) < 2 ^ (64 - 7 * k) := Int.pow_pos (by decide)
    omega
  have h3 := Int.mul_le_mul_of_nonneg_left h1 (Int.le_of_lt hp)
  rw [hq, Int.mul_one] at h3
  have hm : (c % 128 * 2 ^ (7 * k)) % 18446744073709551616 % 2 ^ (7 * k) = 0 := by
    rw [Int.emod_emod_of_dvd _ ⟨_, hq.symm⟩, Int.mul_emod_left]
  rw [IntKind.wrap_u64, bits_or_comm, bits_join .u64 64 (by decide) wraps_u64 (7 * k) _ X (by omega) hm (by omega) h0 hX (by omega), addAt]
  omega

theorem ret_3 {k1 k2 k3 : IntKind} {a b c a' b' c' : Int} (h1 : a = a') (h2 : b = b') (h3 : c = c') :
    Ending.returned (.tuple #[.int k1 a, .int k2 b, .int k3 c]) = .returned (.tuple #[.int k1 a', .int k2 b', .int k3 c']) := by rw [h1, h2, h3]

set_option maxRecDepth 100000 in
set_option maxHeartbeats 1000000 in
theorem readU32_in (b off cap : Nat) (l : List Int) (a e : Nat) (w : World) (hlen : l.length ≤ 140737488351232) (hae : a ≤ e) (he : e ≤ l.length)
    (hc : ∀ j, j < l.length → w.cell? ⟨b, off + j, none⟩ = some (.int .u8 (l.getD j 0))) (hr : ∀ j, 0 ≤ l.getD j 0 ∧ l.getD j 0 ≤ 255) :
    Calls Tryz.prog 97 #[.slice (some ⟨b, off, none⟩) l.length cap, .int .i64 a, .int .i64 e, .int .i64 32] w fun en w' =>
      ∃ n p q, scan 4 (okB 4 false) false (seg l a e) 0 0 = (n, p, q) ∧ en = .returned (.tuple #[.int .u32 (n % 4294967296), .int .i64 (a + p), .int .i64 q]) ∧ w' = w := by
  have hst := St.start (m := 4) (ok := okB 4 false) (sg := false) (l := l) (a := a) (e := e)
  have hsg : decide (bits .xor .u32 IntKind.u32.max 0 < 0) = false := by decide
  go_enter Tryz.func97, Tryz.ntmps97
  go_wp2_with fail
  refine (inside_yes _ _ _ _ _ _ (by omega) (by omega) (by omega)).mono ?_
  rintro en w' ⟨rfl, rfl⟩
  go_wp2_with fail
  go_loop [1, 13, 12, 14, 15] (fun at_ sh n _ _ => ∃ (k j : Nat) (X : Int), k ≤ 4 ∧ j ≤ e ∧ at_ = .int .i64 j ∧ sh = .int .i64 (7 * k : Nat) ∧ n = .int .u64 X ∧ 0 ≤ X ∧ X < 2 ^ (7 * k) ∧ a + k = j ∧ St 4 (okB 4 false) false l a e k X)
    (fun at_ _ _ _ _ => e - (intOf at_).toNat)
  case atStart => exact ⟨0, a, 0, by omega, by omega, rfl, rfl, rfl, by omega, by decide, rfl, hst⟩
  case round =>
    obtain ⟨k, j, X, hk, hj, rfl, rfl, rfl, hX0, hX1, hakj, hS⟩ := hrel
    have HX : Hid (X < 2 ^ (7 * k)) := hX1
    have HJ : Hid (a + k = j) := hakj
    clear hst hX1 hakj
    by_cases hlt : j < e
    · obtain ⟨c, hcc⟩ : ∃ c, c = l.getD j 0 := ⟨_, rfl⟩
      have hcell := hc j (by omega)
      obtain ⟨hr0, hr1⟩ := hr j
      rw [← hcc] at hcell hr0 hr1
      have HC : Hid (c = l.getD (a + k) 0) := by rw [HJ.out]; exact hcc
      have hand := and127 c hr0 (by omega)
      have hor := orStep X c k hX0 HX.out (by omega)
      have hA0 := addAt_lo (c := c) k hX0
      have hA1 := addAt_64 (c := c) hX0 HX.out (by omega)
      have HK : Hid (a + k < e) := by have := HJ.out; show a + k < e; omega
      clear hcc hc hr
      by_cases hk4 : 4 ≤ k
      · cases ho : okB 4 false c with
        | false =>
          go_wp2_with fail
          rw [show (32 - 7 * (k : Int)) = ((4 : Nat) : Int) from by omega]
          refine (mayEnd_u c 4 _ hr0 hr1 (by omega) (by omega)).mono ?_
          rintro en w1 ⟨rfl, rfl⟩
          go_wp2_with fail
          go_ret3
          exact ⟨_, _, _, hS.form HK.out he HC.out (by omega) ho, ret_3 rfl (by have := HJ.out; omega) rfl, rfl⟩
        | true =>
          have h128 := okB_lt ho
          go_wp2_with fail
          rw [show (32 - 7 * (k : Int)) = ((4 : Nat) : Int) from by omega]
          refine (mayEnd_u c 4 _ hr0 hr1 (by omega) (by omega)).mono ?_
          rintro en w1 ⟨rfl, rfl⟩
          go_wp2_with fail
          rw [show (7 * (k : Int) + 7) = ((7 * k + 7 : Nat) : Int) from by omega]
          refine (withSign_u _ _ _).mono ?_
          rintro en w1 ⟨rfl, rfl⟩
          go_wp2_with fail
          go_ret3
          exact ⟨_, _, _, hS.done HK.out he HC.out (fun _ => ho) h128, ret_3 (congrArg (fun z => z % 4294967296) (by simp [ws])) (by have := HJ.out; omega) rfl, rfl⟩
      · by_cases h128 : c < 128
        · go_wp2_with fail
          rw [show (7 * (k : Int) + 7) = ((7 * k + 7 : Nat) : Int) from by omega]
          refine (withSign_u _ _ _).mono ?_
          rintro en w1 ⟨rfl, rfl⟩
          go_wp2_with fail
          go_ret3
          exact ⟨_, _, _, hS.done HK.out he HC.out (fun h => absurd h (by omega)) h128, ret_3 (congrArg (fun z => z % 4294967296) (by simp [ws])) (by have := HJ.out; omega) rfl, rfl⟩
        · go_wp2_with fail
          go_round
          case rel => exact ⟨k + 1, j + 1, addAt X c k, by omega, by omega, by go_num, by go_num, rfl, hA0, addAt_hi HX.out (by omega), by have := HJ.out; omega, hS.next HK.out he HC.out (fun h => absurd h (by omega)) h128⟩
          case measure => simp [intOf]; omega
    · go_wp2_with fail
      go_ret3
      exact ⟨_, _, _, hS.short (by have := HJ.out; omega), ret_3 rfl (by have := HJ.out; omega) rfl, rfl⟩

set_option maxRecDepth 100000 in
set_option maxHeartbeats 1000000 in
theorem readU64_in (b off cap : Nat) (l : List Int) (a e : Nat) (w : World) (hlen : l.length ≤ 140737488351232) (hae : a ≤ e) (he : e ≤ l.length)
    (hc : ∀ j, j < l.length → w.cell? ⟨b, off + j, none⟩ = some (.int .u8 (l.getD j 0))) (hr : ∀ j, 0 ≤ l.getD j 0 ∧ l.getD j 0 ≤ 255) :
    Calls Tryz.prog 104 #[.slice (some ⟨b, off, none⟩) l.length cap, .int .i64 a, .int .i64 e, .int .i64 64] w fun en w' =>
      ∃ n p q, scan 9 (okB 1 false) false (seg l a e) 0 0 = (n, p, q) ∧ en = .returned (.tuple #[.int .u64 (n), .int .i64 (a + p), .int .i64 q]) ∧ w' = w := by
  have hst := St.start (m := 9) (ok := okB 1 false) (sg := false) (l := l) (a := a) (e := e)
  have hsg : decide (bits .xor .u64 IntKind.u64.max 0 < 0) = false := by decide
  go_enter Tryz.func104, Tryz.ntmps104
  go_wp2_with fail
  refine (inside_yes _ _ _ _ _ _ (by omega) (by omega) (by omega)).mono ?_
  rintro en w' ⟨rfl, rfl⟩
  go_wp2_with fail
  go_loop [1, 13, 12, 14, 15] (fun at_ sh n _ _ => ∃ (k j : Nat) (X : Int), k ≤ 9 ∧ j ≤ e ∧ at_ = .int .i64 j ∧ sh = .int .i64 (7 * k : Nat) ∧ n = .int .u64 X ∧ 0 ≤ X ∧ X < 2 ^ (7 * k) ∧ a + k = j ∧ St 9 (okB 1 false) false l a e k X)
    (fun at_ _ _ _ _ => e - (intOf at_).toNat)
  case atStart => exact ⟨0, a, 0, by omega, by omega, rfl, rfl, rfl, by omega, by decide, rfl, hst⟩
  case round =>
    obtain ⟨k, j, X, hk, hj, rfl, rfl, rfl, hX0, hX1, hakj, hS⟩ := hrel
    have HX : Hid (X < 2 ^ (7 * k)) := hX1
    have HJ : Hid (a + k = j) := hakj
    clear hst hX1 hakj
    by_cases hlt : j < e
    · obtain ⟨c, hcc⟩ : ∃ c, c = l.getD j 0 := ⟨_, rfl⟩
      have hcell := hc j (by omega)
      obtain ⟨hr0, hr1⟩ := hr j
      rw [← hcc] at hcell hr0 hr1
      have HC : Hid (c = l.getD (a + k) 0) := by rw [HJ.out]; exact hcc
      have hand := and127 c hr0 (by omega)
      have hor := orStep X c k hX0 HX.out (by omega)
      have hA0 := addAt_lo (c := c) k hX0
      have hA1 := addAt_64 (c := c) hX0 HX.out (by omega)
      have HK : Hid (a + k < e) := by have := HJ.out; show a + k < e; omega
      clear hcc hc hr
      by_cases hk4 : 9 ≤ k
      · cases ho : okB 1 false c with
        | false =>
          go_wp2_with fail
          rw [show (64 - 7 * (k : Int)) = ((1 : Nat) : Int) from by omega]
          refine (mayEnd_u c 1 _ hr0 hr1 (by omega) (by omega)).mono ?_
          rintro en w1 ⟨rfl, rfl⟩
          go_wp2_with fail
          go_ret3
          exact ⟨_, _, _, hS.form HK.out he HC.out (by omega) ho, ret_3 rfl (by have := HJ.out; omega) rfl, rfl⟩
        | true =>
          have h128 := okB_lt ho
          go_wp2_with fail
          rw [show (64 - 7 * (k : Int)) = ((1 : Nat) : Int) from by omega]
          refine (mayEnd_u c 1 _ hr0 hr1 (by omega) (by omega)).mono ?_
          rintro en w1 ⟨rfl, rfl⟩
          go_wp2_with fail
          rw [show (7 * (k : Int) + 7) = ((7 * k + 7 : Nat) : Int) from by omega]
          refine (withSign_u _ _ _).mono ?_
          rintro en w1 ⟨rfl, rfl⟩
          go_wp2_with fail
          go_ret3
          exact ⟨_, _, _, hS.done HK.out he HC.out (fun _ => ho) h128, ret_3 (by simp [ws]) (by have := HJ.out; omega) rfl, rfl⟩
      · by_cases h128 : c < 128
        · go_wp2_with fail
          rw [show (7 * (k : Int) + 7) = ((7 * k + 7 : Nat) : Int) from by omega]
          refine (withSign_u _ _ _).mono ?_
          rintro en w1 ⟨rfl, rfl⟩
          go_wp2_with fail
          go_ret3
          exact ⟨_, _, _, hS.done HK.out he HC.out (fun h => absurd h (by omega)) h128, ret_3 (by simp [ws]) (by have := HJ.out; omega) rfl, rfl⟩
        · go_wp2_with fail
          go_round
          case rel => exact ⟨k + 1, j + 1, addAt X c k, by omega, by omega, by go_num, by go_num, rfl, hA0, addAt_hi HX.out (by omega), by have := HJ.out; omega, hS.next HK.out he HC.out (fun h => absurd h (by omega)) h128⟩
          case measure => simp [intOf]; omega
    · go_wp2_with fail
      go_ret3
      exact ⟨_, _, _, hS.short (by have := HJ.out; omega), ret_3 rfl (by have := HJ.out; omega) rfl, rfl⟩

end Go.Proofs.YtohapnninjdlfaaGreatDoor

namespace Go.Proofs.YtohapnninjdlfaaGreatDoor
open Go.RowKit
set_option linter.unusedVariables false

set_option maxRecDepth 100000 in
set_option maxHeartbeats 1000000 in
theorem readS32_in (b off cap : Nat) (l : List Int) (a e : Nat) (w : World) (hlen : l.length ≤ 140737488351232) (hae : a ≤ e) (he : e ≤ l.length)
    (hc : ∀ j, j < l.length → w.cell? ⟨b, off + j, none⟩ = some (.int .u8 (l.getD j 0))) (hr : ∀ j, 0 ≤ l.getD j 0 ∧ l.getD j 0 ≤ 255) :
    Calls Tryz.prog 107 #[.slice (some ⟨b, off, none⟩) l.length cap, .int .i64 a, .int .i64 e, .int .i64 32] w fun en w' =>
      ∃ n p q, scan 4 (okB 4 true) true (seg l a e) 0 0 = (n, p, q) ∧ en = .returned (.tuple #[.int .i32 (wrap32 (n)), .int .i64 (a + p), .int .i64 q]) ∧ w' = w := by
  have hst := St.start (m := 4) (ok := okB 4 true) (sg := true) (l := l) (a := a) (e := e)
  skip
  go_enter Tryz.func107, Tryz.ntmps107
  go_wp2_with fail
  refine (inside_yes _ _ _ _ _ _ (by omega) (by omega) (by omega)).mono ?_
  rintro en w' ⟨rfl, rfl⟩
  go_wp2_with fail
  go_loop [1, 13, 12, 14, 15] (fun at_ sh n _ _ => ∃ (k j : Nat) (X : Int), k ≤ 4 ∧ j ≤ e ∧ at_ = .int .i64 j ∧ sh = .int .i64 (7 * k : Nat) ∧ n = .int .u64 X ∧ 0 ≤ X ∧ X < 2 ^ (7 * k) ∧ a + k = j ∧ St 4 (okB 4 true) true l a e k X)
    (fun at_ _ _ _ _ => e - (intOf at_).toNat)
  case atStart => exact ⟨0, a, 0, by omega, by omega, rfl, rfl, rfl, by omega, by decide, rfl, hst⟩
  case round =>
    obtain ⟨k, j, X, hk, hj, rfl, rfl, rfl, hX0, hX1, hakj, hS⟩ := hrel
    have HX : Hid (X < 2 ^ (7 * k)) := hX1
    have HJ : Hid (a + k = j) := hakj
    clear hst hX1 hakj
    by_cases hlt : j < e
    · obtain ⟨c, hcc⟩ : ∃ c, c = l.getD j 0 := ⟨_, rfl⟩
      have hcell := hc j (by omega)
      obtain ⟨hr0, hr1⟩ := hr j
      rw [← hcc] at hcell hr0 hr1
      have HC : Hid (c = l.getD (a + k) 0) := by rw [HJ.out]; exact hcc
      have hand := and127 c hr0 (by omega)
      have hor := orStep X c k hX0 HX.out (by omega)
      have hA0 := addAt_lo (c := c) k hX0
      have hA1 := addAt_64 (c := c) hX0 HX.out (by omega)
      have HK : Hid (a + k < e) := by have := HJ.out; show a + k < e; omega
      clear hcc hc hr
      by_cases hk4 : 4 ≤ k
      · cases ho : okB 4 true c with
        | false =>
          go_wp2_with fail
          rw [show (32 - 7 * (k : Int)) = ((4 : Nat) : Int) from by omega]
          refine (mayEnd_s c 4 _ hr0 hr1 (by omega) (by omega)).mono ?_
          rintro en w1 ⟨rfl, rfl⟩
          go_wp2_with fail
          go_ret3
          exact ⟨_, _, _, hS.form HK.out he HC.out (by omega) ho, ret_3 (by simp [wrap32]) (by have := HJ.out; omega) rfl, rfl⟩
        | true =>
          have h128 := okB_lt ho
          go_wp2_with fail
          rw [show (32 - 7 * (k : Int)) = ((4 : Nat) : Int) from by omega]
          refine (mayEnd_s c 4 _ hr0 hr1 (by omega) (by omega)).mono ?_
          rintro en w1 ⟨rfl, rfl⟩
          go_wp2_with fail
          rw [show (7 * (k : Int) + 7) = ((7 * k + 7 : Nat) : Int) from by omega]
          refine (withSign_s _ _ _ hA0 (by omega) (by omega) (by omega) (addAt_hi HX.out (by omega))).mono ?_
          rintro en w1 ⟨rfl, rfl⟩
          go_wp2_with fail
          go_ret3
          exact ⟨_, _, _, hS.done HK.out he HC.out (fun _ => ho) h128, ret_3 (rfl) (by have := HJ.out; omega) rfl, rfl⟩
      · by_cases h128 : c < 128
        · go_wp2_with fail
          rw [show (7 * (k : Int) + 7) = ((7 * k + 7 : Nat) : Int) from by omega]
          refine (withSign_s _ _ _ hA0 (by omega) (by omega) (by omega) (addAt_hi HX.out (by omega))).mono ?_
          rintro en w1 ⟨rfl, rfl⟩
          go_wp2_with fail
          go_ret3
          exact ⟨_, _, _, hS.done HK.out he HC.out (fun h => absurd h (by omega)) h128, ret_3 (rfl) (by have := HJ.out; omega) rfl, rfl⟩
        · go_wp2_with fail
          go_round
          case rel => exact ⟨k + 1, j + 1, addAt X c k, by omega, by omega, by go_num, by go_num, rfl, hA0, addAt_hi HX.out (by omega), by have := HJ.out; omega, hS.next HK.out he HC.out (fun h => absurd h (by omega)) h128⟩
          case measure => simp [intOf]; omega
    · go_wp2_with fail
      go_ret3
      exact ⟨_, _, _, hS.short (by have := HJ.out; omega), ret_3 (by simp [wrap32]) (by have := HJ.out; omega) rfl, rfl⟩

set_option maxRecDepth 100000 in
set_option maxHeartbeats 1000000 in
theorem readS33_in (b off cap : Nat) (l : List Int) (a e : Nat) (w : World) (hlen : l.length ≤ 140737488351232) (hae : a ≤ e) (he : e ≤ l.length)
    (hc : ∀ j, j < l.length → w.cell? ⟨b, off + j, none⟩ = some (.int .u8 (l.getD j 0))) (hr : ∀ j, 0 ≤ l.getD j 0 ∧ l.getD j 0 ≤ 255) :
    Calls Tryz.prog 110 #[.slice (some ⟨b, off, none⟩) l.length cap, .int .i64 a, .int .i64 e, .int .i64 33] w fun en w' =>
      ∃ n p q, scan 4 (okB 5 true) true (seg l a e) 0 0 = (n, p, q) ∧ en = .returned (.tuple #[.int .i64 (wrap64 (n)), .int .i64 (a + p), .int .i64 q]) ∧ w' = w := by
  have hst := St.start (m := 4) (ok := okB 5 true) (sg := true) (l := l) (a := a) (e := e)
  skip
  go_enter Tryz.func110, Tryz.ntmps110
  go_wp2_with fail
  refine (inside_yes _ _ _ _ _ _ (by omega) (by omega) (by omega)).mono ?_
  rintro en w' ⟨rfl, rfl⟩
  go_wp2_with fail
  go_loop [1, 13, 12, 14, 15] (fun at_ sh n _ _ => ∃ (k j : Nat) (X : Int), k ≤ 4 ∧ j ≤ e ∧ at_ = .int .i64 j ∧ sh = .int .i64 (7 * k : Nat) ∧ n = .int .u64 X ∧ 0 ≤ X ∧ X < 2 ^ (7 * k) ∧ a + k = j ∧ St 4 (okB 5 true) true l a e k X)
    (fun at_ _ _ _ _ => e - (intOf at_).toNat)
  case atStart => exact ⟨0, a, 0, by omega, by omega, rfl, rfl, rfl, by omega, by decide, rfl, hst⟩
  case round =>
    obtain ⟨k, j, X, hk, hj, rfl, rfl, rfl, hX0, hX1, hakj, hS⟩ := hrel
    have HX : Hid (X < 2 ^ (7 * k)) := hX1
    have HJ : Hid (a + k = j) := hakj
    clear hst hX1 hakj
    by_cases hlt : j < e
    · obtain ⟨c, hcc⟩ : ∃ c, c = l.getD j 0 := ⟨_, rfl⟩
      have hcell := hc j (by omega)
      obtain ⟨hr0, hr1⟩ := hr j
      rw [← hcc] at hcell hr0 hr1
      have HC : Hid (c = l.getD (a + k) 0) := by rw [HJ.out]; exact hcc
      have hand := and127 c hr0 (by omega)
      have hor := orStep X c k hX0 HX.out (by omega)
      have hA0 := addAt_lo (c := c) k hX0
      have hA1 := addAt_64 (c := c) hX0 HX.out (by omega)
      have HK : Hid (a + k < e) := by have := HJ.out; show a + k < e; omega
      clear hcc hc hr
      by_cases hk4 : 4 ≤ k
      · cases ho : okB 5 true c with
        | false =>
          go_wp2_with fail
          rw [show (33 - 7 * (k : Int)) = ((5 : Nat) : Int) from by omega]
          refine (mayEnd_s c 5 _ hr0 hr1 (by omega) (by omega)).mono ?_
          rintro en w1 ⟨rfl, rfl⟩
          go_wp2_with fail
          go_ret3
          exact ⟨_, _, _, hS.form HK.out he HC.out (by omega) ho, ret_3 (by simp [wrap64]) (by have := HJ.out; omega) rfl, rfl⟩
        | true =>
          have h128 := okB_lt ho
          go_wp2_with fail
          rw [show (33 - 7 * (k : Int)) = ((5 : Nat) : Int) from by omega]
          refine (mayEnd_s c 5 _ hr0 hr1 (by omega) (by omega)).mono ?_
          rintro en w1 ⟨rfl, rfl⟩
          go_wp2_with fail
          rw [show (7 * (k : Int) + 7) = ((7 * k + 7 : Nat) : Int) from by omega]
          refine (withSign_s _ _ _ hA0 (by omega) (by omega) (by omega) (addAt_hi HX.out (by omega))).mono ?_
          rintro en w1 ⟨rfl, rfl⟩
          go_wp2_with fail
          go_ret3
          exact ⟨_, _, _, hS.done HK.out he HC.out (fun _ => ho) h128, ret_3 (rfl) (by have := HJ.out; omega) rfl, rfl⟩
      · by_cases h128 : c < 128
        · go_wp2_with fail
          rw [show (7 * (k : Int) + 7) = ((7 * k + 7 : Nat) : Int) from by omega]
          refine (withSign_s _ _ _ hA0 (by omega) (by omega) (by omega) (addAt_hi HX.out (by omega))).mono ?_
          rintro en w1 ⟨rfl, rfl⟩
          go_wp2_with fail
          go_ret3
          exact ⟨_, _, _, hS.done HK.out he HC.out (fun h => absurd h (by omega)) h128, ret_3 (rfl) (by have := HJ.out; omega) rfl, rfl⟩
        · go_wp2_with fail
          go_round
          case rel => exact ⟨k + 1, j + 1, addAt X c k, by omega, by omega, by go_num, by go_num, rfl, hA0, addAt_hi HX.out (by omega), by have := HJ.out; omega, hS.next HK.out he HC.out (fun h => absurd h (by omega)) h128⟩
          case measure => simp [intOf]; omega
    · go_wp2_with fail
      go_ret3
      exact ⟨_, _, _, hS.short (by have := HJ.out; omega), ret_3 (by simp [wrap64]) (by have := HJ.out; omega) rfl, rfl⟩

set_option maxRecDepth 100000 in
set_option maxHeartbeats 1000000 in
theorem readS64_in (b off cap : Nat) (l : List Int) (a e : Nat) (w : World) (hlen : l.length ≤ 140737488351232) (hae : a ≤ e) (he : e ≤ l.length)
    (hc : ∀ j, j < l.length → w.cell? ⟨b, off + j, none⟩ = some (.int .u8 (l.getD j 0))) (hr : ∀ j, 0 ≤ l.getD j 0 ∧ l.getD j 0 ≤ 255) :
    Calls Tryz.prog 110 #[.slice (some ⟨b, off, none⟩) l.length cap, .int .i64 a, .int .i64 e, .int .i64 64] w fun en w' =>
      ∃ n p q, scan 9 (okB 1 true) true (seg l a e) 0 0 = (n, p, q) ∧ en = .returned (.tuple #[.int .i64 (wrap64 (n)), .int .i64 (a + p), .int .i64 q]) ∧ w' = w := by
  have hst := St.start (m := 9) (ok := okB 1 true) (sg := true) (l := l) (a := a) (e := e)
  skip
  go_enter Tryz.func110, Tryz.ntmps110
  go_wp2_with fail
  refine (inside_yes _ _ _ _ _ _ (by omega) (by omega) (by omega)).mono ?_
  rintro en w' ⟨rfl, rfl⟩
  go_wp2_with fail
  go_loop [1, 13, 12, 14, 15] (fun at_ sh n _ _ => ∃ (k j : Nat) (X : Int), k ≤ 9 ∧ j ≤ e ∧ at_ = .int .i64 j ∧ sh = .int .i64 (7 * k : Nat) ∧ n = .int .u64 X ∧ 0 ≤ X ∧ X < 2 ^ (7 * k) ∧ a + k = j ∧ St 9 (okB 1 true) true l a e k X)
    (fun at_ _ _ _ _ => e - (intOf at_).toNat)
  case atStart => exact ⟨0, a, 0, by omega, by omega, rfl, rfl, rfl, by omega, by decide, rfl, hst⟩
  case round =>
    obtain ⟨k, j, X, hk, hj, rfl, rfl, rfl, hX0, hX1, hakj, hS⟩ := hrel
    have HX : Hid (X < 2 ^ (7 * k)) := hX1
    have HJ : Hid (a + k = j) := hakj
    clear hst hX1 hakj
    by_cases hlt : j < e
    · obtain ⟨c, hcc⟩ : ∃ c, c = l.getD j 0 := ⟨_, rfl⟩
      have hcell := hc j (by omega)
      obtain ⟨hr0, hr1⟩ := hr j
      rw [← hcc] at hcell hr0 hr1
      have HC : Hid (c = l.getD (a + k) 0) := by rw [HJ.out]; exact hcc
      have hand := and127 c hr0 (by omega)
      have hor := orStep X c k hX0 HX.out (by omega)
      have hA0 := addAt_lo (c := c) k hX0
      have hA1 := addAt_64 (c := c) hX0 HX.out (by omega)
      have HK : Hid (a + k < e) := by have := HJ.out; show a + k < e; omega
      clear hcc hc hr
      by_cases hk4 : 9 ≤ k
      · cases ho : okB 1 true c with
        | false =>
          go_wp2_with fail
          rw [show (64 - 7 * (k : Int)) = ((1 : Nat) : Int) from by omega]
          refine (mayEnd_s c 1 _ hr0 hr1 (by omega) (by omega)).mono ?_
          rintro en w1 ⟨rfl, rfl⟩
          go_wp2_with fail
          go_ret3
          exact ⟨_, _, _, hS.form HK.out he HC.out (by omega) ho, ret_3 (by simp [wrap64]) (by have := HJ.out; omega) rfl, rfl⟩
        | true =>
          have h128 := okB_lt ho
          go_wp2_with fail
          rw [show (64 - 7 * (k : Int)) = ((1 : Nat) : Int) from by omega]
          refine (mayEnd_s c 1 _ hr0 hr1 (by omega) (by omega)).mono ?_
          rintro en w1 ⟨rfl, rfl⟩
          go_wp2_with fail
          rw [show (7 * (k : Int) + 7) = 70 from by omega]
          refine (withSign_70 _ _ hA0 (by omega)).mono ?_
          rintro en w1 ⟨rfl, rfl⟩
          go_wp2_with fail
          go_ret3
          exact ⟨_, _, _, hS.done HK.out he HC.out (fun _ => ho) h128, ret_3 (congrArg (fun z => wrap64 (z)) (by rw [ws, if_neg (by omega)])) (by have := HJ.out; omega) rfl, rfl⟩
      · by_cases h128 : c < 128
        · go_wp2_with fail
          rw [show (7 * (k : Int) + 7) = ((7 * k + 7 : Nat) : Int) from by omega]
          refine (withSign_s _ _ _ hA0 (by omega) (by omega) (by omega) (addAt_hi HX.out (by omega))).mono ?_
          rintro en w1 ⟨rfl, rfl⟩
          go_wp2_with fail
          go_ret3
          exact ⟨_, _, _, hS.done HK.out he HC.out (fun h => absurd h (by omega)) h128, ret_3 (rfl) (by have := HJ.out; omega) rfl, rfl⟩
        · go_wp2_with fail
          go_round
          case rel => exact ⟨k + 1, j + 1, addAt X c k, by omega, by omega, by go_num, by go_num, rfl, hA0, addAt_hi HX.out (by omega), by have := HJ.out; omega, hS.next HK.out he HC.out (fun h => absurd h (by omega)) h128⟩
          case measure => simp [intOf]; omega
    · go_wp2_with fail
      go_ret3
      exact ⟨_, _, _, hS.short (by have := HJ.out; omega), ret_3 (by simp [wrap64]) (by have := HJ.out; omega) rfl, rfl⟩

end Go.Proofs.YtohapnninjdlfaaGreatDoor
