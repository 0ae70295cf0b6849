/-
  The walk of fnum's find, over its table; no statement is proved here.
-/
import Derived.Test.YtjkebimmddlccaaDoorNaF
import Derived.Deep.WholeRow
namespace Go.Proofs.YtjkebimmddlccaaDoor
open Go.RowKit
set_option linter.unusedVariables false
set_option linter.unusedSimpArgs false

def RW : Array Value := #[.int .i64 1, .int .i64 32, .int .i64 91, .int .i64 96, .int .i64 1, .int .i64 64, .int .i64 97, .int .i64 102, .int .i64 7, .int .i64 32, .int .i64 139, .int .i64 145, .int .i64 7, .int .i64 64, .int .i64 153, .int .i64 159, .int .i64 14, .int .i64 32, .int .i64 146, .int .i64 152, .int .i64 14, .int .i64 64, .int .i64 160, .int .i64 166]
theorem rw_idx0 (w : World) : (Instr.index 75 (.agg RW) (.int .i64 0)).run Tryd.prog w = .ok (.agg #[.int .i64 1, .int .i64 32, .int .i64 91, .int .i64 96]) w := by kernel_rfl
theorem rw_idx1 (w : World) : (Instr.index 75 (.agg RW) (.int .i64 1)).run Tryd.prog w = .ok (.agg #[.int .i64 1, .int .i64 64, .int .i64 97, .int .i64 102]) w := by kernel_rfl
theorem rw_idx2 (w : World) : (Instr.index 75 (.agg RW) (.int .i64 2)).run Tryd.prog w = .ok (.agg #[.int .i64 7, .int .i64 32, .int .i64 139, .int .i64 145]) w := by kernel_rfl
theorem rw_idx3 (w : World) : (Instr.index 75 (.agg RW) (.int .i64 3)).run Tryd.prog w = .ok (.agg #[.int .i64 7, .int .i64 64, .int .i64 153, .int .i64 159]) w := by kernel_rfl
theorem rw_idx4 (w : World) : (Instr.index 75 (.agg RW) (.int .i64 4)).run Tryd.prog w = .ok (.agg #[.int .i64 14, .int .i64 32, .int .i64 146, .int .i64 152]) w := by kernel_rfl
theorem rw_idx5 (w : World) : (Instr.index 75 (.agg RW) (.int .i64 5)).run Tryd.prog w = .ok (.agg #[.int .i64 14, .int .i64 64, .int .i64 160, .int .i64 166]) w := by kernel_rfl
/- The table of rows stands as its text lays it. -/
def Rws (w : World) : Prop := ∀ (j : Nat) (v : Value), RW[j]? = some v → w.cell? ⟨0, j, none⟩ = some v
theorem Rws.pos {w : World} (h : Rws w) : 0 < w.heap.size := by
  have := h 0 (.int .i64 1) rfl
  rcases Nat.eq_zero_or_pos w.heap.size with z | z
  · exfalso
    have e : w.heap[0]? = none := Array.getElem?_eq_none (by omega)
    simp [World.cell?, e] at this
  · exact z
theorem Rws.grew {w w' : World} (h : Rws w) (g : Grew w w') : Rws w' := fun j v hj => by rw [g.1.cell h.pos]; exact h j v hj
theorem isAgg_of {P : Program} {w : World} {ty e : TypeId} {n : Nat} (hu : P.underlying ty = some (.array n e)) : (isAgg ty).run P w = .ok true w := by
  simp [isAgg, run_underlying hu]
theorem wpList_load_glob {P : Program} {ops : Array Oper} {rest : List Oper} {o : Oper} {a : Act} {w : World} {Q : Exit → Act → World → Prop} (hgd : o.guard = none) (ty : TypeId) (g : Nat) (ho : o.op = .load ty (.global g))
    (cells : Array Value) (n : Nat) (e : TypeId) (hu : P.underlying ty = some (.array n e)) (hz : (sizeOf ty).run P w = .ok cells.size w) (hc : ∀ (j : Nat) (v : Value), cells[j]? = some v → w.cell? ⟨g, j, none⟩ = some v)
    (h : wpList P ops Q rest (a.put o.dst (.agg cells)) w) : wpList P ops Q (o :: rest) a w :=
  wpList_plain hgd fun _ hK => by
    have hl := run_loadCells_list (P := P) w ⟨g, 0, none⟩ cells.toList (fun j v hv => by
      have hadd : (⟨g, 0, none⟩ : Addr).add j = ⟨g, j, none⟩ := by unfold Addr.add; split <;> simp_all
      rw [hadd]
      exact hc j v (by simpa using hv))
    have hl2 : (loadCells ⟨g, 0, none⟩ cells.size).run P w = .ok cells w := by simpa using hl
    have hv : (Instr.loadAt ty (.pointer (some ⟨g, 0, none⟩))).run P w = .ok (.agg cells) w := by
      simp only [Instr.loadAt, Instr.sureAddr, Sem.run_bind, Sem.run_pure, Result.andThen, loadVar, isAgg_of hu, if_true, hz, hl2]
    unfold Oper.wp execOp
    have he : a.eval (.global g) = .pointer (some ⟨g, 0, none⟩) := rfl
    simp only [ho, he, Sem.run_bind, Result.andThen_ok, hv]
    exact hK _ _ h
set_option maxRecDepth 100000 in
set_option maxHeartbeats 2000000 in
theorem find_1a (op : Int) (w : World) (hT : Rws w) (h0 : 91 ≤ op) (h1 : op ≤ 96) :
    Calls Tryd.prog 19 #[.int .i64 1, .int .i64 op] w fun e w' => e = .returned (.tuple #[.int .i64 (op - 90), .int .i64 32]) ∧ Grew w w' := by
  have HT : Hid (Rws w) := hT
  clear hT
  have i0 := rw_idx0
  go_enter Tryd.func19, Tryd.ntmps19
  go_wp2_with (refine wpList_load_glob rfl 75 0 rfl RW 6 74 Tryd.underlying75 (by kernel_rfl) HT.out ?_)
  go_loopw [9] (fun n_ wr => (n_ = .int .i64 0) ∧ Grew w wr) (fun n_ _ => 6 - (intOf n_).toNat)
  case atStart => exact ⟨by simp, Grew.refl _⟩
  case round =>
    obtain ⟨hk, gr⟩ := hrel
    have GR : Hid (Grew w wr) := gr
    clear gr
    rcases hk with rfl
    · go_wp2
      go_quiet (fail)
      go_wp2
      go_ret2
      go_light
      have e1 : IntKind.i64.wrap (op - 91) = op - 91 := by rw [IntKind.wrap_i64]; omega
      have e2 : IntKind.i64.wrap (1 + (op - 91)) = op - 90 := by rw [IntKind.wrap_i64]; omega
      refine ⟨?_, (GR.out.alloc _).drewN _⟩
      show Ending.returned (.tuple #[.int .i64 (IntKind.i64.wrap (1 + IntKind.i64.wrap (op - 91))), .int .i64 _]) = _
      rw [e1, e2]
set_option maxRecDepth 100000 in
set_option maxHeartbeats 2000000 in
theorem find_1b (op : Int) (w : World) (hT : Rws w) (h0 : 97 ≤ op) (h1 : op ≤ 102) :
    Calls Tryd.prog 19 #[.int .i64 1, .int .i64 op] w fun e w' => e = .returned (.tuple #[.int .i64 (op - 96), .int .i64 64]) ∧ Grew w w' := by
  have HT : Hid (Rws w) := hT
  clear hT
  have i0 := rw_idx0
  have i1 := rw_idx1
  go_enter Tryd.func19, Tryd.ntmps19
  go_wp2_with (refine wpList_load_glob rfl 75 0 rfl RW 6 74 Tryd.underlying75 (by kernel_rfl) HT.out ?_)
  go_loopw [9] (fun n_ wr => (n_ = .int .i64 0 ∨ n_ = .int .i64 1) ∧ Grew w wr) (fun n_ _ => 6 - (intOf n_).toNat)
  case atStart => exact ⟨by simp, Grew.refl _⟩
  case round =>
    obtain ⟨hk, gr⟩ := hrel
    have GR : Hid (Grew w wr) := gr
    clear gr
    rcases hk with rfl | rfl
    · go_wp2
      go_roundw
      case rel => exact ⟨by simp, GR.out.alloc _⟩
      case measure => simp [intOf]
    · go_wp2
      go_quiet (fail)
      go_wp2
      go_ret2
      go_light
      have e1 : IntKind.i64.wrap (op - 97) = op - 97 := by rw [IntKind.wrap_i64]; omega
      have e2 : IntKind.i64.wrap (1 + (op - 97)) = op - 96 := by rw [IntKind.wrap_i64]; omega
      refine ⟨?_, (GR.out.alloc _).drewN _⟩
      show Ending.returned (.tuple #[.int .i64 (IntKind.i64.wrap (1 + IntKind.i64.wrap (op - 97))), .int .i64 _]) = _
      rw [e1, e2]
set_option maxRecDepth 100000 in
set_option maxHeartbeats 2000000 in
theorem find_1n (op : Int) (w : World) (hT : Rws w) (h1 : op < 91 ∨ 96 < op) (h2 : op < 97 ∨ 102 < op) (o0 : -9223372036854775808 ≤ op) (o1 : op ≤ 9223372036854775807) :
    Calls Tryd.prog 19 #[.int .i64 1, .int .i64 op] w fun e w' => e = .returned (.tuple #[.int .i64 0, .int .i64 0]) ∧ Grew w w' := by
  have HT : Hid (Rws w) := hT
  clear hT
  have i0 := rw_idx0
  have i1 := rw_idx1
  have i2 := rw_idx2
  have i3 := rw_idx3
  have i4 := rw_idx4
  have i5 := rw_idx5
  go_enter Tryd.func19, Tryd.ntmps19
  go_wp2_with (refine wpList_load_glob rfl 75 0 rfl RW 6 74 Tryd.underlying75 (by kernel_rfl) HT.out ?_)
  go_loopw [9] (fun n_ wr => (n_ = .int .i64 0 ∨ n_ = .int .i64 1 ∨ n_ = .int .i64 2 ∨ n_ = .int .i64 3 ∨ n_ = .int .i64 4 ∨ n_ = .int .i64 5 ∨ n_ = .int .i64 6) ∧ Grew w wr) (fun n_ _ => 6 - (intOf n_).toNat)
  case atStart => exact ⟨by simp, Grew.refl _⟩
  case round =>
    obtain ⟨hk, gr⟩ := hrel
    have GR : Hid (Grew w wr) := gr
    clear gr
    rcases hk with rfl | rfl | rfl | rfl | rfl | rfl | rfl
    · rcases h1 with c | c
      · go_wp2
        go_roundw
        case rel => exact ⟨by simp, GR.out.alloc _⟩
        case measure => simp [intOf]
      · go_wp2
        go_roundw
        case rel => exact ⟨by simp, GR.out.alloc _⟩
        case measure => simp [intOf]
    · rcases h2 with c | c
      · go_wp2
        go_roundw
        case rel => exact ⟨by simp, GR.out.alloc _⟩
        case measure => simp [intOf]
      · go_wp2
        go_roundw
        case rel => exact ⟨by simp, GR.out.alloc _⟩
        case measure => simp [intOf]
    · go_wp2
      go_roundw
      case rel => exact ⟨by simp, GR.out.alloc _⟩
      case measure => simp [intOf]
    · go_wp2
      go_roundw
      case rel => exact ⟨by simp, GR.out.alloc _⟩
      case measure => simp [intOf]
    · go_wp2
      go_roundw
      case rel => exact ⟨by simp, GR.out.alloc _⟩
      case measure => simp [intOf]
    · go_wp2
      go_roundw
      case rel => exact ⟨by simp, GR.out.alloc _⟩
      case measure => simp [intOf]
    · go_wp2
      go_ret2
      go_light
      exact ⟨by first | rfl | simp, by first | exact GR.out | exact GR.out.alloc _⟩
set_option maxRecDepth 100000 in
set_option maxHeartbeats 2000000 in
theorem find_7a (op : Int) (w : World) (hT : Rws w) (h0 : 139 ≤ op) (h1 : op ≤ 145) :
    Calls Tryd.prog 19 #[.int .i64 7, .int .i64 op] w fun e w' => e = .returned (.tuple #[.int .i64 (op - 132), .int .i64 32]) ∧ Grew w w' := by
  have HT : Hid (Rws w) := hT
  clear hT
  have i0 := rw_idx0
  have i1 := rw_idx1
  have i2 := rw_idx2
  go_enter Tryd.func19, Tryd.ntmps19
  go_wp2_with (refine wpList_load_glob rfl 75 0 rfl RW 6 74 Tryd.underlying75 (by kernel_rfl) HT.out ?_)
  go_loopw [9] (fun n_ wr => (n_ = .int .i64 0 ∨ n_ = .int .i64 1 ∨ n_ = .int .i64 2) ∧ Grew w wr) (fun n_ _ => 6 - (intOf n_).toNat)
  case atStart => exact ⟨by simp, Grew.refl _⟩
  case round =>
    obtain ⟨hk, gr⟩ := hrel
    have GR : Hid (Grew w wr) := gr
    clear gr
    rcases hk with rfl | rfl | rfl
    · go_wp2
      go_roundw
      case rel => exact ⟨by simp, GR.out.alloc _⟩
      case measure => simp [intOf]
    · go_wp2
      go_roundw
      case rel => exact ⟨by simp, GR.out.alloc _⟩
      case measure => simp [intOf]
    · go_wp2
      go_quiet (fail)
      go_wp2
      go_ret2
      go_light
      have e1 : IntKind.i64.wrap (op - 139) = op - 139 := by rw [IntKind.wrap_i64]; omega
      have e2 : IntKind.i64.wrap (7 + (op - 139)) = op - 132 := by rw [IntKind.wrap_i64]; omega
      refine ⟨?_, (GR.out.alloc _).drewN _⟩
      show Ending.returned (.tuple #[.int .i64 (IntKind.i64.wrap (7 + IntKind.i64.wrap (op - 139))), .int .i64 _]) = _
      rw [e1, e2]
set_option maxRecDepth 100000 in
set_option maxHeartbeats 2000000 in
theorem find_7b (op : Int) (w : World) (hT : Rws w) (h0 : 153 ≤ op) (h1 : op ≤ 159) :
    Calls Tryd.prog 19 #[.int .i64 7, .int .i64 op] w fun e w' => e = .returned (.tuple #[.int .i64 (op - 146), .int .i64 64]) ∧ Grew w w' := by
  have HT : Hid (Rws w) := hT
  clear hT
  have i0 := rw_idx0
  have i1 := rw_idx1
  have i2 := rw_idx2
  have i3 := rw_idx3
  go_enter Tryd.func19, Tryd.ntmps19
  go_wp2_with (refine wpList_load_glob rfl 75 0 rfl RW 6 74 Tryd.underlying75 (by kernel_rfl) HT.out ?_)
  go_loopw [9] (fun n_ wr => (n_ = .int .i64 0 ∨ n_ = .int .i64 1 ∨ n_ = .int .i64 2 ∨ n_ = .int .i64 3) ∧ Grew w wr) (fun n_ _ => 6 - (intOf n_).toNat)
  case atStart => exact ⟨by simp, Grew.refl _⟩
  case round =>
    obtain ⟨hk, gr⟩ := hrel
    have GR : Hid (Grew w wr) := gr
    clear gr
    rcases hk with rfl | rfl | rfl | rfl
    · go_wp2
      go_roundw
      case rel => exact ⟨by simp, GR.out.alloc _⟩
      case measure => simp [intOf]
    · go_wp2
      go_roundw
      case rel => exact ⟨by simp, GR.out.alloc _⟩
      case measure => simp [intOf]
    · go_wp2
      go_roundw
      case rel => exact ⟨by simp, GR.out.alloc _⟩
      case measure => simp [intOf]
    · go_wp2
      go_quiet (fail)
      go_wp2
      go_ret2
      go_light
      have e1 : IntKind.i64.wrap (op - 153) = op - 153 := by rw [IntKind.wrap_i64]; omega
      have e2 : IntKind.i64.wrap (7 + (op - 153)) = op - 146 := by rw [IntKind.wrap_i64]; omega
      refine ⟨?_, (GR.out.alloc _).drewN _⟩
      show Ending.returned (.tuple #[.int .i64 (IntKind.i64.wrap (7 + IntKind.i64.wrap (op - 153))), .int .i64 _]) = _
      rw [e1, e2]
set_option maxRecDepth 100000 in
set_option maxHeartbeats 2000000 in
theorem find_7n (op : Int) (w : World) (hT : Rws w) (h1 : op < 139 ∨ 145 < op) (h2 : op < 153 ∨ 159 < op) (o0 : -9223372036854775808 ≤ op) (o1 : op ≤ 9223372036854775807) :
    Calls Tryd.prog 19 #[.int .i64 7, .int .i64 op] w fun e w' => e = .returned (.tuple #[.int .i64 0, .int .i64 0]) ∧ Grew w w' := by
  have HT : Hid (Rws w) := hT
  clear hT
  have i0 := rw_idx0
  have i1 := rw_idx1
  have i2 := rw_idx2
  have i3 := rw_idx3
  have i4 := rw_idx4
  have i5 := rw_idx5
  go_enter Tryd.func19, Tryd.ntmps19
  go_wp2_with (refine wpList_load_glob rfl 75 0 rfl RW 6 74 Tryd.underlying75 (by kernel_rfl) HT.out ?_)
  go_loopw [9] (fun n_ wr => (n_ = .int .i64 0 ∨ n_ = .int .i64 1 ∨ n_ = .int .i64 2 ∨ n_ = .int .i64 3 ∨ n_ = .int .i64 4 ∨ n_ = .int .i64 5 ∨ n_ = .int .i64 6) ∧ Grew w wr) (fun n_ _ => 6 - (intOf n_).toNat)
  case atStart => exact ⟨by simp, Grew.refl _⟩
  case round =>
    obtain ⟨hk, gr⟩ := hrel
    have GR : Hid (Grew w wr) := gr
    clear gr
    rcases hk with rfl | rfl | rfl | rfl | rfl | rfl | rfl
    · go_wp2
      go_roundw
      case rel => exact ⟨by simp, GR.out.alloc _⟩
      case measure => simp [intOf]
    · go_wp2
      go_roundw
      case rel => exact ⟨by simp, GR.out.alloc _⟩
      case measure => simp [intOf]
    · rcases h1 with c | c
      · go_wp2
        go_roundw
        case rel => exact ⟨by simp, GR.out.alloc _⟩
        case measure => simp [intOf]
      · go_wp2
        go_roundw
        case rel => exact ⟨by simp, GR.out.alloc _⟩
        case measure => simp [intOf]
    · rcases h2 with c | c
      · go_wp2
        go_roundw
        case rel => exact ⟨by simp, GR.out.alloc _⟩
        case measure => simp [intOf]
      · go_wp2
        go_roundw
        case rel => exact ⟨by simp, GR.out.alloc _⟩
        case measure => simp [intOf]
    · go_wp2
      go_roundw
      case rel => exact ⟨by simp, GR.out.alloc _⟩
      case measure => simp [intOf]
    · go_wp2
      go_roundw
      case rel => exact ⟨by simp, GR.out.alloc _⟩
      case measure => simp [intOf]
    · go_wp2
      go_ret2
      go_light
      exact ⟨by first | rfl | simp, by first | exact GR.out | exact GR.out.alloc _⟩
set_option maxRecDepth 100000 in
set_option maxHeartbeats 2000000 in
theorem find_14a (op : Int) (w : World) (hT : Rws w) (h0 : 146 ≤ op) (h1 : op ≤ 152) :
    Calls Tryd.prog 19 #[.int .i64 14, .int .i64 op] w fun e w' => e = .returned (.tuple #[.int .i64 (op - 132), .int .i64 32]) ∧ Grew w w' := by
  have HT : Hid (Rws w) := hT
  clear hT
  have i0 := rw_idx0
  have i1 := rw_idx1
  have i2 := rw_idx2
  have i3 := rw_idx3
  have i4 := rw_idx4
  go_enter Tryd.func19, Tryd.ntmps19
  go_wp2_with (refine wpList_load_glob rfl 75 0 rfl RW 6 74 Tryd.underlying75 (by kernel_rfl) HT.out ?_)
  go_loopw [9] (fun n_ wr => (n_ = .int .i64 0 ∨ n_ = .int .i64 1 ∨ n_ = .int .i64 2 ∨ n_ = .int .i64 3 ∨ n_ = .int .i64 4) ∧ Grew w wr) (fun n_ _ => 6 - (intOf n_).toNat)
  case atStart => exact ⟨by simp, Grew.refl _⟩
  case round =>
    obtain ⟨hk, gr⟩ := hrel
    have GR : Hid (Grew w wr) := gr
    clear gr
    rcases hk with rfl | rfl | rfl | rfl | rfl
    · go_wp2
      go_roundw
      case rel => exact ⟨by simp, GR.out.alloc _⟩
      case measure => simp [intOf]
    · go_wp2
      go_roundw
      case rel => exact ⟨by simp, GR.out.alloc _⟩
      case measure => simp [intOf]
    · go_wp2
      go_roundw
      case rel => exact ⟨by simp, GR.out.alloc _⟩
      case measure => simp [intOf]
    · go_wp2
      go_roundw
      case rel => exact ⟨by simp, GR.out.alloc _⟩
      case measure => simp [intOf]
    · go_wp2
      go_quiet (fail)
      go_wp2
      go_ret2
      go_light
      have e1 : IntKind.i64.wrap (op - 146) = op - 146 := by rw [IntKind.wrap_i64]; omega
      have e2 : IntKind.i64.wrap (14 + (op - 146)) = op - 132 := by rw [IntKind.wrap_i64]; omega
      refine ⟨?_, (GR.out.alloc _).drewN _⟩
      show Ending.returned (.tuple #[.int .i64 (IntKind.i64.wrap (14 + IntKind.i64.wrap (op - 146))), .int .i64 _]) = _
      rw [e1, e2]
set_option maxRecDepth 100000 in
set_option maxHeartbeats 2000000 in
theorem find_14b (op : Int) (w : World) (hT : Rws w) (h0 : 160 ≤ op) (h1 : op ≤ 166) :
    Calls Tryd.prog 19 #[.int .i64 14, .int .i64 op] w fun e w' => e = .returned (.tuple #[.int .i64 (op - 146), .int .i64 64]) ∧ Grew w w' := by
  have HT : Hid (Rws w) := hT
  clear hT
  have i0 := rw_idx0
  have i1 := rw_idx1
  have i2 := rw_idx2
  have i3 := rw_idx3
  have i4 := rw_idx4
  have i5 := rw_idx5
  go_enter Tryd.func19, Tryd.ntmps19
  go_wp2_with (refine wpList_load_glob rfl 75 0 rfl RW 6 74 Tryd.underlying75 (by kernel_rfl) HT.out ?_)
  go_loopw [9] (fun n_ wr => (n_ = .int .i64 0 ∨ n_ = .int .i64 1 ∨ n_ = .int .i64 2 ∨ n_ = .int .i64 3 ∨ n_ = .int .i64 4 ∨ n_ = .int .i64 5) ∧ Grew w wr) (fun n_ _ => 6 - (intOf n_).toNat)
  case atStart => exact ⟨by simp, Grew.refl _⟩
  case round =>
    obtain ⟨hk, gr⟩ := hrel
    have GR : Hid (Grew w wr) := gr
    clear gr
    rcases hk with rfl | rfl | rfl | rfl | rfl | rfl
    · go_wp2
      go_roundw
      case rel => exact ⟨by simp, GR.out.alloc _⟩
      case measure => simp [intOf]
    · go_wp2
      go_roundw
      case rel => exact ⟨by simp, GR.out.alloc _⟩
      case measure => simp [intOf]
    · go_wp2
      go_roundw
      case rel => exact ⟨by simp, GR.out.alloc _⟩
      case measure => simp [intOf]
    · go_wp2
      go_roundw
      case rel => exact ⟨by simp, GR.out.alloc _⟩
      case measure => simp [intOf]
    · go_wp2
      go_roundw
      case rel => exact ⟨by simp, GR.out.alloc _⟩
      case measure => simp [intOf]
    · go_wp2
      go_quiet (fail)
      go_wp2
      go_ret2
      go_light
      have e1 : IntKind.i64.wrap (op - 160) = op - 160 := by rw [IntKind.wrap_i64]; omega
      have e2 : IntKind.i64.wrap (14 + (op - 160)) = op - 146 := by rw [IntKind.wrap_i64]; omega
      refine ⟨?_, (GR.out.alloc _).drewN _⟩
      show Ending.returned (.tuple #[.int .i64 (IntKind.i64.wrap (14 + IntKind.i64.wrap (op - 160))), .int .i64 _]) = _
      rw [e1, e2]
set_option maxRecDepth 100000 in
set_option maxHeartbeats 2000000 in
theorem find_14n (op : Int) (w : World) (hT : Rws w) (h1 : op < 146 ∨ 152 < op) (h2 : op < 160 ∨ 166 < op) (o0 : -9223372036854775808 ≤ op) (o1 : op ≤ 9223372036854775807) :
    Calls Tryd.prog 19 #[.int .i64 14, .int .i64 op] w fun e w' => e = .returned (.tuple #[.int .i64 0, .int .i64 0]) ∧ Grew w w' := by
  have HT : Hid (Rws w) := hT
  clear hT
  have i0 := rw_idx0
  have i1 := rw_idx1
  have i2 := rw_idx2
  have i3 := rw_idx3
  have i4 := rw_idx4
  have i5 := rw_idx5
  go_enter Tryd.func19, Tryd.ntmps19
  go_wp2_with (refine wpList_load_glob rfl 75 0 rfl RW 6 74 Tryd.underlying75 (by kernel_rfl) HT.out ?_)
  go_loopw [9] (fun n_ wr => (n_ = .int .i64 0 ∨ n_ = .int .i64 1 ∨ n_ = .int .i64 2 ∨ n_ = .int .i64 3 ∨ n_ = .int .i64 4 ∨ n_ = .int .i64 5 ∨ n_ = .int .i64 6) ∧ Grew w wr) (fun n_ _ => 6 - (intOf n_).toNat)
  case atStart => exact ⟨by simp, Grew.refl _⟩
  case round =>
    obtain ⟨hk, gr⟩ := hrel
    have GR : Hid (Grew w wr) := gr
    clear gr
    rcases hk with rfl | rfl | rfl | rfl | rfl | rfl | rfl
    · go_wp2
      go_roundw
      case rel => exact ⟨by simp, GR.out.alloc _⟩
      case measure => simp [intOf]
    · go_wp2
      go_roundw
      case rel => exact ⟨by simp, GR.out.alloc _⟩
      case measure => simp [intOf]
    · go_wp2
      go_roundw
      case rel => exact ⟨by simp, GR.out.alloc _⟩
      case measure => simp [intOf]
    · go_wp2
      go_roundw
      case rel => exact ⟨by simp, GR.out.alloc _⟩
      case measure => simp [intOf]
    · rcases h1 with c | c
      · go_wp2
        go_roundw
        case rel => exact ⟨by simp, GR.out.alloc _⟩
        case measure => simp [intOf]
      · go_wp2
        go_roundw
        case rel => exact ⟨by simp, GR.out.alloc _⟩
        case measure => simp [intOf]
    · rcases h2 with c | c
      · go_wp2
        go_roundw
        case rel => exact ⟨by simp, GR.out.alloc _⟩
        case measure => simp [intOf]
      · go_wp2
        go_roundw
        case rel => exact ⟨by simp, GR.out.alloc _⟩
        case measure => simp [intOf]
    · go_wp2
      go_ret2
      go_light
      exact ⟨by first | rfl | simp, by first | exact GR.out | exact GR.out.alloc _⟩
end Go.Proofs.YtjkebimmddlccaaDoor
