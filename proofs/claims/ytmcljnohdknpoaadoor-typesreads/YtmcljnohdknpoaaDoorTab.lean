/-
  The tables of words, and the walk of the reader's num; no statement is proved here.
-/
import Derived.Test.YtmcljnohdknpoaaDoorSkip
import Derived.Deep.WholeRow
namespace Go.Proofs.YtmcljnohdknpoaaDoor
open Go.RowKit
set_option linter.unusedVariables false
set_option linter.unusedSimpArgs false

def numW : Nat → ByteArray
  | 1 => ⟨#[105, 51, 50]⟩
  | 2 => ⟨#[105, 54, 52]⟩
  | 3 => ⟨#[102, 51, 50]⟩
  | 4 => ⟨#[102, 54, 52]⟩
  | 6 => ⟨#[105, 56]⟩
  | 7 => ⟨#[105, 49, 54]⟩
  | _ => ⟨#[]⟩
def heapW : Nat → ByteArray
  | 0 => ⟨#[102, 117, 110, 99]⟩
  | 1 => ⟨#[110, 111, 102, 117, 110, 99]⟩
  | 2 => ⟨#[101, 120, 116, 101, 114, 110]⟩
  | 3 => ⟨#[110, 111, 101, 120, 116, 101, 114, 110]⟩
  | 4 => ⟨#[97, 110, 121]⟩
  | 5 => ⟨#[101, 113]⟩
  | 6 => ⟨#[105, 51, 49]⟩
  | 7 => ⟨#[115, 116, 114, 117, 99, 116]⟩
  | 8 => ⟨#[97, 114, 114, 97, 121]⟩
  | 9 => ⟨#[110, 111, 110, 101]⟩
  | 10 => ⟨#[101, 120, 110]⟩
  | 11 => ⟨#[110, 111, 101, 120, 110]⟩
  | _ => ⟨#[]⟩
def NW : Array Value := #[.string (numW 0), .string (numW 1), .string (numW 2), .string (numW 3), .string (numW 4), .string (numW 5), .string (numW 6), .string (numW 7)]
def HW : Array Value := #[.string (heapW 0), .string (heapW 1), .string (heapW 2), .string (heapW 3), .string (heapW 4), .string (heapW 5), .string (heapW 6), .string (heapW 7), .string (heapW 8), .string (heapW 9), .string (heapW 10), .string (heapW 11)]
theorem nw_i0 (w : World) : (Instr.index 75 (.agg NW) (.int .i64 0)).run Tryd.prog w = .ok (.string (numW 0)) w := by kernel_rfl
theorem nw_i1 (w : World) : (Instr.index 75 (.agg NW) (.int .i64 1)).run Tryd.prog w = .ok (.string (numW 1)) w := by kernel_rfl
theorem nw_i2 (w : World) : (Instr.index 75 (.agg NW) (.int .i64 2)).run Tryd.prog w = .ok (.string (numW 2)) w := by kernel_rfl
theorem nw_i3 (w : World) : (Instr.index 75 (.agg NW) (.int .i64 3)).run Tryd.prog w = .ok (.string (numW 3)) w := by kernel_rfl
theorem nw_i4 (w : World) : (Instr.index 75 (.agg NW) (.int .i64 4)).run Tryd.prog w = .ok (.string (numW 4)) w := by kernel_rfl
theorem nw_i5 (w : World) : (Instr.index 75 (.agg NW) (.int .i64 5)).run Tryd.prog w = .ok (.string (numW 5)) w := by kernel_rfl
theorem nw_i6 (w : World) : (Instr.index 75 (.agg NW) (.int .i64 6)).run Tryd.prog w = .ok (.string (numW 6)) w := by kernel_rfl
theorem nw_i7 (w : World) : (Instr.index 75 (.agg NW) (.int .i64 7)).run Tryd.prog w = .ok (.string (numW 7)) w := by kernel_rfl
theorem nw_idx (k : Nat) (hk : k < 8) (w : World) : (Instr.index 75 (.agg NW) (.int .i64 (k : Int))).run Tryd.prog w = .ok (.string (numW k)) w := by
  match k, hk with
  | 0, _ => exact nw_i0 w
  | 1, _ => exact nw_i1 w
  | 2, _ => exact nw_i2 w
  | 3, _ => exact nw_i3 w
  | 4, _ => exact nw_i4 w
  | 5, _ => exact nw_i5 w
  | 6, _ => exact nw_i6 w
  | 7, _ => exact nw_i7 w
theorem hw_i0 (w : World) : (Instr.index 91 (.agg HW) (.int .i64 0)).run Tryd.prog w = .ok (.string (heapW 0)) w := by kernel_rfl
theorem hw_i1 (w : World) : (Instr.index 91 (.agg HW) (.int .i64 1)).run Tryd.prog w = .ok (.string (heapW 1)) w := by kernel_rfl
theorem hw_i2 (w : World) : (Instr.index 91 (.agg HW) (.int .i64 2)).run Tryd.prog w = .ok (.string (heapW 2)) w := by kernel_rfl
theorem hw_i3 (w : World) : (Instr.index 91 (.agg HW) (.int .i64 3)).run Tryd.prog w = .ok (.string (heapW 3)) w := by kernel_rfl
theorem hw_i4 (w : World) : (Instr.index 91 (.agg HW) (.int .i64 4)).run Tryd.prog w = .ok (.string (heapW 4)) w := by kernel_rfl
theorem hw_i5 (w : World) : (Instr.index 91 (.agg HW) (.int .i64 5)).run Tryd.prog w = .ok (.string (heapW 5)) w := by kernel_rfl
theorem hw_i6 (w : World) : (Instr.index 91 (.agg HW) (.int .i64 6)).run Tryd.prog w = .ok (.string (heapW 6)) w := by kernel_rfl
theorem hw_i7 (w : World) : (Instr.index 91 (.agg HW) (.int .i64 7)).run Tryd.prog w = .ok (.string (heapW 7)) w := by kernel_rfl
theorem hw_i8 (w : World) : (Instr.index 91 (.agg HW) (.int .i64 8)).run Tryd.prog w = .ok (.string (heapW 8)) w := by kernel_rfl
theorem hw_i9 (w : World) : (Instr.index 91 (.agg HW) (.int .i64 9)).run Tryd.prog w = .ok (.string (heapW 9)) w := by kernel_rfl
theorem hw_i10 (w : World) : (Instr.index 91 (.agg HW) (.int .i64 10)).run Tryd.prog w = .ok (.string (heapW 10)) w := by kernel_rfl
theorem hw_i11 (w : World) : (Instr.index 91 (.agg HW) (.int .i64 11)).run Tryd.prog w = .ok (.string (heapW 11)) w := by kernel_rfl
theorem hw_idx (k : Nat) (hk : k < 12) (w : World) : (Instr.index 91 (.agg HW) (.int .i64 (k : Int))).run Tryd.prog w = .ok (.string (heapW k)) w := by
  match k, hk with
  | 0, _ => exact hw_i0 w
  | 1, _ => exact hw_i1 w
  | 2, _ => exact hw_i2 w
  | 3, _ => exact hw_i3 w
  | 4, _ => exact hw_i4 w
  | 5, _ => exact hw_i5 w
  | 6, _ => exact hw_i6 w
  | 7, _ => exact hw_i7 w
  | 8, _ => exact hw_i8 w
  | 9, _ => exact hw_i9 w
  | 10, _ => exact hw_i10 w
  | 11, _ => exact hw_i11 w
/- The tables stand as their texts lay them. -/
def Tabs (w : World) : Prop := (∀ (j : Nat) (v : Value), NW[j]? = some v → w.cell? ⟨0, j, none⟩ = some v) ∧ (∀ (j : Nat) (v : Value), HW[j]? = some v → w.cell? ⟨1, j, none⟩ = some v)
theorem pos_of_cell {w : World} {b j : Nat} {v : Value} (h : w.cell? ⟨b, j, none⟩ = some v) : b < w.heap.size := block_lt_of_cell h
theorem Tabs.turn {w w' : World} {S : List Nat} (h : Tabs w) (t : Turn S w w') (h0 : 0 ∉ S) (h1 : 1 ∉ S) : Tabs w' :=
  ⟨fun j v hj => by rw [World.cell?_of_block (w := w) (a := ⟨0, j, none⟩) (t.block _ (pos_of_cell (h.1 j v hj)) h0)]; exact h.1 j v hj,
   fun j v hj => by rw [World.cell?_of_block (w := w) (a := ⟨1, j, none⟩) (t.block _ (pos_of_cell (h.2 j v hj)) h1)]; exact h.2 j v hj⟩
theorem Tabs.grew {w w' : World} (h : Tabs w) (t : Grew w w') : Tabs w' := h.turn (t.turn []) (by simp) (by simp)
theorem isAgg_of {P : Program} {w : World} {ty e : TypeId} {n : Nat} (hu : P.underlying ty = some (.array n e)) : (isAgg ty).run P w = .ok true w := by
  simp [isAgg, run_underlying hu]
theorem wpList_load_glob {P : Program} {ops : Array Oper} {rest : List Oper} {o : Oper} {a : Act} {w : World} {Q : Exit → Act → World → Prop} (hgd : o.guard = none) (ty : TypeId) (g : Nat) (ho : o.op = .load ty (.global g))
    (cells : Array Value) (n : Nat) (e : TypeId) (hu : P.underlying ty = some (.array n e)) (hz : (sizeOf ty).run P w = .ok cells.size w) (hc : ∀ (j : Nat) (v : Value), cells[j]? = some v → w.cell? ⟨g, j, none⟩ = some v)
    (h : wpList P ops Q rest (a.put o.dst (.agg cells)) w) : wpList P ops Q (o :: rest) a w :=
  wpList_plain hgd fun _ hK => by
    have hl := run_loadCells_list (P := P) w ⟨g, 0, none⟩ cells.toList (fun j v hv => by
      have hadd : (⟨g, 0, none⟩ : Addr).add j = ⟨g, j, none⟩ := by unfold Addr.add; split <;> simp_all
      rw [hadd]
      exact hc j v (by simpa using hv))
    have hl2 : (loadCells ⟨g, 0, none⟩ cells.size).run P w = .ok cells w := by simpa using hl
    have hv : (Instr.loadAt ty (.pointer (some ⟨g, 0, none⟩))).run P w = .ok (.agg cells) w := by
      simp only [Instr.loadAt, Instr.sureAddr, Sem.run_bind, Sem.run_pure, Result.andThen, loadVar, isAgg_of hu, if_true, hz, hl2]
    unfold Oper.wp execOp
    have he : a.eval (.global g) = .pointer (some ⟨g, 0, none⟩) := rfl
    simp only [ho, he, Sem.run_bind, Result.andThen_ok, hv]
    exact hK _ _ h
/- A word's number among the value types. -/
def numIdx (x : ByteArray) : Option Nat := (List.range 8).find? fun k => decide (numW k ≠ ⟨#[]⟩ ∧ numW k = x)
theorem numIdx_some {x : ByteArray} {m : Nat} (h : numIdx x = some m) : m < 8 ∧ numW m ≠ ⟨#[]⟩ ∧ numW m = x ∧ ∀ k, k < m → numW k = ⟨#[]⟩ ∨ numW k ≠ x := by
  unfold numIdx at h
  obtain ⟨h1, i, hi, hm, h2⟩ := List.find?_eq_some_iff_getElem.1 h
  simp at hi hm
  subst hm
  simp only [decide_eq_true_eq] at h1
  refine ⟨hi, h1.1, h1.2, fun k hk => ?_⟩
  have := h2 k hk
  simp only [List.getElem_range, Bool.not_eq_true', decide_eq_false_iff_not] at this
  by_cases he : numW k = ⟨#[]⟩
  · exact Or.inl he
  · exact Or.inr (fun h => this ⟨he, h⟩)
theorem numIdx_none {x : ByteArray} (h : numIdx x = none) : ∀ k, k < 8 → numW k = ⟨#[]⟩ ∨ numW k ≠ x := by
  intro k hk
  unfold numIdx at h
  have := List.find?_eq_none.1 h k (by simpa using hk)
  simp only [decide_eq_true_eq] at this
  by_cases he : numW k = ⟨#[]⟩
  · exact Or.inl he
  · exact Or.inr (fun h => this ⟨he, h⟩)
theorem is_empty (x : ByteArray) (h : x = ⟨#[]⟩) : x.toList.isEmpty = true := by
  subst h
  rw [toList_empty]
  rfl
theorem not_empty {x : ByteArray} (h : x ≠ ⟨#[]⟩) : x.toList.isEmpty = false := by
  rw [toList_empty]
  apply decide_eq_false
  intro h0
  exact h (ByteArray.ext (Array.eq_empty_of_size_eq_zero h0))
theorem Turn.set3 {S : List Nat} {w w' : World} (h : Turn S w w') (N : Nat) (hN : w.heap.size ≤ N) (x y z : Value) : Turn S w (((w'.setCell ⟨N, 0, none⟩ x).setCell ⟨N, 1, none⟩ y).setCell ⟨N, 2, none⟩ z) :=
  ((h.set (p := ⟨N, 0, none⟩) (Or.inr hN) x).set (p := ⟨N, 1, none⟩) (Or.inr hN) y).set (p := ⟨N, 2, none⟩) (Or.inr hN) z
theorem RD.set {w : World} {b : Nat} {s : ByteArray} {p : Nat} (h : RD w b s p) {q : Addr} (hq : b ≠ q.block) (x : Value) : RD (w.setCell q x) b s p := ⟨heap_other h.1 hq x, h.2⟩
theorem RD.set3 {w : World} {b : Nat} {s : ByteArray} {p : Nat} (h : RD w b s p) (N : Nat) (hN : b ≠ N) (x y z : Value) : RD (((w.setCell ⟨N, 0, none⟩ x).setCell ⟨N, 1, none⟩ y).setCell ⟨N, 2, none⟩ z) b s p :=
  ((h.set (q := ⟨N, 0, none⟩) hN x).set (q := ⟨N, 1, none⟩) hN y).set (q := ⟨N, 2, none⟩) hN z
def vt (n : Int) (nul : Bool) (h : Int) : Value := .agg #[.int .i64 n, .bool nul, .int .i64 h]
set_option maxRecDepth 100000 in
theorem num_ok {w : World} {b : Nat} {s : ByteArray} {p m : Nat} (h : RD w b s p) (hs : s.size ≤ 65536) (hT : Tabs w) (hm : numIdx (tk s p) = some m) :
    Calls Tryd.prog 40 #[.pointer (some ⟨b, 0, none⟩)] w fun en w' => en = .returned (vt m false 0) ∧ Turn [b] w w' ∧ RD w' b s (nx s p) := by
  obtain ⟨hm8, hm0, hmx, hlow⟩ := numIdx_some hm
  have HT : Hid (∀ (j : Nat) (v : Value), NW[j]? = some v → (w.alloc (.cells #[.int .i64 0, .bool false, .int .i64 0] 23)).cell? ⟨0, j, none⟩ = some v) := (hT.grew ((Grew.refl w).alloc _)).1
  have HR : Hid (RD (w.alloc (.cells #[.int .i64 0, .bool false, .int .i64 0] 23)) b s p) := h.grew ((Grew.refl w).alloc _)
  have hb : b < w.heap.size := lt_of_obj h.1
  go_enter Tryd.func40, Tryd.ntmps40
  go_wp2_with (refine wpList_load_glob rfl 75 0 rfl NW 8 9 Tryd.underlying75 (by kernel_rfl) HT.out ?_)
  generalize hw1 : w.alloc (.cells #[.int .i64 0, .bool false, .int .i64 0] 23) = w1 at *
  have hN : w1.heap[w.heap.size]? = some (.cells #[.int .i64 0, .bool false, .int .i64 0] 23 (0, 0)) := by rw [← hw1]; exact heap_alloc_last _ _
  have HN : Hid (w1.heap[w.heap.size]? = some (.cells #[.int .i64 0, .bool false, .int .i64 0] 23 (0, 0))) := hN
  have T1 : Hid (Turn [b] w w1) := by rw [← hw1]; exact (Turn.refl [b] w).alloc _
  clear hN hw1 h hT HT hm
  go_loop [6] (fun i_ => ∃ k : Nat, i_ = .int .i64 k ∧ k ≤ m) (fun i_ => m - (intOf i_).toNat)
  case atStart => exact ⟨0, rfl, Nat.zero_le _⟩
  case round =>
    obtain ⟨k, rfl, hk⟩ := hrel
    have hidx := fun w => nw_idx k (by omega) w
    have hd : decide ((k : Int) < 8) = true := by simp; omega
    by_cases hkm : k = m
    · subst hkm
      have he := not_empty hm0
      have C := skip_yes HR.out hs (numW k) hmx.symm
      clear hlow hm0 hmx
      generalize numW k = y at *
      go_wp2_with fail
      refine C.mono ?_
      rintro en w2 ⟨rfl, t2, r2⟩
      have hN2 := t2.other HN.out (by simp; omega)
      have z0 := free_of hN2 0
      have z1 := free_of hN2 1
      have z2 := free_of hN2 2
      have c0 := cell_of hN2 0
      have c1 := cell_of hN2 1
      have c2 := cell_of hN2 2
      simp at c0 c1 c2
      have T2 : Hid (Turn [b] w w2) := T1.out.trans t2
      have R2 : Hid (RD w2 b s (nx s p)) := r2
      clear t2 r2 C
      go_wp2_with fail
      refine bodyPost_ret (v := vt k false 0) (by simp [results, Tryd.results40, go_sem, vt, c0, c1, c2]) rfl ?_
      exact ⟨rfl, T2.out.set3 _ (Nat.le_refl _) _ _ _, R2.out.set3 _ (by omega) _ _ _⟩
    · rcases hlow k (by omega) with he | hne
      · have he' := is_empty _ he
        clear hlow he
        generalize numW k = y at *
        go_wp2_with fail
        go_round
        case rel => exact ⟨k + 1, by go_num, by omega⟩
        case measure => simp [intOf]; omega
      · have C := skip_no HR.out (numW k) (fun h => hne h.symm)
        clear hlow
        by_cases he : numW k = ⟨#[]⟩
        · have he' := is_empty _ he
          clear he hne C
          generalize numW k = y at *
          go_wp2_with fail
          go_round
          case rel => exact ⟨k + 1, by go_num, by omega⟩
          case measure => simp [intOf]; omega
        · have he' := not_empty he
          clear hne he
          generalize numW k = y at *
          go_wp2_with fail
          refine C.mono ?_
          rintro en w2 ⟨rfl, h2⟩
          obtain rfl := h2.symm
          go_wp2_with fail
          go_round
          case rel => exact ⟨k + 1, by go_num, by omega⟩
          case measure => simp [intOf]; omega
set_option maxRecDepth 100000 in
theorem num_bad {w : World} {b : Nat} {s : ByteArray} {p : Nat} (h : RD w b s p) (hs : s.size ≤ 65536) (hT : Tabs w) (hm : numIdx (tk s p) = none) :
    Calls Tryd.prog 40 #[.pointer (some ⟨b, 0, none⟩)] w fun en w' => en = .panicked (flt p) ∧ Grew w w' := by
  have hlow := numIdx_none hm
  have HT : Hid (∀ (j : Nat) (v : Value), NW[j]? = some v → (w.alloc (.cells #[.int .i64 0, .bool false, .int .i64 0] 23)).cell? ⟨0, j, none⟩ = some v) := (hT.grew ((Grew.refl w).alloc _)).1
  have HR : Hid (RD (w.alloc (.cells #[.int .i64 0, .bool false, .int .i64 0] 23)) b s p) := h.grew ((Grew.refl w).alloc _)
  have hb : b < w.heap.size := lt_of_obj h.1
  go_enter Tryd.func40, Tryd.ntmps40
  go_wp2_with (refine wpList_load_glob rfl 75 0 rfl NW 8 9 Tryd.underlying75 (by kernel_rfl) HT.out ?_)
  generalize hw1 : w.alloc (.cells #[.int .i64 0, .bool false, .int .i64 0] 23) = w1 at *
  have hN : w1.heap[w.heap.size]? = some (.cells #[.int .i64 0, .bool false, .int .i64 0] 23 (0, 0)) := by rw [← hw1]; exact heap_alloc_last _ _
  have HN : Hid (w1.heap[w.heap.size]? = some (.cells #[.int .i64 0, .bool false, .int .i64 0] 23 (0, 0))) := hN
  have T1 : Hid (Grew w w1) := by rw [← hw1]; exact (Grew.refl w).alloc _
  clear hN hw1 h hT HT hm
  go_loop [6] (fun i_ => ∃ k : Nat, i_ = .int .i64 k ∧ k ≤ 8) (fun i_ => 8 - (intOf i_).toNat)
  case atStart => exact ⟨0, rfl, Nat.zero_le _⟩
  case round =>
    obtain ⟨k, rfl, hk⟩ := hrel
    by_cases hkm : k = 8
    · subst hkm
      have D := giveUp_any b s (tk s p) p w1 HR.out.1
      clear hlow
      go_wp2_with fail
      refine D.mono ?_
      rintro en w2 ⟨rfl, h2⟩
      obtain rfl := h2.symm
      go_wp2_with fail
      exact ⟨rfl, rfl, T1.out⟩
    · have hidx := fun w => nw_idx k (by omega) w
      have hd : decide ((k : Int) < 8) = true := by simp; omega
      rcases hlow k (by omega) with he | hne
      · have he' := is_empty _ he
        clear hlow he
        generalize numW k = y at *
        go_wp2_with fail
        go_round
        case rel => exact ⟨k + 1, by go_num, by omega⟩
        case measure => simp [intOf]; omega
      · have C := skip_no HR.out (numW k) (fun h => hne h.symm)
        clear hlow
        by_cases he : numW k = ⟨#[]⟩
        · have he' := is_empty _ he
          clear he hne C
          generalize numW k = y at *
          go_wp2_with fail
          go_round
          case rel => exact ⟨k + 1, by go_num, by omega⟩
          case measure => simp [intOf]; omega
        · have he' := not_empty he
          clear hne he
          generalize numW k = y at *
          go_wp2_with fail
          refine C.mono ?_
          rintro en w2 ⟨rfl, h2⟩
          obtain rfl := h2.symm
          go_wp2_with fail
          go_round
          case rel => exact ⟨k + 1, by go_num, by omega⟩
          case measure => simp [intOf]; omega
end Go.Proofs.YtmcljnohdknpoaaDoor
