/-
  The tables of what operators take and answer and of what loads and stores move: the walks of isOperator, sigOf, Sig and Width; no statement is proved here.
-/
import Derived.Test.YtikaidokllnifaaGreatDoorRepW
import Derived.Deep.RegionHeld3
set_option maxRecDepth 100000
set_option maxHeartbeats 8000000
namespace Go.Proofs.YtikaidokllnifaaGreatDoor
open Go.RowKit
set_option linter.unusedVariables false
set_option linter.unusedSimpArgs false
theorem RowV.low {B B' : Nat} {w : World} {v : Value} {l : List VT} (h : RowV B w v l) (hb : B' ≤ B) : RowV B' w v l := row_low h hb
theorem RowV.grow {B : Nat} {w1 w2 : World} {v : Value} {l : List VT} (h : RowV B w1 v l) (g : Grew w1 w2) : RowV B w2 v l := row_grew h g
def c4i (r : Int × Int × Int × Int) : List Value := [.int .i64 r.1, .int .i64 r.2.1, .int .i64 r.2.2.1, .int .i64 r.2.2.2]
def c3a (r : Int × Int × Bool) : List Value := [.int .i64 r.1, .int .i64 r.2.1, .bool r.2.2]
def SGB : Array Value := (sigL.flatMap c4i).toArray
def ACB : Array Value := (accL.flatMap c3a).toArray
def sRow (k : Nat) : Int × Int × Int × Int := sigL.getD k (0, 0, 0, 0)
theorem sg_0 (w : World) : (Instr.index 242 (.agg SGB) (.int .i64 0)).run Tryz.prog w = .ok (.agg #[.int .i64 65, .int .i64 0, .int .i64 0, .int .i64 1]) w := by kernel_rfl
theorem sg_1 (w : World) : (Instr.index 242 (.agg SGB) (.int .i64 1)).run Tryz.prog w = .ok (.agg #[.int .i64 66, .int .i64 0, .int .i64 0, .int .i64 2]) w := by kernel_rfl
theorem sg_2 (w : World) : (Instr.index 242 (.agg SGB) (.int .i64 2)).run Tryz.prog w = .ok (.agg #[.int .i64 67, .int .i64 0, .int .i64 0, .int .i64 3]) w := by kernel_rfl
theorem sg_3 (w : World) : (Instr.index 242 (.agg SGB) (.int .i64 3)).run Tryz.prog w = .ok (.agg #[.int .i64 68, .int .i64 0, .int .i64 0, .int .i64 4]) w := by kernel_rfl
theorem sg_4 (w : World) : (Instr.index 242 (.agg SGB) (.int .i64 4)).run Tryz.prog w = .ok (.agg #[.int .i64 69, .int .i64 1, .int .i64 1, .int .i64 1]) w := by kernel_rfl
theorem sg_5 (w : World) : (Instr.index 242 (.agg SGB) (.int .i64 5)).run Tryz.prog w = .ok (.agg #[.int .i64 70, .int .i64 1, .int .i64 2, .int .i64 1]) w := by kernel_rfl
theorem sg_6 (w : World) : (Instr.index 242 (.agg SGB) (.int .i64 6)).run Tryz.prog w = .ok (.agg #[.int .i64 80, .int .i64 2, .int .i64 1, .int .i64 1]) w := by kernel_rfl
theorem sg_7 (w : World) : (Instr.index 242 (.agg SGB) (.int .i64 7)).run Tryz.prog w = .ok (.agg #[.int .i64 81, .int .i64 2, .int .i64 2, .int .i64 1]) w := by kernel_rfl
theorem sg_8 (w : World) : (Instr.index 242 (.agg SGB) (.int .i64 8)).run Tryz.prog w = .ok (.agg #[.int .i64 91, .int .i64 3, .int .i64 2, .int .i64 1]) w := by kernel_rfl
theorem sg_9 (w : World) : (Instr.index 242 (.agg SGB) (.int .i64 9)).run Tryz.prog w = .ok (.agg #[.int .i64 97, .int .i64 4, .int .i64 2, .int .i64 1]) w := by kernel_rfl
theorem sg_10 (w : World) : (Instr.index 242 (.agg SGB) (.int .i64 10)).run Tryz.prog w = .ok (.agg #[.int .i64 103, .int .i64 1, .int .i64 1, .int .i64 1]) w := by kernel_rfl
theorem sg_11 (w : World) : (Instr.index 242 (.agg SGB) (.int .i64 11)).run Tryz.prog w = .ok (.agg #[.int .i64 106, .int .i64 1, .int .i64 2, .int .i64 1]) w := by kernel_rfl
theorem sg_12 (w : World) : (Instr.index 242 (.agg SGB) (.int .i64 12)).run Tryz.prog w = .ok (.agg #[.int .i64 121, .int .i64 2, .int .i64 1, .int .i64 2]) w := by kernel_rfl
theorem sg_13 (w : World) : (Instr.index 242 (.agg SGB) (.int .i64 13)).run Tryz.prog w = .ok (.agg #[.int .i64 124, .int .i64 2, .int .i64 2, .int .i64 2]) w := by kernel_rfl
theorem sg_14 (w : World) : (Instr.index 242 (.agg SGB) (.int .i64 14)).run Tryz.prog w = .ok (.agg #[.int .i64 139, .int .i64 3, .int .i64 1, .int .i64 3]) w := by kernel_rfl
theorem sg_15 (w : World) : (Instr.index 242 (.agg SGB) (.int .i64 15)).run Tryz.prog w = .ok (.agg #[.int .i64 146, .int .i64 3, .int .i64 2, .int .i64 3]) w := by kernel_rfl
theorem sg_16 (w : World) : (Instr.index 242 (.agg SGB) (.int .i64 16)).run Tryz.prog w = .ok (.agg #[.int .i64 153, .int .i64 4, .int .i64 1, .int .i64 4]) w := by kernel_rfl
theorem sg_17 (w : World) : (Instr.index 242 (.agg SGB) (.int .i64 17)).run Tryz.prog w = .ok (.agg #[.int .i64 160, .int .i64 4, .int .i64 2, .int .i64 4]) w := by kernel_rfl
theorem sg_18 (w : World) : (Instr.index 242 (.agg SGB) (.int .i64 18)).run Tryz.prog w = .ok (.agg #[.int .i64 167, .int .i64 2, .int .i64 1, .int .i64 1]) w := by kernel_rfl
theorem sg_19 (w : World) : (Instr.index 242 (.agg SGB) (.int .i64 19)).run Tryz.prog w = .ok (.agg #[.int .i64 168, .int .i64 3, .int .i64 1, .int .i64 1]) w := by kernel_rfl
theorem sg_20 (w : World) : (Instr.index 242 (.agg SGB) (.int .i64 20)).run Tryz.prog w = .ok (.agg #[.int .i64 170, .int .i64 4, .int .i64 1, .int .i64 1]) w := by kernel_rfl
theorem sg_21 (w : World) : (Instr.index 242 (.agg SGB) (.int .i64 21)).run Tryz.prog w = .ok (.agg #[.int .i64 172, .int .i64 1, .int .i64 1, .int .i64 2]) w := by kernel_rfl
theorem sg_22 (w : World) : (Instr.index 242 (.agg SGB) (.int .i64 22)).run Tryz.prog w = .ok (.agg #[.int .i64 174, .int .i64 3, .int .i64 1, .int .i64 2]) w := by kernel_rfl
theorem sg_23 (w : World) : (Instr.index 242 (.agg SGB) (.int .i64 23)).run Tryz.prog w = .ok (.agg #[.int .i64 176, .int .i64 4, .int .i64 1, .int .i64 2]) w := by kernel_rfl
theorem sg_24 (w : World) : (Instr.index 242 (.agg SGB) (.int .i64 24)).run Tryz.prog w = .ok (.agg #[.int .i64 178, .int .i64 1, .int .i64 1, .int .i64 3]) w := by kernel_rfl
theorem sg_25 (w : World) : (Instr.index 242 (.agg SGB) (.int .i64 25)).run Tryz.prog w = .ok (.agg #[.int .i64 180, .int .i64 2, .int .i64 1, .int .i64 3]) w := by kernel_rfl
theorem sg_26 (w : World) : (Instr.index 242 (.agg SGB) (.int .i64 26)).run Tryz.prog w = .ok (.agg #[.int .i64 182, .int .i64 4, .int .i64 1, .int .i64 3]) w := by kernel_rfl
theorem sg_27 (w : World) : (Instr.index 242 (.agg SGB) (.int .i64 27)).run Tryz.prog w = .ok (.agg #[.int .i64 183, .int .i64 1, .int .i64 1, .int .i64 4]) w := by kernel_rfl
theorem sg_28 (w : World) : (Instr.index 242 (.agg SGB) (.int .i64 28)).run Tryz.prog w = .ok (.agg #[.int .i64 185, .int .i64 2, .int .i64 1, .int .i64 4]) w := by kernel_rfl
theorem sg_29 (w : World) : (Instr.index 242 (.agg SGB) (.int .i64 29)).run Tryz.prog w = .ok (.agg #[.int .i64 187, .int .i64 3, .int .i64 1, .int .i64 4]) w := by kernel_rfl
theorem sg_30 (w : World) : (Instr.index 242 (.agg SGB) (.int .i64 30)).run Tryz.prog w = .ok (.agg #[.int .i64 188, .int .i64 3, .int .i64 1, .int .i64 1]) w := by kernel_rfl
theorem sg_31 (w : World) : (Instr.index 242 (.agg SGB) (.int .i64 31)).run Tryz.prog w = .ok (.agg #[.int .i64 189, .int .i64 4, .int .i64 1, .int .i64 2]) w := by kernel_rfl
theorem sg_32 (w : World) : (Instr.index 242 (.agg SGB) (.int .i64 32)).run Tryz.prog w = .ok (.agg #[.int .i64 190, .int .i64 1, .int .i64 1, .int .i64 3]) w := by kernel_rfl
theorem sg_33 (w : World) : (Instr.index 242 (.agg SGB) (.int .i64 33)).run Tryz.prog w = .ok (.agg #[.int .i64 191, .int .i64 2, .int .i64 1, .int .i64 4]) w := by kernel_rfl
theorem sg_34 (w : World) : (Instr.index 242 (.agg SGB) (.int .i64 34)).run Tryz.prog w = .ok (.agg #[.int .i64 192, .int .i64 1, .int .i64 1, .int .i64 1]) w := by kernel_rfl
theorem sg_35 (w : World) : (Instr.index 242 (.agg SGB) (.int .i64 35)).run Tryz.prog w = .ok (.agg #[.int .i64 194, .int .i64 2, .int .i64 1, .int .i64 2]) w := by kernel_rfl
theorem sg_36 (w : World) : (Instr.index 242 (.agg SGB) (.int .i64 36)).run Tryz.prog w = .ok (.agg #[.int .i64 64512, .int .i64 3, .int .i64 1, .int .i64 1]) w := by kernel_rfl
theorem sg_37 (w : World) : (Instr.index 242 (.agg SGB) (.int .i64 37)).run Tryz.prog w = .ok (.agg #[.int .i64 64514, .int .i64 4, .int .i64 1, .int .i64 1]) w := by kernel_rfl
theorem sg_38 (w : World) : (Instr.index 242 (.agg SGB) (.int .i64 38)).run Tryz.prog w = .ok (.agg #[.int .i64 64516, .int .i64 3, .int .i64 1, .int .i64 2]) w := by kernel_rfl
theorem sg_39 (w : World) : (Instr.index 242 (.agg SGB) (.int .i64 39)).run Tryz.prog w = .ok (.agg #[.int .i64 64518, .int .i64 4, .int .i64 1, .int .i64 2]) w := by kernel_rfl
theorem sg_idx (k : Nat) (hk : k < 40) (w : World) : (Instr.index 242 (.agg SGB) (.int .i64 (k : Int))).run Tryz.prog w = .ok (.agg #[.int .i64 (sRow k).1, .int .i64 (sRow k).2.1, .int .i64 (sRow k).2.2.1, .int .i64 (sRow k).2.2.2]) w := by
  have h : k = 0 ∨ k = 1 ∨ k = 2 ∨ k = 3 ∨ k = 4 ∨ k = 5 ∨ k = 6 ∨ k = 7 ∨ k = 8 ∨ k = 9 ∨ k = 10 ∨ k = 11 ∨ k = 12 ∨ k = 13 ∨ k = 14 ∨ k = 15 ∨ k = 16 ∨ k = 17 ∨ k = 18 ∨ k = 19 ∨ k = 20 ∨ k = 21 ∨ k = 22 ∨ k = 23 ∨ k = 24 ∨ k = 25 ∨ k = 26 ∨ k = 27 ∨ k = 28 ∨ k = 29 ∨ k = 30 ∨ k = 31 ∨ k = 32 ∨ k = 33 ∨ k = 34 ∨ k = 35 ∨ k = 36 ∨ k = 37 ∨ k = 38 ∨ k = 39 := by omega
  rcases h with rfl | rfl | rfl | rfl | rfl | rfl | rfl | rfl | rfl | rfl | rfl | rfl | rfl | rfl | rfl | rfl | rfl | rfl | rfl | rfl | rfl | rfl | rfl | rfl | rfl | rfl | rfl | rfl | rfl | rfl | rfl | rfl | rfl | rfl | rfl | rfl | rfl | rfl | rfl | rfl
  · exact sg_0 w
  · exact sg_1 w
  · exact sg_2 w
  · exact sg_3 w
  · exact sg_4 w
  · exact sg_5 w
  · exact sg_6 w
  · exact sg_7 w
  · exact sg_8 w
  · exact sg_9 w
  · exact sg_10 w
  · exact sg_11 w
  · exact sg_12 w
  · exact sg_13 w
  · exact sg_14 w
  · exact sg_15 w
  · exact sg_16 w
  · exact sg_17 w
  · exact sg_18 w
  · exact sg_19 w
  · exact sg_20 w
  · exact sg_21 w
  · exact sg_22 w
  · exact sg_23 w
  · exact sg_24 w
  · exact sg_25 w
  · exact sg_26 w
  · exact sg_27 w
  · exact sg_28 w
  · exact sg_29 w
  · exact sg_30 w
  · exact sg_31 w
  · exact sg_32 w
  · exact sg_33 w
  · exact sg_34 w
  · exact sg_35 w
  · exact sg_36 w
  · exact sg_37 w
  · exact sg_38 w
  · exact sg_39 w
/- The tables stand as their texts lay them. -/
def TabS (w : World) : Prop := ∀ (j : Nat) (v : Value), SGB[j]? = some v → w.cell? ⟨1, j, none⟩ = some v
def TabA (w : World) : Prop := ∀ (j : Nat) (v : Value), ACB[j]? = some v → w.cell? ⟨0, j, none⟩ = some v
theorem TabS.pos {w : World} (h : TabS w) : 1 < w.heap.size := block_lt_of_cell (h 0 (.int .i64 65) (by kernel_rfl))
theorem TabA.pos {w : World} (h : TabA w) : 0 < w.heap.size := block_lt_of_cell (h 0 (.int .i64 1) (by kernel_rfl))
theorem TabS.grew {w w' : World} (h : TabS w) (g : Grew w w') : TabS w' := fun j v hj => by rw [g.1.cell h.pos]; exact h j v hj
theorem TabA.grew {w w' : World} (h : TabA w) (g : Grew w w') : TabA w' := fun j v hj => by rw [g.1.cell h.pos]; exact h j v hj
theorem sig_len : sigL.length = 40 := by decide
theorem acc_len : accL.length = 23 := by decide
theorem TabS.row {w : World} (h : TabS w) {k : Nat} {r : Int × Int × Int × Int} (hk : sigL[k]? = some r) :
    w.cell? ⟨1, k * 4, none⟩ = some (.int .i64 r.1) ∧ w.cell? ⟨1, k * 4 + 1, none⟩ = some (.int .i64 r.2.1) ∧ w.cell? ⟨1, k * 4 + 2, none⟩ = some (.int .i64 r.2.2.1) ∧ w.cell? ⟨1, k * 4 + 3, none⟩ = some (.int .i64 r.2.2.2) := by
  refine ⟨h _ _ ?_, h _ _ ?_, h _ _ ?_, h _ _ ?_⟩ <;> rw [SGB, List.getElem?_toArray]
  · exact flat_at c4i 4 (fun _ => rfl) sigL k r 0 hk (by omega)
  · exact flat_at c4i 4 (fun _ => rfl) sigL k r 1 hk (by omega)
  · exact flat_at c4i 4 (fun _ => rfl) sigL k r 2 hk (by omega)
  · exact flat_at c4i 4 (fun _ => rfl) sigL k r 3 hk (by omega)
theorem TabA.row {w : World} (h : TabA w) {k : Nat} {r : Int × Int × Bool} (hk : accL[k]? = some r) :
    w.cell? ⟨0, k * 3, none⟩ = some (.int .i64 r.1) ∧ w.cell? ⟨0, k * 3 + 1, none⟩ = some (.int .i64 r.2.1) ∧ w.cell? ⟨0, k * 3 + 2, none⟩ = some (.bool r.2.2) := by
  refine ⟨h _ _ ?_, h _ _ ?_, h _ _ ?_⟩ <;> rw [ACB, List.getElem?_toArray]
  · exact flat_at c3a 3 (fun _ => rfl) accL k r 0 hk (by omega)
  · exact flat_at c3a 3 (fun _ => rfl) accL k r 1 hk (by omega)
  · exact flat_at c3a 3 (fun _ => rfl) accL k r 2 hk (by omega)
theorem isAgg_of {P : Program} {w : World} {ty e : TypeId} {n : Nat} (hu : P.underlying ty = some (.array n e)) : (isAgg ty).run P w = .ok true w := by
  simp [isAgg, run_underlying hu]
theorem wpList_load_glob {P : Program} {ops : Array Oper} {rest : List Oper} {o : Oper} {a : Act} {w : World} {Q : Exit → Act → World → Prop} (hgd : o.guard = none) (ty : TypeId) (g : Nat) (ho : o.op = .load ty (.global g))
    (cells : Array Value) (n : Nat) (e : TypeId) (hu : P.underlying ty = some (.array n e)) (hz : (sizeOf ty).run P w = .ok cells.size w) (hc : ∀ (j : Nat) (v : Value), cells[j]? = some v → w.cell? ⟨g, j, none⟩ = some v)
    (h : wpList P ops Q rest (a.put o.dst (.agg cells)) w) : wpList P ops Q (o :: rest) a w :=
  wpList_plain hgd fun _ hK => by
    have hl := run_loadCells_list (P := P) w ⟨g, 0, none⟩ cells.toList (fun j v hv => by
      have hadd : (⟨g, 0, none⟩ : Addr).add j = ⟨g, j, none⟩ := by unfold Addr.add; split <;> simp_all
      rw [hadd]
      exact hc j v (by simpa using hv))
    have hl2 : (loadCells ⟨g, 0, none⟩ cells.size).run P w = .ok cells w := by simpa using hl
    have hv : (Instr.loadAt ty (.pointer (some ⟨g, 0, none⟩))).run P w = .ok (.agg cells) w := by
      simp only [Instr.loadAt, Instr.sureAddr, Sem.run_bind, Sem.run_pure, Result.andThen, loadVar, isAgg_of hu, if_true, hz, hl2]
    unfold Oper.wp execOp
    have he : a.eval (.global g) = .pointer (some ⟨g, 0, none⟩) := rfl
    simp only [ho, he, Sem.run_bind, Result.andThen_ok, hv]
    exact hK _ _ h
theorem lastI_snoc (op : Int) (r : Int × Int × Int × Int) : ∀ (l : List (Int × Int × Int × Int)) (n f : Nat), lastI op (l ++ [r]) n f = if r.1 ≤ op then n + l.length else lastI op l n f
  | [], n, f => by simp [lastI]
  | a :: l, n, f => by
    rw [List.cons_append, lastI, lastI, lastI_snoc op r l, List.length_cons]
    congr 1
    omega
theorem lastI_lt (op : Int) : ∀ (l : List (Int × Int × Int × Int)) (n f : Nat), lastI op l n f ≤ max f (n + l.length - 1)
  | [], n, f => by simp [lastI]; omega
  | a :: l, n, f => by
    rw [lastI]
    have := lastI_lt op l (n + 1) (if a.1 ≤ op then n else f)
    by_cases h : a.1 ≤ op
    · rw [if_pos h] at this ⊢
      simp only [List.length_cons]
      omega
    · rw [if_neg h] at this ⊢
      simp only [List.length_cons]
      omega
theorem sig_many : ∀ r ∈ sigL, r.2.2.1 = 0 ∨ r.2.2.1 = 1 ∨ r.2.2.1 = 2 := by decide
theorem isOp_any (op : Int) (w : World) : Calls Tryz.prog 193 #[.int .i64 op] w fun e w' => e = .returned (.bool (isOpB op)) ∧ w' = w := by
  have e : Hid (isOpB op = (decide (65 ≤ op ∧ op ≤ 196) || decide (64512 ≤ op ∧ op ≤ 64519))) := rfl
  by_cases h1 : 65 ≤ op
  · by_cases h2 : op ≤ 196
    · have hv : Hid (isOpB op = true) := by show _ = _; rw [e.out]; simp [h1, h2]
      go_enter Tryz.func193, Tryz.ntmps193
      go_wp2
      go_ret
      rw [hv.out]
      exact ⟨rfl, rfl⟩
    · by_cases h3 : 64512 ≤ op
      · by_cases h4 : op ≤ 64519
        · have hv : Hid (isOpB op = true) := by show _ = _; rw [e.out]; simp [h3, h4]
          go_enter Tryz.func193, Tryz.ntmps193
          go_wp2
          go_ret
          rw [hv.out]
          exact ⟨rfl, rfl⟩
        · have hv : Hid (isOpB op = false) := by show _ = _; rw [e.out]; simp [h2, h4]
          go_enter Tryz.func193, Tryz.ntmps193
          go_wp2
          go_ret
          rw [hv.out]
          exact ⟨rfl, rfl⟩
      · have hv : Hid (isOpB op = false) := by show _ = _; rw [e.out]; simp [h2, h3]
        go_enter Tryz.func193, Tryz.ntmps193
        go_wp2
        go_ret
        rw [hv.out]
        exact ⟨rfl, rfl⟩
  · have h3 : ¬ 64512 ≤ op := by omega
    have hv : Hid (isOpB op = false) := by show _ = _; rw [e.out]; simp [h1, h3]
    go_enter Tryz.func193, Tryz.ntmps193
    go_wp2
    go_ret
    rw [hv.out]
    exact ⟨rfl, rfl⟩
theorem sigOf_any (op : Int) (w : World) (hT : TabS w) :
    Calls Tryz.prog 194 #[.int .i64 op] w fun e w' => ∃ u v, e = .returned (.tuple #[u, v]) ∧ RowV w.heap.size w' u (List.replicate (sigRow op).2.2.1.toNat ⟨(sigRow op).2.1, false, 0⟩) ∧ RowV w.heap.size w' v [⟨(sigRow op).2.2.2, false, 0⟩] ∧ Grew w w' := by
  have HT : Hid (TabS w) := hT
  have hpos := hT.pos
  have hlast := lastI_lt op sigL 0 0
  rw [sig_len] at hlast
  have HR : Hid (sigL[lastI op sigL 0 0]? = some (sigRow op)) := by
    show _ = _
    unfold sigRow
    rw [List.getD_eq_getElem?_getD, List.getElem?_eq_getElem (by rw [sig_len]; omega)]
    rfl
  have hm := sig_many (sigRow op) (List.mem_of_getElem? HR.out)
  generalize sigRow op = r at *
  clear hT
  go_enter Tryz.func194, Tryz.ntmps194
  go_wp2_with (refine wpList_load_glob rfl 242 1 rfl SGB 40 241 Tryz.underlying242 (by kernel_rfl) HT.out ?_)
  go_loopw [4, 9] (fun t i wx => ∃ k : Nat, k ≤ 40 ∧ i = .int .i64 k ∧ t = .int .i64 ((lastI op (sigL.take k) 0 0 : Nat) : Int) ∧ Grew w wx) (fun _ i _ => 40 - (intOf i).toNat)
  case atStart => exact ⟨0, by omega, rfl, rfl, Grew.refl w⟩
  case round =>
    obtain ⟨k, hk, rfl, rfl, pg⟩ := hrel
    have PG : Hid (Grew w wr) := pg
    by_cases h40 : k < 40
    · have ci := sg_idx k h40
      have hx : sigL[k]? = some (sRow k) := by
        unfold sRow
        rw [List.getD_eq_getElem?_getD, List.getElem?_eq_getElem (by rw [sig_len]; exact h40)]
        rfl
      have hS : Hid (lastI op (sigL.take (k + 1)) 0 0 = if (sRow k).1 ≤ op then k else lastI op (sigL.take k) 0 0) := by
        show _ = _
        obtain ⟨h', he⟩ := List.getElem?_eq_some_iff.1 hx
        rw [List.take_succ_eq_append_getElem h', he, lastI_snoc]
        have : (sigL.take k).length = k := by rw [List.length_take, sig_len]; omega
        rw [this, Nat.zero_add]
      generalize lastI op (sigL.take k) 0 0 = F at *
      generalize sRow k = x at *
      obtain ⟨x0, x1, x2, x3⟩ := x
      simp only at ci hS
      have d1 : decide ((k : Int) < 40) = true := by simp; omega
      clear pg hx
      by_cases hle : x0 ≤ op
      · go_wp2_with fail
        go_roundw
        case rel => exact ⟨k + 1, by omega, by go_num, by rw [hS.out, if_pos hle], PG.out.alloc _⟩
        case measure => simp [intOf]; omega
      · go_wp2_with fail
        go_roundw
        case rel => exact ⟨k + 1, by omega, by go_num, by rw [hS.out, if_neg hle], PG.out.alloc _⟩
        case measure => simp [intOf]; omega
    · have hk40 : k = 40 := by omega
      have e40 : sigL.take k = sigL := by rw [hk40, ← sig_len, List.take_length]
      rw [e40]
      obtain ⟨q0, q1, q2, q3⟩ := (HT.out.grew pg).row HR.out
      generalize lastI op sigL 0 0 = F at *
      have hF : F < 40 := by omega
      have d1 : decide ((k : Int) < 40) = false := by simp; omega
      have hFi : (F : Int) < 40 := by omega
      have hposr : 1 < wr.heap.size := Nat.lt_of_lt_of_le hpos pg.2
      obtain ⟨r0, r1, r2, r3⟩ := r
      simp only at q0 q1 q2 q3 hm ⊢
      clear hk40 e40 HR hlast pg
      go_wp2_with fail
      have G1 : Hid (Grew w (wr.alloc (.cells #[.int .i64 r0, .int .i64 r1, .int .i64 r2, .int .i64 r3] 241))) := PG.out.alloc _
      have c1 : (wr.alloc (.cells #[.int .i64 r0, .int .i64 r1, .int .i64 r2, .int .i64 r3] 241)).cell? ⟨wr.heap.size, 1, none⟩ = some (.int .i64 r1) := by go_simp
      have c2 : (wr.alloc (.cells #[.int .i64 r0, .int .i64 r1, .int .i64 r2, .int .i64 r3] 241)).cell? ⟨wr.heap.size, 2, none⟩ = some (.int .i64 r2) := by go_simp
      have c3 : (wr.alloc (.cells #[.int .i64 r0, .int .i64 r1, .int .i64 r2, .int .i64 r3] 241)).cell? ⟨wr.heap.size, 3, none⟩ = some (.int .i64 r3) := by go_simp
      have hsz : (wr.alloc (.cells #[.int .i64 r0, .int .i64 r1, .int .i64 r2, .int .i64 r3] 241)).heap.size = wr.heap.size + 1 := alloc_size _ _
      generalize wr.alloc (.cells #[.int .i64 r0, .int .i64 r1, .int .i64 r2, .int .i64 r3] 241) = w2 at *
      have hlt2 : wr.heap.size < w2.heap.size := by omega
      generalize wr.heap.size = sb at *
      clear PG q0 q1 q2 q3 hsz
      go_region_held3 (fun w' => w'.cell? ⟨sb, 1, none⟩ = some (.int .i64 r1) ∧ w'.cell? ⟨sb, 2, none⟩ = some (.int .i64 r2) ∧ w'.cell? ⟨sb, 3, none⟩ = some (.int .i64 r3)) (go_keep)
        (first
         | (go_at_call 209
            refine (rep_any r2 hm _ r1 _ (by first | (simp; done) | (simp; omega)) (by go_simp) (by go_simp) (by go_simp)).mono ?_
            rintro en w3 ⟨v, rfl, hv, g3⟩
            have gw : w.heap.size ≤ w2.heap.size := G1.out.2
            have HV : Hid (RowV w.heap.size w3 v (List.replicate r2.toNat ⟨r1, false, 0⟩)) := hv.low (by simp; omega)
            have G3 : Hid (Grew w w3) := G1.out.trans (Grew.trans (by first | exact ((Grew.refl w2).alloc _).drew | exact (((Grew.refl w2).alloc _).alloc _).drew | exact ((Grew.refl w2).drew).alloc _ | exact (((Grew.refl w2).drew).alloc _).alloc _) g3)
            have HG3 : Hid (Grew _ w3) := g3
            obtain ⟨va, vc, hvv⟩ := row_one hv
            rw [List.length_replicate] at hvv
            subst hvv
            have j1 : w3.cell? ⟨sb, 1, none⟩ = some (.int .i64 r1) := by rw [g3.1.cell (by simp; omega)]; go_simp
            have j2 : w3.cell? ⟨sb, 2, none⟩ = some (.int .i64 r2) := by rw [g3.1.cell (by simp; omega)]; go_simp
            have j3 : w3.cell? ⟨sb, 3, none⟩ = some (.int .i64 r3) := by rw [g3.1.cell (by simp; omega)]; go_simp
            have hs3 := g3.2
            clear hv g3))
      all_goals have gw2 : w.heap.size ≤ w2.heap.size := G1.out.2
      all_goals have gw3 : w.heap.size ≤ w3.heap.size := G3.out.2
      all_goals go_wp2_with fail
      all_goals go_ret2
      all_goals first
        | exact ⟨_, _, rfl, HV.out.grow ((Grew.refl w3).alloc _), ⟨rfl, Or.inr ⟨_, 1, _, rfl, gw3, heap_alloc_last w3 _, Nat.le_refl _, by decide, rfl, rfl⟩⟩, G3.out.alloc _⟩
        | exact ⟨_, _, rfl, HV.out, ⟨rfl, Or.inr ⟨w2.heap.size, 1, _, rfl, gw2, (HG3.out.turn []).other (heap_alloc (heap_alloc_last w2 (.cells #[.int .i64 r3, .bool false, .int .i64 0] 39 (0, 0))) _) (by simp), Nat.le_refl _, by decide, rfl, rfl⟩⟩, G3.out⟩
        | exact ⟨_, _, rfl, HV.out, ⟨rfl, Or.inr ⟨w2.heap.size + 1, 1, _, rfl, by omega, (HG3.out.turn []).other (b := w2.heap.size + 1) (by have := heap_alloc_last (w2.alloc (.cells #[.int .i64 r1, .bool false, .int .i64 0] 39 (0, 0))) (.cells #[.int .i64 r3, .bool false, .int .i64 0] 39 (0, 0)); rw [alloc_size] at this; exact this) (by simp), Nat.le_refl _, by decide, rfl, rfl⟩⟩, G3.out⟩
end Go.Proofs.YtikaidokllnifaaGreatDoor
