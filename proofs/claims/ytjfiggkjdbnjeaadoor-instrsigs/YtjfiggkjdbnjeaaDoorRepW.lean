/-
  The walk of slices.Repeat at one value type, not at all, once, twice; no statement is proved here.
-/
import Derived.Test.YtjfiggkjdbnjeaaDoorSamV
import Derived.Laws.CopyRow
import Derived.Laws.CopyOwn
import Derived.Laws.MakeOwn
namespace Go.Proofs.YtjfiggkjdbnjeaaDoor
open Go.RowKit
set_option linter.unusedVariables false
set_option linter.unusedSimpArgs false

set_option maxRecDepth 100000 in
theorem mul_0 (w : World) : Calls Tryd.prog 143 #[.int .u64 1, .int .u64 0] w fun e w' => e = .returned (.tuple #[.int .u64 0, .int .u64 0]) ∧ w' = w := by
  go_enter Tryd.func143, Tryd.ntmps143
  go_wp2
  go_ret2
  exact ⟨rfl, rfl⟩
set_option maxRecDepth 100000 in
theorem mul_1 (w : World) : Calls Tryd.prog 143 #[.int .u64 1, .int .u64 1] w fun e w' => e = .returned (.tuple #[.int .u64 0, .int .u64 1]) ∧ w' = w := by
  go_enter Tryd.func143, Tryd.ntmps143
  go_wp2
  go_ret2
  exact ⟨rfl, rfl⟩
set_option maxRecDepth 100000 in
theorem mul_2 (w : World) : Calls Tryd.prog 143 #[.int .u64 1, .int .u64 2] w fun e w' => e = .returned (.tuple #[.int .u64 0, .int .u64 2]) ∧ w' = w := by
  go_enter Tryd.func143, Tryd.ntmps143
  go_wp2
  go_ret2
  exact ⟨rfl, rfl⟩
set_option maxRecDepth 100000 in
theorem mulw_0 (w : World) : Calls Tryd.prog 112 #[.int .u64 1, .int .u64 0] w fun e w' => e = .returned (.tuple #[.int .u64 0, .int .u64 0]) ∧ w' = w := by
  have C := mul_0 w
  go_enter Tryd.func112, Tryd.ntmps112
  go_wp2_with fail
  refine C.mono ?_
  rintro e w1 ⟨rfl, rfl⟩
  clear C
  go_wp2_with fail
  go_ret2
  exact ⟨rfl, rfl⟩
set_option maxRecDepth 100000 in
theorem mulw_1 (w : World) : Calls Tryd.prog 112 #[.int .u64 1, .int .u64 1] w fun e w' => e = .returned (.tuple #[.int .u64 0, .int .u64 1]) ∧ w' = w := by
  have C := mul_1 w
  go_enter Tryd.func112, Tryd.ntmps112
  go_wp2_with fail
  refine C.mono ?_
  rintro e w1 ⟨rfl, rfl⟩
  clear C
  go_wp2_with fail
  go_ret2
  exact ⟨rfl, rfl⟩
set_option maxRecDepth 100000 in
theorem mulw_2 (w : World) : Calls Tryd.prog 112 #[.int .u64 1, .int .u64 2] w fun e w' => e = .returned (.tuple #[.int .u64 0, .int .u64 2]) ∧ w' = w := by
  have C := mul_2 w
  go_enter Tryd.func112, Tryd.ntmps112
  go_wp2_with fail
  refine C.mono ?_
  rintro e w1 ⟨rfl, rfl⟩
  clear C
  go_wp2_with fail
  go_ret2
  exact ⟨rfl, rfl⟩
theorem run_copyS {P : Program} (w : World) (dT sT ty elem : TypeId) (k : Nat) (g o dLen dCap : Nat) (a : Addr) (sLen sCap : Nat) (cur : Array Value) (t : TypeId) (cs : List Value)
    (hu : P.underlying dT = some (.slice elem)) (hs : (P.info? elem).map (·.size) = some k)
    (hg : w.heap[g]? = some (.cells cur t (0, 0))) (hn : cs.length = Nat.min sLen dLen * k)
    (hsrc : ∀ j v, cs[j]? = some v → w.cell? (a.add j) = some v) (hfit : o + cs.length ≤ cur.size) (h1 : ∀ v ∈ cs, v.oneCell' = true) :
    (Builtin.copy_ #[dT, sT] ty #[.slice (some ⟨g, o, none⟩) dLen dCap, .slice (some a) sLen sCap]).run P w =
      .ok (goInt (Nat.min sLen dLen)) (w.setRow g (cur.toList.take o ++ cs ++ cur.toList.drop (o + cs.length)).toArray) := by
  have hl := run_loadCells_list (P := P) w a cs hsrc
  have hst := run_storeCells_at P g o t cs 0 cur w hg (by simpa using hfit) h1
  cases hq : P.info? elem with
  | none => simp [hq] at hs
  | some i =>
    have hi : i.size = k := by simpa [hq] using hs
    simp [Builtin.copy_, run_underlying hu, Builtin.lenOf, Builtin.firstCells, sizeOf, typeInfo, hq, hi, ← hn, hl, hst]
theorem cell3 {w : World} {b o : Nat} {x y z : Value} (c0 : w.cell? ⟨b, o, none⟩ = some x) (c1 : w.cell? ⟨b, o + 1, none⟩ = some y) (c2 : w.cell? ⟨b, o + 2, none⟩ = some z) : ∀ j v, [x, y, z][j]? = some v → w.cell? ((⟨b, o, none⟩ : Addr).add j) = some v := by
  intro j v hj
  have hadd : (⟨b, o, none⟩ : Addr).add j = ⟨b, o + j, none⟩ := by unfold Addr.add; split <;> simp_all
  rw [hadd]
  match j, hj with
  | 0, hj => simp at hj; subst hj; exact c0
  | 1, hj => simp at hj; subst hj; exact c1
  | 2, hj => simp at hj; subst hj; exact c2
  | (j + 3), hj => simp at hj
theorem one3 {n : Int} : ∀ v ∈ [Value.int .i64 n, .bool false, .int .i64 0], v.oneCell' = true := by
  intro v hv
  simp at hv
  rcases hv with rfl | rfl | rfl <;> rfl
theorem grew_setRow {w w1 : World} (g : Grew w w1) {b : Nat} (hb : w.heap.size ≤ b) (cs : Array Value) : Grew w (w1.setRow b cs) :=
  ⟨below_setRow g.1 hb cs, by have := g.2; simpa [World.setRow] using this⟩
theorem mk_0 (w : World) : (Instr.makeSlice 32 (.int .i64 0) (.int .i64 0)).run Tryd.prog w = .ok (.slice (some ⟨w.heap.size, 0, none⟩) 0 0) (w.alloc (.cells #[] 27)) := by kernel_rfl
theorem mk_1 (w : World) : (Instr.makeSlice 32 (.int .i64 1) (.int .i64 1)).run Tryd.prog w = .ok (.slice (some ⟨w.heap.size, 0, none⟩) 1 1) (w.alloc (.cells #[.int .i64 0, .bool false, .int .i64 0] 27)) := by kernel_rfl
theorem mk_2 (w : World) : (Instr.makeSlice 32 (.int .i64 2) (.int .i64 2)).run Tryd.prog w = .ok (.slice (some ⟨w.heap.size, 0, none⟩) 2 2) (w.alloc (.cells #[.int .i64 0, .bool false, .int .i64 0, .int .i64 0, .bool false, .int .i64 0] 27)) := by kernel_rfl
set_option maxRecDepth 100000 in
set_option maxHeartbeats 1000000 in
theorem rep_0 (b : Nat) (n : Int) (w : World) (hb : b < w.heap.size) (c0 : w.cell? ⟨b, 0, none⟩ = some (.int .i64 n)) (c1 : w.cell? ⟨b, 1, none⟩ = some (.bool false)) (c2 : w.cell? ⟨b, 2, none⟩ = some (.int .i64 0)) :
    Calls Tryd.prog 66 #[.slice (some ⟨b, 0, none⟩) 1 1, .int .i64 0] w fun e w' => ∃ v, e = .returned v ∧ RowV w.heap.size w' v (List.replicate 0 ⟨n, false, 0⟩) ∧ Grew w w' := by
  have C : Hid _ := mulw_0
  have hmk := mk_0 w
  obtain ⟨W, hW⟩ : ∃ W, w.alloc (.cells #[] 27) = W := ⟨_, rfl⟩
  have G0 : Grew w W := by rw [← hW]; exact (Grew.refl w).alloc _
  have O0 : W.heap[w.heap.size]? = some (.cells #[] 27 (0, 0)) := by rw [← hW]; exact heap_alloc_last w _
  obtain ⟨hbW, d0, d1, d2⟩ := G0.c3 b (.int .i64 n) (.bool false) (.int .i64 0) hb c0 c1 c2
  rw [hW] at hmk
  clear hW
  have hcp := run_copyS (P := Tryd.prog) W 32 32 3 27 3 w.heap.size 0 0 0 ⟨b, 0, none⟩ 1 1 #[] 27 [] Tryd.underlying32 (by kernel_rfl) O0 rfl (by simp) (by simp) (by simp)
  have hset : W.setRow w.heap.size #[] = W := setRow_self W w.heap.size #[] 27 (0, 0) O0
  have hcp' : (Builtin.copy_ #[32, 32] 3 #[.slice (some ⟨w.heap.size, 0, none⟩) 0 0, .slice (some ⟨b, 0, none⟩) 1 1]).run Tryd.prog W = .ok (.int .i64 0) W := by
    rw [hcp]
    show Result.ok (Value.int .i64 0) (W.setRow w.heap.size #[]) = _
    rw [hset]
  clear hcp hset
  go_enter Tryd.func66, Tryd.ntmps66
  go_wp2_with fail
  refine (C.out _).mono ?_
  rintro e w1 ⟨rfl, hw1⟩
  obtain rfl := hw1.symm
  clear C
  have HG0 : Hid (Grew w W) := G0
  have HO0 : Hid _ := O0
  clear G0 O0 d0 d1 d2
  go_wp2_with fail
  go_loopw [8] (fun i wx => i = .int .i64 0 ∧ wx = W) (fun _ _ => 0)
  case atStart => exact ⟨rfl, rfl⟩
  case round =>
    obtain ⟨rfl, hw⟩ := hrel
    obtain rfl := hw.symm
    go_wp2_with fail
    go_ret
    exact ⟨_, rfl, ⟨rfl, Or.inr ⟨_, 0, #[], rfl, Nat.le_refl _, HO0.out, Nat.le_refl _, by decide, rfl, rfl⟩⟩, HG0.out⟩
set_option maxRecDepth 100000 in
set_option maxHeartbeats 1000000 in
theorem rep_1 (b : Nat) (n : Int) (w : World) (hb : b < w.heap.size) (c0 : w.cell? ⟨b, 0, none⟩ = some (.int .i64 n)) (c1 : w.cell? ⟨b, 1, none⟩ = some (.bool false)) (c2 : w.cell? ⟨b, 2, none⟩ = some (.int .i64 0)) :
    Calls Tryd.prog 66 #[.slice (some ⟨b, 0, none⟩) 1 1, .int .i64 1] w fun e w' => ∃ v, e = .returned v ∧ RowV w.heap.size w' v (List.replicate 1 ⟨n, false, 0⟩) ∧ Grew w w' := by
  have C : Hid _ := mulw_1
  have hmk := mk_1 w
  obtain ⟨W, hW⟩ : ∃ W, w.alloc (.cells #[.int .i64 0, .bool false, .int .i64 0] 27) = W := ⟨_, rfl⟩
  have G0 : Grew w W := by rw [← hW]; exact (Grew.refl w).alloc _
  have O0 : W.heap[w.heap.size]? = some (.cells #[.int .i64 0, .bool false, .int .i64 0] 27 (0, 0)) := by rw [← hW]; exact heap_alloc_last w _
  obtain ⟨hbW, d0, d1, d2⟩ := G0.c3 b (.int .i64 n) (.bool false) (.int .i64 0) hb c0 c1 c2
  rw [hW] at hmk
  clear hW
  have hcp := run_copyS (P := Tryd.prog) W 32 32 3 27 3 w.heap.size 0 1 1 ⟨b, 0, none⟩ 1 1 #[.int .i64 0, .bool false, .int .i64 0] 27 [.int .i64 n, .bool false, .int .i64 0] Tryd.underlying32 (by kernel_rfl) O0 rfl (cell3 d0 d1 d2) (by simp) one3
  obtain ⟨W1, hW1⟩ : ∃ W1, W.setRow w.heap.size #[.int .i64 n, .bool false, .int .i64 0] = W1 := ⟨_, rfl⟩
  have G1 : Grew w W1 := by rw [← hW1]; exact grew_setRow G0 (Nat.le_refl _) _
  have O1 : W1.heap[w.heap.size]? = some (.cells #[.int .i64 n, .bool false, .int .i64 0] 27 (0, 0)) := by rw [← hW1]; exact setRow_heap W w.heap.size _ _ 27 _ O0
  have hcp' : (Builtin.copy_ #[32, 32] 3 #[.slice (some ⟨w.heap.size, 0, none⟩) 1 1, .slice (some ⟨b, 0, none⟩) 1 1]).run Tryd.prog W = .ok (.int .i64 1) W1 := by
    rw [hcp, ← hW1]
    rfl
  have HG1 : Hid (Grew w W1) := G1
  have HO1 : Hid _ := O1
  clear hcp hW1 G0 O0 d0 d1 d2
  go_enter Tryd.func66, Tryd.ntmps66
  go_wp2_with fail
  refine (C.out _).mono ?_
  rintro e w1 ⟨rfl, hw1⟩
  obtain rfl := hw1.symm
  clear C
  go_wp2_with fail
  go_loopw [8] (fun i wx => i = .int .i64 1 ∧ wx = W1) (fun _ _ => 0)
  case atStart => exact ⟨rfl, rfl⟩
  case round =>
    obtain ⟨rfl, hw⟩ := hrel
    obtain rfl := hw.symm
    go_wp2_with fail
    go_ret
    exact ⟨_, rfl, ⟨rfl, Or.inr ⟨_, 1, _, rfl, Nat.le_refl _, HO1.out, Nat.le_refl _, by decide, rfl, rfl⟩⟩, HG1.out⟩
set_option maxRecDepth 100000 in
set_option maxHeartbeats 1000000 in
theorem rep_2 (b : Nat) (n : Int) (w : World) (hb : b < w.heap.size) (c0 : w.cell? ⟨b, 0, none⟩ = some (.int .i64 n)) (c1 : w.cell? ⟨b, 1, none⟩ = some (.bool false)) (c2 : w.cell? ⟨b, 2, none⟩ = some (.int .i64 0)) :
    Calls Tryd.prog 66 #[.slice (some ⟨b, 0, none⟩) 1 1, .int .i64 2] w fun e w' => ∃ v, e = .returned v ∧ RowV w.heap.size w' v (List.replicate 2 ⟨n, false, 0⟩) ∧ Grew w w' := by
  have C : Hid _ := mulw_2
  have hmk := mk_2 w
  obtain ⟨W, hW⟩ : ∃ W, w.alloc (.cells #[.int .i64 0, .bool false, .int .i64 0, .int .i64 0, .bool false, .int .i64 0] 27) = W := ⟨_, rfl⟩
  have G0 : Grew w W := by rw [← hW]; exact (Grew.refl w).alloc _
  have O0 : W.heap[w.heap.size]? = some (.cells #[.int .i64 0, .bool false, .int .i64 0, .int .i64 0, .bool false, .int .i64 0] 27 (0, 0)) := by rw [← hW]; exact heap_alloc_last w _
  obtain ⟨hbW, d0, d1, d2⟩ := G0.c3 b (.int .i64 n) (.bool false) (.int .i64 0) hb c0 c1 c2
  rw [hW] at hmk
  clear hW
  have hcp := run_copyS (P := Tryd.prog) W 32 32 3 27 3 w.heap.size 0 2 2 ⟨b, 0, none⟩ 1 1 #[.int .i64 0, .bool false, .int .i64 0, .int .i64 0, .bool false, .int .i64 0] 27 [.int .i64 n, .bool false, .int .i64 0] Tryd.underlying32 (by kernel_rfl) O0 rfl (cell3 d0 d1 d2) (by simp) one3
  obtain ⟨W1, hW1⟩ : ∃ W1, W.setRow w.heap.size #[.int .i64 n, .bool false, .int .i64 0, .int .i64 0, .bool false, .int .i64 0] = W1 := ⟨_, rfl⟩
  have G1 : Grew w W1 := by rw [← hW1]; exact grew_setRow G0 (Nat.le_refl _) _
  have O1 : W1.heap[w.heap.size]? = some (.cells #[.int .i64 n, .bool false, .int .i64 0, .int .i64 0, .bool false, .int .i64 0] 27 (0, 0)) := by rw [← hW1]; exact setRow_heap W w.heap.size _ _ 27 _ O0
  have hcp' : (Builtin.copy_ #[32, 32] 3 #[.slice (some ⟨w.heap.size, 0, none⟩) 2 2, .slice (some ⟨b, 0, none⟩) 1 1]).run Tryd.prog W = .ok (.int .i64 1) W1 := by
    rw [hcp, ← hW1]
    rfl
  have HG1 : Hid (Grew w W1) := G1
  have HO1 : Hid _ := O1
  clear hcp hW1 G0 O0 d0 d1 d2
  go_enter Tryd.func66, Tryd.ntmps66
  go_wp2_with fail
  refine (C.out _).mono ?_
  rintro e w1 ⟨rfl, hw1⟩
  obtain rfl := hw1.symm
  clear C
  have hcp2 : ∀ k, (Builtin.copy_ #[32, 32] 3 #[.slice (some ⟨w.heap.size, 3, none⟩) 1 1, .slice (some ⟨w.heap.size, 0, none⟩) 1 2]).run Tryd.prog (W1.drewN k) = .ok (.int .i64 1) ((W1.drewN k).setRow w.heap.size #[.int .i64 n, .bool false, .int .i64 0, .int .i64 n, .bool false, .int .i64 0]) := by
    intro k
    have O2 : (W1.drewN k).heap[w.heap.size]? = some (.cells #[.int .i64 n, .bool false, .int .i64 0, .int .i64 0, .bool false, .int .i64 0] 27 (0, 0)) := HO1.out
    have e0 := cell_of O2 0
    have e1 := cell_of O2 1
    have e2 := cell_of O2 2
    simp at e0 e1 e2
    rw [run_copyS (P := Tryd.prog) (W1.drewN k) 32 32 3 27 3 w.heap.size 3 1 1 ⟨w.heap.size, 0, none⟩ 1 2 _ 27 [.int .i64 n, .bool false, .int .i64 0] Tryd.underlying32 (by kernel_rfl) O2 rfl (cell3 e0 e1 e2) (by simp) one3]
    rfl
  have hcp1 : (Builtin.copy_ #[32, 32] 3 #[.slice (some ⟨w.heap.size, 3, none⟩) 1 1, .slice (some ⟨w.heap.size, 0, none⟩) 1 2]).run Tryd.prog W1.drew = .ok (.int .i64 1) (W1.drew.setRow w.heap.size #[.int .i64 n, .bool false, .int .i64 0, .int .i64 n, .bool false, .int .i64 0]) := hcp2 1
  clear hcp2
  go_wp2_with fail
  go_loopw [8] (fun i wx => (i = .int .i64 1 ∧ wx = W1) ∨ (i = .int .i64 2 ∧ ∃ k, wx = (W1.drewN k).setRow w.heap.size #[.int .i64 n, .bool false, .int .i64 0, .int .i64 n, .bool false, .int .i64 0])) (fun i _ => 2 - (intOf i).toNat)
  case atStart => exact Or.inl ⟨rfl, rfl⟩
  case round =>
    rcases hrel with ⟨rfl, hw⟩ | ⟨rfl, k, hw⟩
    · obtain rfl := hw.symm
      go_wp2_with fail
      go_region
      all_goals go_wp2_with fail
      all_goals go_roundw
      case rel => exact Or.inr ⟨rfl, 1, rfl⟩
      case measure => simp [intOf]
    · have O3 : wr.heap[w.heap.size]? = some (.cells #[.int .i64 n, .bool false, .int .i64 0, .int .i64 n, .bool false, .int .i64 0] 27 (0, 0)) := by rw [hw]; exact setRow_heap (W1.drewN k) w.heap.size _ _ 27 _ HO1.out
      have G3 : Hid (Grew w wr) := by rw [hw]; exact grew_setRow (HG1.out.drewN k) (Nat.le_refl _) _
      have HO3 : Hid _ := O3
      clear hw O3
      go_wp2_with fail
      go_ret
      exact ⟨_, rfl, ⟨rfl, Or.inr ⟨_, 2, _, rfl, Nat.le_refl _, HO3.out, Nat.le_refl _, by decide, rfl, rfl⟩⟩, G3.out⟩
theorem rep_any (m : Int) (hm : m = 0 ∨ m = 1 ∨ m = 2) (b : Nat) (n : Int) (w : World) (hb : b < w.heap.size) (c0 : w.cell? ⟨b, 0, none⟩ = some (.int .i64 n)) (c1 : w.cell? ⟨b, 1, none⟩ = some (.bool false)) (c2 : w.cell? ⟨b, 2, none⟩ = some (.int .i64 0)) :
    Calls Tryd.prog 66 #[.slice (some ⟨b, 0, none⟩) 1 1, .int .i64 m] w fun e w' => ∃ v, e = .returned v ∧ RowV w.heap.size w' v (List.replicate m.toNat ⟨n, false, 0⟩) ∧ Grew w w' := by
  rcases hm with rfl | rfl | rfl
  · exact rep_0 b n w hb c0 c1 c2
  · exact rep_1 b n w hb c0 c1 c2
  · exact rep_2 b n w hb c0 c1 c2
end Go.Proofs.YtjfiggkjdbnjeaaDoor
