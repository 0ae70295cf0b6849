/-
  vref's makers of steps: the step that each answers, on a fresh checker; no statement is proved here.
-/
import Derived.Test.YtnmbniojejckpaaGreatDoorCpC
import Derived.Test.YtnmbniojejckpaaGreatDoorVfI
import Derived.Lib.Mul64
import Derived.Laws.Bits64b
import Derived.Laws.CopyRow
import Derived.Laws.MakeOwn
import Derived.Test.YtnmbniojejckpaaGreatDoorVfQ
import Derived.Test.YtnmbniojejckpaaGreatDoorVfP
import Derived.Test.YtnmbniojejckpaaGreatDoorVfR
import Derived.Test.YtnmbniojejckpaaGreatDoorVfM
import Derived.Test.YtnmbniojejckpaaGreatDoorVfO
set_option maxRecDepth 100000
set_option maxHeartbeats 8000000
namespace Go.Proofs.YtnmbniojejckpaaGreatDoor
open Go.RowKit
set_option linter.unusedVariables false
set_option linter.unusedSimpArgs false
namespace MulN
theorem maskN (a : Nat) (ha : a < 18446744073709551616) : bits .and .u64 (a : Int) 4294967295 = ((a % 4294967296 : Nat) : Int) := by
  have h := bits_and_u64_nat a 4294967295 ha (by omega)
  have e : a &&& 4294967295 = a % 4294967296 := Nat.and_two_pow_sub_one_eq_mod a 32
  rw [e] at h
  exact h
end MulN
theorem mulOne (y : Nat) (hy : y < 4294967296) (w : World) : Calls Tryz.prog 126 #[.int .u64 1, .int .u64 (y : Int)] w fun e w' => e = .returned (.tuple #[.int .u64 0, .int .u64 (y : Int)]) ∧ w' = w := by
  have hm := MulN.maskN y (by omega)
  have e1 : y % 4294967296 = y := by omega
  rw [e1] at hm
  have h1 : bits .and .u64 1 4294967295 = 1 := by decide
  have h0 : bits .and .u64 0 4294967295 = 0 := by decide
  have hw : IntKind.u64.wrap (y : Int) = y := by rw [IntKind.wrap_u64]; omega
  have w0 : IntKind.u64.wrap 0 = 0 := by decide
  have z0 : (0 : Int) / 4294967296 = 0 := by decide
  have hd : (y : Int) / 4294967296 = 0 := by omega
  go_enter Tryz.func126, Tryz.ntmps126
  go_wp2
  go_ret2
  exact ⟨rfl, rfl⟩
theorem mulOneW (y : Nat) (hy : y < 4294967296) (w : World) : Calls Tryz.prog 109 #[.int .u64 1, .int .u64 (y : Int)] w fun e w' => e = .returned (.tuple #[.int .u64 0, .int .u64 (y : Int)]) ∧ w' = w := by
  have C := mulOne y hy w
  go_enter Tryz.func109, Tryz.ntmps109
  go_wp2_with fail
  refine C.mono ?_
  rintro e w1 ⟨rfl, rfl⟩
  clear C
  go_wp2_with fail
  go_ret2
  exact ⟨rfl, rfl⟩
theorem run_copyT {P : Program} (w : World) (dT sT ty elem : TypeId) (k : Nat) (g o dLen dCap : Nat) (a : Addr) (sLen sCap : Nat) (cur : Array Value) (t : TypeId) (cs : List Value)
    (hu : P.underlying dT = some (.slice elem)) (hs : (P.info? elem).map (·.size) = some k)
    (hg : w.heap[g]? = some (.cells cur t (0, 0))) (hn : cs.length = Nat.min sLen dLen * k)
    (hsrc : ∀ j v, cs[j]? = some v → w.cell? (a.add j) = some v) (hfit : o + cs.length ≤ cur.size) (h1 : ∀ v ∈ cs, v.oneCell' = true) :
    (Builtin.copy_ #[dT, sT] ty #[.slice (some ⟨g, o, none⟩) dLen dCap, .slice (some a) sLen sCap]).run P w =
      .ok (goInt (Nat.min sLen dLen)) (w.setRow g (cur.toList.take o ++ cs ++ cur.toList.drop (o + cs.length)).toArray) := by
  have hl := run_loadCells_list (P := P) w a cs hsrc
  have hst := run_storeCells_at P g o t cs 0 cur w hg (by simpa using hfit) h1
  cases hq : P.info? elem with
  | none => simp [hq] at hs
  | some i =>
    have hi : i.size = k := by simpa [hq] using hs
    simp [Builtin.copy_, run_underlying hu, Builtin.lenOf, Builtin.firstCells, sizeOf, typeInfo, hq, hi, ← hn, hl, hst]
theorem vtc_len : ∀ l : List VT, (l.flatMap VT.c).length = l.length * 3
  | [] => rfl
  | y :: l => by rw [List.flatMap_cons, List.length_append, vtc_len l, List.length_cons, Nat.succ_mul]; simp [VT.c]; omega
theorem vtc_one (l : List VT) : ∀ v ∈ l.flatMap VT.c, v.oneCell' = true := by
  intro v hv
  obtain ⟨y, _, hy⟩ := List.mem_flatMap.1 hv
  simp [VT.c] at hy
  rcases hy with rfl | rfl | rfl <;> rfl
def rowN (x : VT) (N m : Nat) : List Value := (List.replicate m x ++ List.replicate (N - m) (⟨0, false, 0⟩ : VT)).flatMap VT.c
theorem rowN_len (x : VT) {N m : Nat} (h : m ≤ N) : (rowN x N m).length = N * 3 := by
  unfold rowN
  rw [vtc_len]
  simp
  omega
theorem rowN_zero (x : VT) (N : Nat) : madeCells (Value.cells (.agg #[.int .i64 0, .bool false, .int .i64 0])) (N * 3) = (rowN x N 0).toArray := by
  apply Array.toList_inj.1
  unfold madeCells rowN
  simp only [Value.cells, List.replicate_zero, List.nil_append, Nat.sub_zero, Array.toList_map, Array.toList_range]
  induction N with
  | zero => rfl
  | succ N ih =>
    rw [List.replicate_succ', List.flatMap_append, ← ih, Nat.succ_mul, List.range_succ, List.range_succ, List.range_succ]
    have m0 : (N * 3) % 3 = 0 := by omega
    have m1 : (N * 3 + 1) % 3 = 1 := by omega
    have m2 : (N * 3 + 1 + 1) % 3 = 2 := by omega
    simp [VT.c, m0, m1, m2]
theorem rowN_step (x : VT) {N m k : Nat} (h : m + k ≤ N) : (rowN x N m).take (m * 3) ++ (List.replicate k x).flatMap VT.c ++ (rowN x N m).drop (m * 3 + ((List.replicate k x).flatMap VT.c).length) = rowN x N (m + k) := by
  unfold rowN
  rw [List.flatMap_append, List.flatMap_append]
  have l1 : ((List.replicate m x).flatMap VT.c).length = m * 3 := by rw [vtc_len]; simp
  have l2 : ((List.replicate k x).flatMap VT.c).length = k * 3 := by rw [vtc_len]; simp
  have e1 : (List.replicate (N - m) (⟨0, false, 0⟩ : VT)) = List.replicate k (⟨0, false, 0⟩ : VT) ++ List.replicate (N - (m + k)) (⟨0, false, 0⟩ : VT) := by
    rw [List.replicate_append_replicate]; congr 1; omega
  have l3 : ((List.replicate k (⟨0, false, 0⟩ : VT)).flatMap VT.c).length = k * 3 := by rw [vtc_len]; simp
  rw [e1, List.flatMap_append, l2]
  generalize (List.replicate k (⟨0, false, 0⟩ : VT)).flatMap VT.c = Z at *
  generalize (List.replicate (N - (m + k)) (⟨0, false, 0⟩ : VT)).flatMap VT.c = Y at *
  rw [← List.replicate_append_replicate (n := m) (m := k), List.flatMap_append]
  generalize (List.replicate m x).flatMap VT.c = A at *
  generalize (List.replicate k x).flatMap VT.c = X at *
  have t1 : (A ++ (Z ++ Y)).take (m * 3) = A := List.take_left' l1
  have t2 : (A ++ (Z ++ Y)).drop (m * 3 + k * 3) = Y := by
    rw [← List.append_assoc]
    exact List.drop_left' (by rw [List.length_append, l1, l3])
  rw [t1, t2]
theorem rowN_pre (x : VT) {N m k : Nat} (h : k ≤ m) (hm : m ≤ N) (j : Nat) (v : Value) (hj : ((List.replicate k x).flatMap VT.c)[j]? = some v) : (rowN x N m)[j]? = some v := by
  have e : rowN x N m = (List.replicate k x).flatMap VT.c ++ ((List.replicate (m - k) x).flatMap VT.c ++ (List.replicate (N - m) (⟨0, false, 0⟩ : VT)).flatMap VT.c) := by
    unfold rowN
    have e2 : List.replicate m x = List.replicate k x ++ List.replicate (m - k) x := by
      rw [List.replicate_append_replicate]; congr 1; omega
    rw [e2, List.flatMap_append, List.flatMap_append, List.append_assoc]
  rw [e, List.getElem?_append_left (List.getElem?_eq_some_iff.1 hj).1]
  exact hj
theorem repeat_any (b : Nat) (x : VT) (N : Nat) (hN : N ≤ 10000) (w : World) (c0 : w.cell? ⟨b, 0, none⟩ = some (.int .i64 x.num)) (c1 : w.cell? ⟨b, 1, none⟩ = some (.bool x.null)) (c2 : w.cell? ⟨b, 2, none⟩ = some (.int .i64 x.heap)) :
    Calls Tryz.prog 84 #[.slice (some ⟨b, 0, none⟩) 1 1, .int .i64 (N : Int)] w fun e w' => ∃ v, e = .returned v ∧ RowV w.heap.size w' v (List.replicate N x) ∧ Grew w w' := by
  have C : Hid (∀ X, Calls Tryz.prog 109 #[.int .u64 1, .int .u64 (N : Int)] X fun e w' => e = .returned (.tuple #[.int .u64 0, .int .u64 (N : Int)]) ∧ w' = X) := fun X => mulOneW N (by omega) X
  have hm := run_makeK (w := w) (n := N) Tryz.underlying27 infoV (by decide) (by omega)
  rw [rowN_zero x N] at hm
  have O0 := heap_alloc_last w (.cells (rowN x N 0).toArray 46)
  have G0 : Grew w (w.alloc (.cells (rowN x N 0).toArray 46)) := (Grew.refl w).alloc _
  have d0 := cell_grew c0 G0
  have d1 := cell_grew c1 G0
  have d2 := cell_grew c2 G0
  generalize w.alloc (.cells (rowN x N 0).toArray 46) = W at *
  have hcp := run_copyT (P := Tryz.prog) W 27 27 3 46 3 w.heap.size 0 N N ⟨b, 0, none⟩ 1 1 (rowN x N 0).toArray 46 ((List.replicate (Nat.min 1 N) x).flatMap VT.c) Tryz.underlying27 (by kernel_rfl) O0 (by rw [vtc_len]; simp) (by
    intro j v hj
    have e0 : Nat.min 1 N = 0 ∨ Nat.min 1 N = 1 := by have h1 : Nat.min 1 N ≤ 1 := Nat.min_le_left 1 N; generalize Nat.min 1 N = q at *; omega
    rcases e0 with e0 | e0
    · rw [e0] at hj; simp at hj
    · rw [e0] at hj
      rw [add_at]
      match j, hj with
      | 0, hj => simp [VT.c] at hj; subst hj; exact d0
      | 1, hj => simp [VT.c] at hj; subst hj; exact d1
      | 2, hj => simp [VT.c] at hj; subst hj; exact d2
      | (j + 3), hj => simp [VT.c] at hj) (by rw [vtc_len]; have := rowN_len x (Nat.zero_le N); have h1 : Nat.min 1 N ≤ N := Nat.min_le_right 1 N; simp only [List.size_toArray, List.length_replicate, this]; generalize Nat.min 1 N = q at *; omega) (vtc_one _)
  have hst := rowN_step x (N := N) (m := 0) (k := Nat.min 1 N) (by rw [Nat.zero_add]; exact Nat.min_le_right 1 N)
  simp only [Nat.zero_mul, Nat.zero_add] at hst
  simp only [Nat.zero_add, hst] at hcp
  have O1 := setRow_heap W w.heap.size (rowN x N 0).toArray (rowN x N (Nat.min 1 N)).toArray 46 _ O0
  have G1 := setRow_grew G0 (Nat.le_refl w.heap.size) (rowN x N (Nat.min 1 N)).toArray
  generalize W.setRow w.heap.size (rowN x N (Nat.min 1 N)).toArray = W1 at *
  have HO1 := Hid.mk' O1
  have HG1 := Hid.mk' G1
  clear O0 G0 c0 c1 c2 d0 d1 d2 hst O1 G1
  go_enter Tryz.func84, Tryz.ntmps84
  go_wp2_with fail
  refine (C.out _).mono ?_
  rintro e w1 ⟨rfl, hw1⟩
  obtain rfl := hw1.symm
  clear C
  go_wp2_with fail
  have IM : Hid (Nat.min 1 N = 0 → N = 0) := fun h => by
    have h1 : N = 0 ∨ 1 ≤ N := by omega
    rcases h1 with h1 | h1
    · exact h1
    · have h2 : Nat.min 1 N = 1 := Nat.min_eq_left h1
      omega
  have IL : Hid (Nat.min 1 N ≤ N) := Nat.min_le_right 1 N
  generalize Nat.min 1 N = q at *
  go_loopw [8] (fun i wx => ∃ m : Nat, i = .int .i64 (m : Int) ∧ m ≤ N ∧ (m = 0 → N = 0) ∧ Hid (wx.heap[w.heap.size]? = some (.cells (rowN x N m).toArray 46 (0, 0))) ∧ Hid (Grew w wx)) (fun i _ => N - (intOf i).toNat)
  case atStart => exact ⟨q, rfl, IL.out, IM.out, HO1, HG1⟩
  case round =>
    obtain ⟨m, rfl, hmN, hm0, HO, HG⟩ := hrel
    clear IM IL HO1 HG1 hcp hm
    by_cases hlt : m < N
    · obtain ⟨k, hk⟩ : ∃ k, k = Nat.min m (N - m) := ⟨_, rfl⟩
      have k1 : k ≤ m := by rw [hk]; exact Nat.min_le_left _ _
      have k2 : k ≤ N - m := by rw [hk]; exact Nat.min_le_right _ _
      have k3 : 0 < k := by
        have a1 : 0 < m := by omega
        have a2 : 0 < N - m := by omega
        rw [hk]; exact Nat.lt_min.2 ⟨a1, a2⟩
      have O2 : wr.drew.heap[w.heap.size]? = some (.cells (rowN x N m).toArray 46 (0, 0)) := HO.out
      have lc : ((List.replicate k x).flatMap VT.c).length = k * 3 := by rw [vtc_len]; simp
      have hcp1 := run_copyT (P := Tryz.prog) wr.drew 27 27 3 46 3 w.heap.size (m * 3) (N - m) (N - m) ⟨w.heap.size, 0, none⟩ m N (rowN x N m).toArray 46 ((List.replicate k x).flatMap VT.c) Tryz.underlying27 (by kernel_rfl) O2 (by rw [lc, hk]) (by
        intro j v hj
        rw [add_at, Nat.zero_add]
        have h2 := rowN_pre x k1 hmN j v hj
        simp only [World.cell?, O2]
        simpa using h2) (by rw [lc]; have := rowN_len x hmN; simp only [List.size_toArray, this]; omega) (vtc_one _)
      rw [← hk] at hcp1
      have hst := rowN_step x (N := N) (m := m) (k := k) (by omega)
      simp only [hst] at hcp1
      have O3 := setRow_heap wr.drew w.heap.size (rowN x N m).toArray (rowN x N (m + k)).toArray 46 _ O2
      have G3 := setRow_grew (HG.out.drewN 1) (Nat.le_refl w.heap.size) (rowN x N (m + k)).toArray
      have HO3 := Hid.mk' O3
      have HG3 := Hid.mk' G3
      clear O2 O3 G3 hst lc hk HO HG
      go_wp2_with fail
      go_region
      all_goals go_wp2_with fail
      all_goals go_roundw
      case rel => exact ⟨m + k, by rw [Int.natCast_add], by omega, (fun h => by omega), HO3, HG3⟩
      case measure => simp [intOf]; omega
    · obtain rfl : m = N := by omega
      clear hm0
      go_wp2_with fail
      go_ret
      have hln := rowN_len x (Nat.le_refl m)
      refine ⟨_, rfl, ?_, HG.out⟩
      refine ⟨by rw [vtc_len], Or.inr ⟨_, m, _, by rw [List.length_replicate]; rfl, Nat.le_refl _, HO.out, by rw [List.length_replicate]; exact Nat.le_refl _, by unfold maxLen; omega, by simp only [List.size_toArray, hln], ?_⟩⟩
      rw [List.length_replicate, List.take_of_length_le (by simp only [hln]; exact Nat.le_refl _)]
      unfold rowN
      simp
section
variable {w : World} {cx : Array Value} {TT : List RT} {FL : List Int} {EL : List VT} {RB : List Bool} {dt : Int}
theorem lv_cells {Y : World} {bb : Nat} {x : VT} (h : LV Y (.slice (some ⟨bb, 0, none⟩) 1 1) [x]) : Y.cell? ⟨bb, 0, none⟩ = some (.int .i64 x.num) ∧ Y.cell? ⟨bb, 1, none⟩ = some (.bool x.null) ∧ Y.cell? ⟨bb, 2, none⟩ = some (.int .i64 x.heap) := by
  obtain ⟨a', c', hv, _, _, _, h3⟩ := h
  injection hv with e1 _ _
  rcases h3 with h3 | ⟨b', o', e2, hE⟩
  · cases h3
  · rw [e2] at e1
    injection e1 with e1
    injection e1 with e3 e4 _
    subst e3; subst e4
    have h4 := hE 0 _ rfl
    exact ⟨h4.1, h4.2.1, h4.2.2⟩
theorem arrayNewFixed1_z (hc : CTX w cx TT FL EL RB dt) {X : World} (g : Grew w X) {p q : Nat} {es : Array Value} (hx : X.heap[p]? = some (.cells cx 30 (0, 0))) (hq : X.heap[q]? = some (.cells es 52 (0, 0))) {n : Nat} (h32 : n < 4294967296) (h1 : es[1]? = some (.int .u32 (n : Int))) {N : Nat} (h3 : es[3]? = some (.int .u64 (N : Int))) : Calls Tryz.prog 83 #[.pointer (some ⟨p, 0, none⟩), .pointer (some ⟨q, 0, none⟩)] X (TkQ X) := by
  have CE : Hid (∀ Y, Grew X Y → Calls Tryz.prog 81 #[.agg cx, .int .u32 (n : Int)] Y (FtQ Y)) := fun Y gy => element_any hc n h32 (g.trans gy)
  have hsz := hc.sz
  have HX := Hid.mk' hx
  have q1 := (cell_of hq 1).trans h1
  have q3 := (cell_of hq 3).trans h3
  have GP : Hid (Grew X X) := Grew.refl X
  have CU : Hid (∀ Y (n h : Int) (z : Bool), Calls Tryz.prog 71 #[.agg #[.int .i64 n, .bool z, .int .i64 h]] Y (VtQ Y)) := fun Y n h z => unpack_any n h z Y
  have CL : Hid (∀ v Y, Calls Tryz.prog 32 #[v] Y fun en w' => en = .returned v ∧ Grew Y w') := ql_any
  clear hc g h32 hq h1 h3
  go_enter Tryz.func83, Tryz.ntmps83
  go_wp2_with (first
    | (with_reducible refine stop_load 30 rfl ?_
       unfold Stop
       refine wpList_load_row rfl 30 _ rfl p (by go_simp) 30 cx (0, 0) _ HX.out Tryz.underlying30 rfl (by rw [hsz]; kernel_rfl) ?_)
    | fail)
  refine (CE.out _ (Grew.refl X)).mono ?_
  rintro en w1 ⟨a, b, c, d, e, rfl, he, g1⟩
  clear GP
  have GP := Hid.mk' g1
  have H6 := Hid.mk' he
  have q31 := cell_grew q3 g1
  have lq1 := lt_of_cell q31
  clear he g1 CE HX hx q1 q3
  by_cases h0 : e = 0
  · subst h0
    by_cases hN : (10000 : Int) < (N : Int)
    · go_wp2_with fail
      refine bodyPost_ret (v := .tuple #[.slice none 0 0, .int .i64 2]) (by simp [results, Tryz.results83, go_sem]) rfl ?_
      exact ⟨_, [], 2, rfl, by decide, (RowV.nil 0 _).lst, GP.out.alloc _⟩
    · have hN2 : N ≤ 10000 := by omega
      have CR : Hid (∀ (bb : Nat) (ua uc : Int) (ub : Bool) (Y : World), LV Y (.slice (some ⟨bb, 0, none⟩) 1 1) [⟨ua, ub, uc⟩] → Calls Tryz.prog 84 #[.slice (some ⟨bb, 0, none⟩) 1 1, .int .i64 (IntKind.i64.wrap (N : Int))] Y fun e w' => ∃ v, e = .returned v ∧ RowV Y.heap.size w' v (List.replicate N ⟨ua, ub, uc⟩) ∧ Grew Y w') := fun bb ua uc ub Y h => by
        have hwr : IntKind.i64.wrap (N : Int) = (N : Int) := by rw [IntKind.wrap_i64]; omega
        rw [hwr]
        obtain ⟨h0, h1, h2⟩ := lv_cells h
        exact repeat_any bb ⟨ua, ub, uc⟩ N hN2 Y h0 h1 h2
      have hN3 : (0 : Int) ≤ N := by omega
      have NF := heap_alloc_last w1 (.cells #[.int .i64 a, .bool b, .int .i64 c, .bool d] 112)
      have GW : Hid (Grew X (w1.alloc (.cells #[.int .i64 a, .bool b, .int .i64 c, .bool d] 112))) := GP.out.alloc _
      have q3W := cell_grew q31 ((Grew.refl w1).alloc (.cells #[.int .i64 a, .bool b, .int .i64 c, .bool d] 112))
      obtain ⟨t, ht⟩ : ∃ t, t = w1.heap.size := ⟨_, rfl⟩
      rw [← ht] at NF
      go_wp2_with fail
      simp only [← ht]
      generalize w1.alloc (.cells #[.int .i64 a, .bool b, .int .i64 c, .bool d] 112) = W0 at *
      have z0 := cell_of NF 0
      have z1 := cell_of NF 1
      have z2 := cell_of NF 2
      simp at z0 z1 z2
      clear NF GP q31 lq1 ht
      have lt0 := lt_of_cell z0
      have lq0 := lt_of_cell q3W
      have GQ : Hid (Grew W0 W0) := Grew.refl _
      go_region_held3 (fun Y => Y.cell? ⟨t, 0, none⟩ = some (.int .i64 a) ∧ Y.cell? ⟨t, 1, none⟩ = some (.bool b) ∧ Y.cell? ⟨t, 2, none⟩ = some (.int .i64 c) ∧ Y.cell? ⟨q, 3, none⟩ = some (.int .u64 (N : Int))) (go_keep) (first
        | (with_reducible refine (CU.out _ _ _ _).mono ?_
           rintro en wn ⟨ua, ub, uc, rfl, gn⟩
           have gx : Grew W0 wn := Grew.trans (by repeat (first | with_reducible exact GQ.out | with_reducible exact .refl _ | refine .alloc ?_ _ | refine .drewN ?_ _ | refine .drew ?_)) gn
           clear GQ
           have GQ := Hid.mk' gx
           have s0 := cell_grew z0 gx
           have s1 := cell_grew z1 gx
           have s2 := cell_grew z2 gx
           have s3 := cell_grew q3W gx
           clear gx gn)
        | (with_reducible refine (CL.out _ _).mono ?_
           rintro en wn ⟨rfl, gn⟩
           have hl := (one_lst _ _ _ _).grew gn
           have HU := Hid.mk' hl
           clear hl
           have gx : Grew W0 wn := Grew.trans (by repeat (first | with_reducible exact GQ.out | with_reducible exact .refl _ | refine .alloc ?_ _ | refine .drewN ?_ _ | refine .drew ?_)) gn
           clear GQ
           have GQ := Hid.mk' gx
           have s0 := cell_grew z0 gx
           have s1 := cell_grew z1 gx
           have s2 := cell_grew z2 gx
           have s3 := cell_grew q3W gx
           clear gx gn)
        | (with_reducible refine (CR.out _ _ _ _ _ HU.out).mono ?_
           rintro en wn ⟨v, rfl, hv, gn⟩
           have HV := Hid.mk' (RowV.lst hv)
           clear hv
           have gx : Grew W0 wn := Grew.trans (by repeat (first | with_reducible exact GQ.out | with_reducible exact .refl _ | refine .alloc ?_ _ | refine .drewN ?_ _ | refine .drew ?_)) gn
           clear GQ
           have GQ := Hid.mk' gx
           have s0 := cell_grew z0 gx
           have s1 := cell_grew z1 gx
           have s2 := cell_grew z2 gx
           have s3 := cell_grew q3W gx
           clear gx gn)
        | fail)
      all_goals
        go_wp2_with fail
        refine bodyPost_ret (v := .tuple #[v, .int .i64 0]) (by simp [results, Tryz.results83, go_sem]) rfl ?_
        exact ⟨_, _, 0, rfl, by decide, HV.out, GW.out.trans GQ.out⟩
  · have e1 : (e == 0) = false := by rw [beq_eq_false_iff_ne]; exact h0
    clear h0
    go_wp2_with fail
    refine bodyPost_ret (v := .tuple #[.slice none 0 0, .int .i64 e]) (by simp [results, Tryz.results83, go_sem]) rfl ?_
    exact ⟨_, [], e, rfl, H6.out, (RowV.nil 0 _).lst, GP.out.alloc _⟩
end
/- A step: a function's value that, called with the fresh checker, answers an error that is not 6. -/
def SQ (B C : Nat) (X : World) (en : Ending) (w' : World) : Prop := ∃ (k : Nat) (lb : Array Value), en = .returned (.func (.func k) #[] lb) ∧ (∀ args W, (callFunc k args).run Tryz.prog W = .ok (.enter k args) W) ∧ Grew X w' ∧ ∀ Y, Grew w' Y → Calls Tryz.prog k (#[.pointer (some ⟨C, 0, none⟩)] ++ lb) Y (Z6 B Y)
structure IN (w : World) (es : Array Value) (op : Int) (n ny N : Nat) (sl : List VT) : Prop where
  sz : es.size = 17
  h0 : es[0]? = some (.int .i64 op)
  h1 : es[1]? = some (.int .u32 (n : Int))
  l1 : n < 4294967296
  h2 : es[2]? = some (.int .u32 (ny : Int))
  l2 : ny < 4294967296
  h3 : es[3]? = some (.int .u64 (N : Int))
  h15 : ∃ ya yc, es[15]? = some (.slice ya sl.length yc) ∧ LV w (.slice ya sl.length yc) sl
/- All that the steps ask of the place where they are made. -/
structure FA (B C : Nat) (w : World) (cx : Array Value) (TT : List RT) (FL : List Int) (EL : List VT) (RB : List Bool) (dt : Int) (es : Array Value) (op : Int) (n ny N : Nat) (sl : List VT) : Prop where
  F : FRS B C w
  L : FRL C w
  c : CTX w cx TT FL EL RB dt
  i : IN w es op n ny N sl
theorem obj_grew {w w' : World} (g : Grew w w') {k : Nat} {o : Obj} (h : w.heap[k]? = some o) : w'.heap[k]? = some o := (g.turn []).other h (by simp)
section
variable {B C : Nat} {w : World} {cx : Array Value} {TT : List RT} {FL : List Int} {EL : List VT} {RB : List Bool} {dt : Int} {es : Array Value} {op : Int} {n ny N : Nat} {sl : List VT}
theorem FA.qC (H : FA B C w cx TT FL EL RB dt es op n ny N sl) {X : World} (g : Grew w X) (j : Nat) : X.heap.size + j ≠ C := by have := H.F.hC; have := g.2; omega
theorem qnull_sq (H : FA B C w cx TT FL EL RB dt es op n ny N sl) {X : World} (g : Grew w X) : Calls Tryz.prog 26 #[.agg cx, .agg es] X (SQ B C X) := by
  have N1 : ((X.alloc (.cells cx 30)).alloc (.cells es 52)).heap[X.heap.size + 1]? = some (.cells es 52 (0, 0)) := by
    have := heap_alloc_last (X.alloc (.cells cx 30)) (.cells es 52)
    rw [alloc_size] at this
    exact this
  have N0 : ((X.alloc (.cells cx 30)).alloc (.cells es 52)).heap[X.heap.size]? = some (.cells cx 30 (0, 0)) := heap_alloc (heap_alloc_last _ _) _
  have HN := Hid.mk' N1
  have HM := Hid.mk' N0
  have hsz := H.c.sz
  have hes := H.i.sz
  have HH := Hid.mk' H
  have Hg := Hid.mk' g
  clear N1 N0 H g
  go_enter Tryz.func26, Tryz.ntmps26
  go_wp2_with fail
  go_ret
  refine ⟨58, #[.pointer (some ⟨X.heap.size + 1, 0, none⟩), .pointer (some ⟨X.heap.size, 0, none⟩)], rfl, enters_of Tryz.func58 (by kernel_rfl) rfl, (by repeat (first | with_reducible exact .refl _ | refine .alloc ?_ _ | refine .set ?_ (by simp) _ | refine .drewN ?_ _ | refine .drew ?_)), fun Y gY => ?_⟩
  have gy : Grew w Y := (Hg.out.trans (by repeat (first | with_reducible exact .refl _ | refine .alloc ?_ _ | refine .set ?_ (by simp) _ | refine .drewN ?_ _ | refine .drew ?_))).trans gY
  have hx := obj_grew gY HM.out
  have hq := obj_grew gY HN.out
  have H := HH.out
  have qC := H.qC Hg.out 1
  obtain ⟨ya, yc, h15, hsl⟩ := H.i.h15
  exact null1_z H.F H.c gy hx hq h15 (hsl.grew gy)
theorem qfunction_sq (H : FA B C w cx TT FL EL RB dt es op n ny N sl) {X : World} (g : Grew w X) : Calls Tryz.prog 30 #[.agg cx, .agg es] X (SQ B C X) := by
  have N1 : ((X.alloc (.cells cx 30)).alloc (.cells es 52)).heap[X.heap.size + 1]? = some (.cells es 52 (0, 0)) := by
    have := heap_alloc_last (X.alloc (.cells cx 30)) (.cells es 52)
    rw [alloc_size] at this
    exact this
  have N0 : ((X.alloc (.cells cx 30)).alloc (.cells es 52)).heap[X.heap.size]? = some (.cells cx 30 (0, 0)) := heap_alloc (heap_alloc_last _ _) _
  have HN := Hid.mk' N1
  have HM := Hid.mk' N0
  have hsz := H.c.sz
  have hes := H.i.sz
  have HH := Hid.mk' H
  have Hg := Hid.mk' g
  clear N1 N0 H g
  go_enter Tryz.func30, Tryz.ntmps30
  go_wp2_with fail
  go_ret
  refine ⟨63, #[.pointer (some ⟨X.heap.size, 0, none⟩), .pointer (some ⟨X.heap.size + 1, 0, none⟩)], rfl, enters_of Tryz.func63 (by kernel_rfl) rfl, (by repeat (first | with_reducible exact .refl _ | refine .alloc ?_ _ | refine .set ?_ (by simp) _ | refine .drewN ?_ _ | refine .drew ?_)), fun Y gY => ?_⟩
  have gy : Grew w Y := (Hg.out.trans (by repeat (first | with_reducible exact .refl _ | refine .alloc ?_ _ | refine .set ?_ (by simp) _ | refine .drewN ?_ _ | refine .drew ?_))).trans gY
  have hx := obj_grew gY HM.out
  have hq := obj_grew gY HN.out
  have H := HH.out
  have qC := H.qC Hg.out 1
  obtain ⟨ya, yc, h15, hsl⟩ := H.i.h15
  exact function1_z H.F H.c gy hx hq H.i.l1 H.i.h1
theorem qarrayFill_sq (H : FA B C w cx TT FL EL RB dt es op n ny N sl) {X : World} (g : Grew w X) : Calls Tryz.prog 45 #[.agg cx, .agg es] X (SQ B C X) := by
  have N1 : ((X.alloc (.cells cx 30)).alloc (.cells es 52)).heap[X.heap.size + 1]? = some (.cells es 52 (0, 0)) := by
    have := heap_alloc_last (X.alloc (.cells cx 30)) (.cells es 52)
    rw [alloc_size] at this
    exact this
  have N0 : ((X.alloc (.cells cx 30)).alloc (.cells es 52)).heap[X.heap.size]? = some (.cells cx 30 (0, 0)) := heap_alloc (heap_alloc_last _ _) _
  have HN := Hid.mk' N1
  have HM := Hid.mk' N0
  have hsz := H.c.sz
  have hes := H.i.sz
  have HH := Hid.mk' H
  have Hg := Hid.mk' g
  clear N1 N0 H g
  go_enter Tryz.func45, Tryz.ntmps45
  go_wp2_with fail
  go_ret
  refine ⟨88, #[.pointer (some ⟨X.heap.size, 0, none⟩), .pointer (some ⟨X.heap.size + 1, 0, none⟩)], rfl, enters_of Tryz.func88 (by kernel_rfl) rfl, (by repeat (first | with_reducible exact .refl _ | refine .alloc ?_ _ | refine .set ?_ (by simp) _ | refine .drewN ?_ _ | refine .drew ?_)), fun Y gY => ?_⟩
  have gy : Grew w Y := (Hg.out.trans (by repeat (first | with_reducible exact .refl _ | refine .alloc ?_ _ | refine .set ?_ (by simp) _ | refine .drewN ?_ _ | refine .drew ?_))).trans gY
  have hx := obj_grew gY HM.out
  have hq := obj_grew gY HN.out
  have H := HH.out
  have qC := H.qC Hg.out 1
  obtain ⟨ya, yc, h15, hsl⟩ := H.i.h15
  exact arrayFill1_z H.F H.c gy hx hq H.i.l1 H.i.h1 qC
theorem qarrayCopy_sq (H : FA B C w cx TT FL EL RB dt es op n ny N sl) {X : World} (g : Grew w X) : Calls Tryz.prog 46 #[.agg cx, .agg es] X (SQ B C X) := by
  have N1 : ((X.alloc (.cells cx 30)).alloc (.cells es 52)).heap[X.heap.size + 1]? = some (.cells es 52 (0, 0)) := by
    have := heap_alloc_last (X.alloc (.cells cx 30)) (.cells es 52)
    rw [alloc_size] at this
    exact this
  have N0 : ((X.alloc (.cells cx 30)).alloc (.cells es 52)).heap[X.heap.size]? = some (.cells cx 30 (0, 0)) := heap_alloc (heap_alloc_last _ _) _
  have HN := Hid.mk' N1
  have HM := Hid.mk' N0
  have hsz := H.c.sz
  have hes := H.i.sz
  have HH := Hid.mk' H
  have Hg := Hid.mk' g
  clear N1 N0 H g
  go_enter Tryz.func46, Tryz.ntmps46
  go_wp2_with fail
  go_ret
  refine ⟨90, #[.pointer (some ⟨X.heap.size, 0, none⟩), .pointer (some ⟨X.heap.size + 1, 0, none⟩)], rfl, enters_of Tryz.func90 (by kernel_rfl) rfl, (by repeat (first | with_reducible exact .refl _ | refine .alloc ?_ _ | refine .set ?_ (by simp) _ | refine .drewN ?_ _ | refine .drew ?_)), fun Y gY => ?_⟩
  have gy : Grew w Y := (Hg.out.trans (by repeat (first | with_reducible exact .refl _ | refine .alloc ?_ _ | refine .set ?_ (by simp) _ | refine .drewN ?_ _ | refine .drew ?_))).trans gY
  have hx := obj_grew gY HM.out
  have hq := obj_grew gY HN.out
  have H := HH.out
  have qC := H.qC Hg.out 1
  obtain ⟨ya, yc, h15, hsl⟩ := H.i.h15
  exact arrayCopy1_z H.F H.c gy hx hq H.i.l1 H.i.h1 qC H.i.l2 H.i.h2
theorem qcast_sq (H : FA B C w cx TT FL EL RB dt es op n ny N sl) {X : World} (g : Grew w X) : Calls Tryz.prog 92 #[.agg cx, .agg es] X (SQ B C X) := by
  have N1 : ((X.alloc (.cells cx 30)).alloc (.cells es 52)).heap[X.heap.size + 1]? = some (.cells es 52 (0, 0)) := by
    have := heap_alloc_last (X.alloc (.cells cx 30)) (.cells es 52)
    rw [alloc_size] at this
    exact this
  have N0 : ((X.alloc (.cells cx 30)).alloc (.cells es 52)).heap[X.heap.size]? = some (.cells cx 30 (0, 0)) := heap_alloc (heap_alloc_last _ _) _
  have HN := Hid.mk' N1
  have HM := Hid.mk' N0
  have hsz := H.c.sz
  have hes := H.i.sz
  have HH := Hid.mk' H
  have Hg := Hid.mk' g
  clear N1 N0 H g
  go_enter Tryz.func92, Tryz.ntmps92
  go_wp2_with fail
  go_ret
  refine ⟨113, #[.pointer (some ⟨X.heap.size + 1, 0, none⟩), .pointer (some ⟨X.heap.size, 0, none⟩)], rfl, enters_of Tryz.func113 (by kernel_rfl) rfl, (by repeat (first | with_reducible exact .refl _ | refine .alloc ?_ _ | refine .set ?_ (by simp) _ | refine .drewN ?_ _ | refine .drew ?_)), fun Y gY => ?_⟩
  have gy : Grew w Y := (Hg.out.trans (by repeat (first | with_reducible exact .refl _ | refine .alloc ?_ _ | refine .set ?_ (by simp) _ | refine .drewN ?_ _ | refine .drew ?_))).trans gY
  have hx := obj_grew gY HM.out
  have hq := obj_grew gY HN.out
  have H := HH.out
  have qC := H.qC Hg.out 1
  obtain ⟨ya, yc, h15, hsl⟩ := H.i.h15
  exact cast1_z H.F H.c gy hx hq h15 (hsl.grew gy) H.i.h0 qC
theorem qbranch_sq (H : FA B C w cx TT FL EL RB dt es op n ny N sl) {X : World} (g : Grew w X) : Calls Tryz.prog 93 #[.agg cx, .agg es] X (SQ B C X) := by
  have N1 : ((X.alloc (.cells cx 30)).alloc (.cells es 52)).heap[X.heap.size + 1]? = some (.cells es 52 (0, 0)) := by
    have := heap_alloc_last (X.alloc (.cells cx 30)) (.cells es 52)
    rw [alloc_size] at this
    exact this
  have N0 : ((X.alloc (.cells cx 30)).alloc (.cells es 52)).heap[X.heap.size]? = some (.cells cx 30 (0, 0)) := heap_alloc (heap_alloc_last _ _) _
  have HN := Hid.mk' N1
  have HM := Hid.mk' N0
  have hsz := H.c.sz
  have hes := H.i.sz
  have HH := Hid.mk' H
  have Hg := Hid.mk' g
  clear N1 N0 H g
  go_enter Tryz.func93, Tryz.ntmps93
  go_wp2_with fail
  go_ret
  refine ⟨115, #[.pointer (some ⟨X.heap.size + 1, 0, none⟩), .pointer (some ⟨X.heap.size, 0, none⟩)], rfl, enters_of Tryz.func115 (by kernel_rfl) rfl, (by repeat (first | with_reducible exact .refl _ | refine .alloc ?_ _ | refine .set ?_ (by simp) _ | refine .drewN ?_ _ | refine .drew ?_)), fun Y gY => ?_⟩
  have gy : Grew w Y := (Hg.out.trans (by repeat (first | with_reducible exact .refl _ | refine .alloc ?_ _ | refine .set ?_ (by simp) _ | refine .drewN ?_ _ | refine .drew ?_))).trans gY
  have hx := obj_grew gY HM.out
  have hq := obj_grew gY HN.out
  have H := HH.out
  have qC := H.qC Hg.out 1
  obtain ⟨ya, yc, h15, hsl⟩ := H.i.h15
  exact branch1_z H.L gy (Nat.le_trans H.F.hB gy.2) hq H.i.l1 H.i.h1 h15 (hsl.grew gy)
theorem qarrayInitFrom_sq (H : FA B C w cx TT FL EL RB dt es op n ny N sl) {X : World} (g : Grew w X) (k : Nat) (hen : ∀ args W, (callFunc k args).run Tryz.prog W = .ok (.enter k args) W) (hk : ∀ Y (a c : Int) (b d : Bool), Grew w Y → Calls Tryz.prog k #[.agg cx, .int .u32 (ny : Int), .agg #[.int .i64 a, .bool b, .int .i64 c, .bool d]] Y (ErQ Y)) : Calls Tryz.prog 47 #[.agg cx, .agg es, .func (.func k) #[] #[]] X (SQ B C X) := by
  have N1 : ((X.alloc (.cells cx 30)).alloc (.cells es 52)).heap[X.heap.size + 1]? = some (.cells es 52 (0, 0)) := by
    have := heap_alloc_last (X.alloc (.cells cx 30)) (.cells es 52)
    rw [alloc_size] at this
    exact this
  have N0 : ((X.alloc (.cells cx 30)).alloc (.cells es 52)).heap[X.heap.size]? = some (.cells cx 30 (0, 0)) := heap_alloc (heap_alloc_last _ _) _
  have HN := Hid.mk' N1
  have HM := Hid.mk' N0
  have hsz := H.c.sz
  have hes := H.i.sz
  have HH := Hid.mk' H
  have Hg := Hid.mk' g
  have HE := Hid.mk' hen
  have HK := Hid.mk' hk
  clear N1 N0 H g hen hk
  go_enter Tryz.func47, Tryz.ntmps47
  go_wp2_with fail
  go_ret
  refine ⟨91, #[.pointer (some ⟨X.heap.size, 0, none⟩), .pointer (some ⟨X.heap.size + 1, 0, none⟩), .pointer (some ⟨X.heap.size + 1 + 1, 0, none⟩)], rfl, enters_of Tryz.func91 (by kernel_rfl) rfl, (by repeat (first | with_reducible exact .refl _ | refine .alloc ?_ _ | refine .set ?_ (by simp) _ | refine .drewN ?_ _ | refine .drew ?_)), fun Y gY => ?_⟩
  have gy : Grew w Y := (Hg.out.trans (by repeat (first | with_reducible exact .refl _ | refine .alloc ?_ _ | refine .set ?_ (by simp) _ | refine .drewN ?_ _ | refine .drew ?_))).trans gY
  have hx := obj_grew gY (heap_alloc HM.out _)
  have hq := obj_grew gY (heap_alloc HN.out _)
  have hr := obj_grew gY (heap_alloc_last _ _)
  rw [alloc_size, alloc_size] at hr
  have H := HH.out
  exact arrayInitFrom1_z H.F H.c gy hx hq H.i.l1 H.i.h1 H.i.l2 H.i.h2 HE.out ((cell_of hr 0).trans rfl) (fun Z a c b d gZ => HK.out Z a c b d (gy.trans gZ))
theorem qmakes_sq (H : FA B C w cx TT FL EL RB dt es op n ny N sl) {X : World} (g : Grew w X) (k : Nat) (lb : Array Value) (hen : ∀ args W, (callFunc k args).run Tryz.prog W = .ok (.enter k args) W) (hp : ∀ Y, Grew X Y → Calls Tryz.prog k lb Y (TkQ Y)) : Calls Tryz.prog 68 #[.agg es, .func (.func k) #[] lb] X (SQ B C X) := by
  have N0 : ((X.alloc (.cells es 52)).alloc (.cells #[.func (.func k) #[] lb] 130)).heap[X.heap.size]? = some (.cells es 52 (0, 0)) := heap_alloc (heap_alloc_last _ _) _
  have N1 : ((X.alloc (.cells es 52)).alloc (.cells #[.func (.func k) #[] lb] 130)).heap[X.heap.size + 1]? = some (.cells #[.func (.func k) #[] lb] 130 (0, 0)) := by
    have := heap_alloc_last (X.alloc (.cells es 52)) (.cells #[.func (.func k) #[] lb] 130)
    rw [alloc_size] at this
    exact this
  have HN := Hid.mk' N1
  have HM := Hid.mk' N0
  have hes := H.i.sz
  have HH := Hid.mk' H
  have Hg := Hid.mk' g
  have HE := Hid.mk' hen
  have HP := Hid.mk' hp
  clear N1 N0 H g hen hp
  go_enter Tryz.func68, Tryz.ntmps68
  go_wp2_with fail
  go_ret
  refine ⟨104, #[.pointer (some ⟨X.heap.size + 1, 0, none⟩), .pointer (some ⟨X.heap.size, 0, none⟩)], rfl, enters_of Tryz.func104 (by kernel_rfl) rfl, (by repeat (first | with_reducible exact .refl _ | refine .alloc ?_ _ | refine .set ?_ (by simp) _ | refine .drewN ?_ _ | refine .drew ?_)), fun Y gY => ?_⟩
  have gX : Grew X Y := Grew.trans (by repeat (first | with_reducible exact .refl _ | refine .alloc ?_ _ | refine .set ?_ (by simp) _ | refine .drewN ?_ _ | refine .drew ?_)) gY
  have gy : Grew w Y := Hg.out.trans gX
  have hx := obj_grew gY HM.out
  have hq := obj_grew gY HN.out
  have H := HH.out
  exact makes1_z (es := es) H.F gy H.i.l1 HE.out ((cell_of hq 0).trans rfl) ((cell_of hx 1).trans H.i.h1) (fun Z gZ => HP.out Z (gX.trans gZ))
theorem qstructNew_sq (H : FA B C w cx TT FL EL RB dt es op n ny N sl) {X : World} (g : Grew w X) : Calls Tryz.prog 36 #[.agg cx, .agg es] X (SQ B C X) := by
  have N1 : ((X.alloc (.cells cx 30)).alloc (.cells es 52)).heap[X.heap.size + 1]? = some (.cells es 52 (0, 0)) := by
    have := heap_alloc_last (X.alloc (.cells cx 30)) (.cells es 52)
    rw [alloc_size] at this
    exact this
  have N0 : ((X.alloc (.cells cx 30)).alloc (.cells es 52)).heap[X.heap.size]? = some (.cells cx 30 (0, 0)) := heap_alloc (heap_alloc_last _ _) _
  have HN := Hid.mk' N1
  have HM := Hid.mk' N0
  have hsz := H.c.sz
  have hes := H.i.sz
  have HH := Hid.mk' H
  have Hg := Hid.mk' g
  have CM : Hid (∀ Y, Grew ((X.alloc (.cells cx 30)).alloc (.cells es 52)) Y → Calls Tryz.prog 68 #[.agg es, .func (.func 69) #[] #[.pointer (some ⟨X.heap.size, 0, none⟩), .pointer (some ⟨X.heap.size + 1, 0, none⟩)]] Y (SQ B C Y)) := fun Y gY => qmakes_sq HH.out ((Hg.out.trans (by repeat (first | with_reducible exact .refl _ | refine .alloc ?_ _ | refine .set ?_ (by simp) _ | refine .drewN ?_ _ | refine .drew ?_))).trans gY) _ _ (enters_of Tryz.func69 (by kernel_rfl) rfl) (fun Z gZ => by
    have gy : Grew w Z := ((Hg.out.trans (by repeat (first | with_reducible exact .refl _ | refine .alloc ?_ _ | refine .set ?_ (by simp) _ | refine .drewN ?_ _ | refine .drew ?_))).trans gY).trans gZ
    have hx := obj_grew (gY.trans gZ) HM.out
    have hq := obj_grew (gY.trans gZ) HN.out
    have H := HH.out
    exact structNew1_z H.c gy hx hq H.i.l1 H.i.h1)
  clear N1 N0 H g
  go_enter Tryz.func36, Tryz.ntmps36
  go_wp2_with (first
    | (with_reducible refine stop_load 30 rfl ?_
       unfold Stop
       refine wpList_load_row rfl 30 _ rfl (X.heap.size) (by go_simp) 30 cx (0, 0) _ HM.out Tryz.underlying30 rfl (by rw [hsz]; kernel_rfl) ?_)
    | (with_reducible refine stop_load 52 rfl ?_
       unfold Stop
       refine wpList_load_row rfl 52 _ rfl (X.heap.size + 1) (by go_simp) 52 es (0, 0) _ HN.out Tryz.underlying52 rfl (by rw [hes]; kernel_rfl) ?_)
    | fail)
  refine (CM.out _ (by repeat (first | with_reducible exact .refl _ | refine .alloc ?_ _ | refine .set ?_ (by simp) _ | refine .drewN ?_ _ | refine .drew ?_))).mono ?_
  rintro en w1 ⟨k1, l1, rfl, h1, h2, h3⟩
  have H1 := Hid.mk' h1
  have H2 := Hid.mk' h2
  have H3 := Hid.mk' h3
  clear h1 h2 h3
  go_wp2_with fail
  go_ret
  exact ⟨_, _, rfl, H1.out, Grew.trans (by repeat (first | with_reducible exact .refl _ | refine .alloc ?_ _ | refine .set ?_ (by simp) _ | refine .drewN ?_ _ | refine .drew ?_)) H2.out, H3.out⟩
theorem qstructNewDefault_sq (H : FA B C w cx TT FL EL RB dt es op n ny N sl) {X : World} (g : Grew w X) : Calls Tryz.prog 37 #[.agg cx, .agg es] X (SQ B C X) := by
  have N1 : ((X.alloc (.cells cx 30)).alloc (.cells es 52)).heap[X.heap.size + 1]? = some (.cells es 52 (0, 0)) := by
    have := heap_alloc_last (X.alloc (.cells cx 30)) (.cells es 52)
    rw [alloc_size] at this
    exact this
  have N0 : ((X.alloc (.cells cx 30)).alloc (.cells es 52)).heap[X.heap.size]? = some (.cells cx 30 (0, 0)) := heap_alloc (heap_alloc_last _ _) _
  have HN := Hid.mk' N1
  have HM := Hid.mk' N0
  have hsz := H.c.sz
  have hes := H.i.sz
  have HH := Hid.mk' H
  have Hg := Hid.mk' g
  have CM : Hid (∀ Y, Grew ((X.alloc (.cells cx 30)).alloc (.cells es 52)) Y → Calls Tryz.prog 68 #[.agg es, .func (.func 72) #[] #[.pointer (some ⟨X.heap.size, 0, none⟩), .pointer (some ⟨X.heap.size + 1, 0, none⟩)]] Y (SQ B C Y)) := fun Y gY => qmakes_sq HH.out ((Hg.out.trans (by repeat (first | with_reducible exact .refl _ | refine .alloc ?_ _ | refine .set ?_ (by simp) _ | refine .drewN ?_ _ | refine .drew ?_))).trans gY) _ _ (enters_of Tryz.func72 (by kernel_rfl) rfl) (fun Z gZ => by
    have gy : Grew w Z := ((Hg.out.trans (by repeat (first | with_reducible exact .refl _ | refine .alloc ?_ _ | refine .set ?_ (by simp) _ | refine .drewN ?_ _ | refine .drew ?_))).trans gY).trans gZ
    have hx := obj_grew (gY.trans gZ) HM.out
    have hq := obj_grew (gY.trans gZ) HN.out
    have H := HH.out
    exact structNewDefault1_z H.c gy hx hq H.i.l1 H.i.h1)
  clear N1 N0 H g
  go_enter Tryz.func37, Tryz.ntmps37
  go_wp2_with (first
    | (with_reducible refine stop_load 30 rfl ?_
       unfold Stop
       refine wpList_load_row rfl 30 _ rfl (X.heap.size) (by go_simp) 30 cx (0, 0) _ HM.out Tryz.underlying30 rfl (by rw [hsz]; kernel_rfl) ?_)
    | (with_reducible refine stop_load 52 rfl ?_
       unfold Stop
       refine wpList_load_row rfl 52 _ rfl (X.heap.size + 1) (by go_simp) 52 es (0, 0) _ HN.out Tryz.underlying52 rfl (by rw [hes]; kernel_rfl) ?_)
    | fail)
  refine (CM.out _ (by repeat (first | with_reducible exact .refl _ | refine .alloc ?_ _ | refine .set ?_ (by simp) _ | refine .drewN ?_ _ | refine .drew ?_))).mono ?_
  rintro en w1 ⟨k1, l1, rfl, h1, h2, h3⟩
  have H1 := Hid.mk' h1
  have H2 := Hid.mk' h2
  have H3 := Hid.mk' h3
  clear h1 h2 h3
  go_wp2_with fail
  go_ret
  exact ⟨_, _, rfl, H1.out, Grew.trans (by repeat (first | with_reducible exact .refl _ | refine .alloc ?_ _ | refine .set ?_ (by simp) _ | refine .drewN ?_ _ | refine .drew ?_)) H2.out, H3.out⟩
theorem qarrayNew_sq (H : FA B C w cx TT FL EL RB dt es op n ny N sl) {X : World} (g : Grew w X) : Calls Tryz.prog 39 #[.agg cx, .agg es] X (SQ B C X) := by
  have N1 : ((X.alloc (.cells cx 30)).alloc (.cells es 52)).heap[X.heap.size + 1]? = some (.cells es 52 (0, 0)) := by
    have := heap_alloc_last (X.alloc (.cells cx 30)) (.cells es 52)
    rw [alloc_size] at this
    exact this
  have N0 : ((X.alloc (.cells cx 30)).alloc (.cells es 52)).heap[X.heap.size]? = some (.cells cx 30 (0, 0)) := heap_alloc (heap_alloc_last _ _) _
  have HN := Hid.mk' N1
  have HM := Hid.mk' N0
  have hsz := H.c.sz
  have hes := H.i.sz
  have HH := Hid.mk' H
  have Hg := Hid.mk' g
  have CM : Hid (∀ Y, Grew ((X.alloc (.cells cx 30)).alloc (.cells es 52)) Y → Calls Tryz.prog 68 #[.agg es, .func (.func 80) #[] #[.pointer (some ⟨X.heap.size, 0, none⟩), .pointer (some ⟨X.heap.size + 1, 0, none⟩)]] Y (SQ B C Y)) := fun Y gY => qmakes_sq HH.out ((Hg.out.trans (by repeat (first | with_reducible exact .refl _ | refine .alloc ?_ _ | refine .set ?_ (by simp) _ | refine .drewN ?_ _ | refine .drew ?_))).trans gY) _ _ (enters_of Tryz.func80 (by kernel_rfl) rfl) (fun Z gZ => by
    have gy : Grew w Z := ((Hg.out.trans (by repeat (first | with_reducible exact .refl _ | refine .alloc ?_ _ | refine .set ?_ (by simp) _ | refine .drewN ?_ _ | refine .drew ?_))).trans gY).trans gZ
    have hx := obj_grew (gY.trans gZ) HM.out
    have hq := obj_grew (gY.trans gZ) HN.out
    have H := HH.out
    exact arrayNew1_z H.c gy hx hq H.i.l1 H.i.h1)
  clear N1 N0 H g
  go_enter Tryz.func39, Tryz.ntmps39
  go_wp2_with (first
    | (with_reducible refine stop_load 30 rfl ?_
       unfold Stop
       refine wpList_load_row rfl 30 _ rfl (X.heap.size) (by go_simp) 30 cx (0, 0) _ HM.out Tryz.underlying30 rfl (by rw [hsz]; kernel_rfl) ?_)
    | (with_reducible refine stop_load 52 rfl ?_
       unfold Stop
       refine wpList_load_row rfl 52 _ rfl (X.heap.size + 1) (by go_simp) 52 es (0, 0) _ HN.out Tryz.underlying52 rfl (by rw [hes]; kernel_rfl) ?_)
    | fail)
  refine (CM.out _ (by repeat (first | with_reducible exact .refl _ | refine .alloc ?_ _ | refine .set ?_ (by simp) _ | refine .drewN ?_ _ | refine .drew ?_))).mono ?_
  rintro en w1 ⟨k1, l1, rfl, h1, h2, h3⟩
  have H1 := Hid.mk' h1
  have H2 := Hid.mk' h2
  have H3 := Hid.mk' h3
  clear h1 h2 h3
  go_wp2_with fail
  go_ret
  exact ⟨_, _, rfl, H1.out, Grew.trans (by repeat (first | with_reducible exact .refl _ | refine .alloc ?_ _ | refine .set ?_ (by simp) _ | refine .drewN ?_ _ | refine .drew ?_)) H2.out, H3.out⟩
theorem qarrayNewDefault_sq (H : FA B C w cx TT FL EL RB dt es op n ny N sl) {X : World} (g : Grew w X) : Calls Tryz.prog 40 #[.agg cx, .agg es] X (SQ B C X) := by
  have N1 : ((X.alloc (.cells cx 30)).alloc (.cells es 52)).heap[X.heap.size + 1]? = some (.cells es 52 (0, 0)) := by
    have := heap_alloc_last (X.alloc (.cells cx 30)) (.cells es 52)
    rw [alloc_size] at this
    exact this
  have N0 : ((X.alloc (.cells cx 30)).alloc (.cells es 52)).heap[X.heap.size]? = some (.cells cx 30 (0, 0)) := heap_alloc (heap_alloc_last _ _) _
  have HN := Hid.mk' N1
  have HM := Hid.mk' N0
  have hsz := H.c.sz
  have hes := H.i.sz
  have HH := Hid.mk' H
  have Hg := Hid.mk' g
  have CM : Hid (∀ Y, Grew ((X.alloc (.cells cx 30)).alloc (.cells es 52)) Y → Calls Tryz.prog 68 #[.agg es, .func (.func 82) #[] #[.pointer (some ⟨X.heap.size, 0, none⟩), .pointer (some ⟨X.heap.size + 1, 0, none⟩)]] Y (SQ B C Y)) := fun Y gY => qmakes_sq HH.out ((Hg.out.trans (by repeat (first | with_reducible exact .refl _ | refine .alloc ?_ _ | refine .set ?_ (by simp) _ | refine .drewN ?_ _ | refine .drew ?_))).trans gY) _ _ (enters_of Tryz.func82 (by kernel_rfl) rfl) (fun Z gZ => by
    have gy : Grew w Z := ((Hg.out.trans (by repeat (first | with_reducible exact .refl _ | refine .alloc ?_ _ | refine .set ?_ (by simp) _ | refine .drewN ?_ _ | refine .drew ?_))).trans gY).trans gZ
    have hx := obj_grew (gY.trans gZ) HM.out
    have hq := obj_grew (gY.trans gZ) HN.out
    have H := HH.out
    exact arrayNewDefault1_z H.c gy hx hq H.i.l1 H.i.h1)
  clear N1 N0 H g
  go_enter Tryz.func40, Tryz.ntmps40
  go_wp2_with (first
    | (with_reducible refine stop_load 30 rfl ?_
       unfold Stop
       refine wpList_load_row rfl 30 _ rfl (X.heap.size) (by go_simp) 30 cx (0, 0) _ HM.out Tryz.underlying30 rfl (by rw [hsz]; kernel_rfl) ?_)
    | (with_reducible refine stop_load 52 rfl ?_
       unfold Stop
       refine wpList_load_row rfl 52 _ rfl (X.heap.size + 1) (by go_simp) 52 es (0, 0) _ HN.out Tryz.underlying52 rfl (by rw [hes]; kernel_rfl) ?_)
    | fail)
  refine (CM.out _ (by repeat (first | with_reducible exact .refl _ | refine .alloc ?_ _ | refine .set ?_ (by simp) _ | refine .drewN ?_ _ | refine .drew ?_))).mono ?_
  rintro en w1 ⟨k1, l1, rfl, h1, h2, h3⟩
  have H1 := Hid.mk' h1
  have H2 := Hid.mk' h2
  have H3 := Hid.mk' h3
  clear h1 h2 h3
  go_wp2_with fail
  go_ret
  exact ⟨_, _, rfl, H1.out, Grew.trans (by repeat (first | with_reducible exact .refl _ | refine .alloc ?_ _ | refine .set ?_ (by simp) _ | refine .drewN ?_ _ | refine .drew ?_)) H2.out, H3.out⟩
theorem qarrayNewFixed_sq (H : FA B C w cx TT FL EL RB dt es op n ny N sl) {X : World} (g : Grew w X) : Calls Tryz.prog 41 #[.agg cx, .agg es] X (SQ B C X) := by
  have N1 : ((X.alloc (.cells cx 30)).alloc (.cells es 52)).heap[X.heap.size + 1]? = some (.cells es 52 (0, 0)) := by
    have := heap_alloc_last (X.alloc (.cells cx 30)) (.cells es 52)
    rw [alloc_size] at this
    exact this
  have N0 : ((X.alloc (.cells cx 30)).alloc (.cells es 52)).heap[X.heap.size]? = some (.cells cx 30 (0, 0)) := heap_alloc (heap_alloc_last _ _) _
  have HN := Hid.mk' N1
  have HM := Hid.mk' N0
  have hsz := H.c.sz
  have hes := H.i.sz
  have HH := Hid.mk' H
  have Hg := Hid.mk' g
  have CM : Hid (∀ Y, Grew ((X.alloc (.cells cx 30)).alloc (.cells es 52)) Y → Calls Tryz.prog 68 #[.agg es, .func (.func 83) #[] #[.pointer (some ⟨X.heap.size, 0, none⟩), .pointer (some ⟨X.heap.size + 1, 0, none⟩)]] Y (SQ B C Y)) := fun Y gY => qmakes_sq HH.out ((Hg.out.trans (by repeat (first | with_reducible exact .refl _ | refine .alloc ?_ _ | refine .set ?_ (by simp) _ | refine .drewN ?_ _ | refine .drew ?_))).trans gY) _ _ (enters_of Tryz.func83 (by kernel_rfl) rfl) (fun Z gZ => by
    have gy : Grew w Z := ((Hg.out.trans (by repeat (first | with_reducible exact .refl _ | refine .alloc ?_ _ | refine .set ?_ (by simp) _ | refine .drewN ?_ _ | refine .drew ?_))).trans gY).trans gZ
    have hx := obj_grew (gY.trans gZ) HM.out
    have hq := obj_grew (gY.trans gZ) HN.out
    have H := HH.out
    exact arrayNewFixed1_z H.c gy hx hq H.i.l1 H.i.h1 H.i.h3)
  clear N1 N0 H g
  go_enter Tryz.func41, Tryz.ntmps41
  go_wp2_with (first
    | (with_reducible refine stop_load 30 rfl ?_
       unfold Stop
       refine wpList_load_row rfl 30 _ rfl (X.heap.size) (by go_simp) 30 cx (0, 0) _ HM.out Tryz.underlying30 rfl (by rw [hsz]; kernel_rfl) ?_)
    | (with_reducible refine stop_load 52 rfl ?_
       unfold Stop
       refine wpList_load_row rfl 52 _ rfl (X.heap.size + 1) (by go_simp) 52 es (0, 0) _ HN.out Tryz.underlying52 rfl (by rw [hes]; kernel_rfl) ?_)
    | fail)
  refine (CM.out _ (by repeat (first | with_reducible exact .refl _ | refine .alloc ?_ _ | refine .set ?_ (by simp) _ | refine .drewN ?_ _ | refine .drew ?_))).mono ?_
  rintro en w1 ⟨k1, l1, rfl, h1, h2, h3⟩
  have H1 := Hid.mk' h1
  have H2 := Hid.mk' h2
  have H3 := Hid.mk' h3
  clear h1 h2 h3
  go_wp2_with fail
  go_ret
  exact ⟨_, _, rfl, H1.out, Grew.trans (by repeat (first | with_reducible exact .refl _ | refine .alloc ?_ _ | refine .set ?_ (by simp) _ | refine .drewN ?_ _ | refine .drew ?_)) H2.out, H3.out⟩
theorem qarrayNewFrom_sq (H : FA B C w cx TT FL EL RB dt es op n ny N sl) {X : World} (g : Grew w X) (k : Nat) (hen : ∀ args W, (callFunc k args).run Tryz.prog W = .ok (.enter k args) W) (hk : ∀ Y (a c : Int) (b d : Bool), Grew w Y → Calls Tryz.prog k #[.agg cx, .int .u32 (ny : Int), .agg #[.int .i64 a, .bool b, .int .i64 c, .bool d]] Y (ErQ Y)) : Calls Tryz.prog 42 #[.agg cx, .agg es, .func (.func k) #[] #[]] X (SQ B C X) := by
  have N1 : ((X.alloc (.cells cx 30)).alloc (.cells es 52)).heap[X.heap.size + 1]? = some (.cells es 52 (0, 0)) := by
    have := heap_alloc_last (X.alloc (.cells cx 30)) (.cells es 52)
    rw [alloc_size] at this
    exact this
  have N0 : ((X.alloc (.cells cx 30)).alloc (.cells es 52)).heap[X.heap.size]? = some (.cells cx 30 (0, 0)) := heap_alloc (heap_alloc_last _ _) _
  have HN := Hid.mk' N1
  have HM := Hid.mk' N0
  have hsz := H.c.sz
  have hes := H.i.sz
  have HH := Hid.mk' H
  have Hg := Hid.mk' g
  have HN := Hid.mk' (heap_alloc N1 (.cells #[.func (.func k) #[] #[]] 142))
  have HM := Hid.mk' (heap_alloc N0 (.cells #[.func (.func k) #[] #[]] 142))
  have hr0 : (((X.alloc (.cells cx 30)).alloc (.cells es 52)).alloc (.cells #[.func (.func k) #[] #[]] 142)).heap[X.heap.size + 1 + 1]? = some (.cells #[.func (.func k) #[] #[]] 142 (0, 0)) := by
    have := heap_alloc_last ((X.alloc (.cells cx 30)).alloc (.cells es 52)) (.cells #[.func (.func k) #[] #[]] 142)
    rw [alloc_size, alloc_size] at this
    exact this
  have HR := Hid.mk' hr0
  have HE := Hid.mk' hen
  have HK := Hid.mk' hk
  clear hen hk hr0
  have CM : Hid (∀ Y, Grew (((X.alloc (.cells cx 30)).alloc (.cells es 52)).alloc (.cells #[.func (.func k) #[] #[]] 142)) Y → Calls Tryz.prog 68 #[.agg es, .func (.func 85) #[] #[.pointer (some ⟨X.heap.size, 0, none⟩), .pointer (some ⟨X.heap.size + 1, 0, none⟩), .pointer (some ⟨X.heap.size + 1 + 1, 0, none⟩)]] Y (SQ B C Y)) := fun Y gY => qmakes_sq HH.out ((Hg.out.trans (by repeat (first | with_reducible exact .refl _ | refine .alloc ?_ _ | refine .set ?_ (by simp) _ | refine .drewN ?_ _ | refine .drew ?_))).trans gY) _ _ (enters_of Tryz.func85 (by kernel_rfl) rfl) (fun Z gZ => by
    have gy : Grew w Z := ((Hg.out.trans (by repeat (first | with_reducible exact .refl _ | refine .alloc ?_ _ | refine .set ?_ (by simp) _ | refine .drewN ?_ _ | refine .drew ?_))).trans gY).trans gZ
    have hx := obj_grew (gY.trans gZ) HM.out
    have hq := obj_grew (gY.trans gZ) HN.out
    have H := HH.out
    exact arrayNewFrom1_z H.c gy hx hq H.i.l1 H.i.h1 H.i.l2 H.i.h2 HE.out ((cell_of (obj_grew (gY.trans gZ) HR.out) 0).trans rfl) (fun V a c b d gV => HK.out V a c b d (gy.trans gV)))
  clear N1 N0 H g
  go_enter Tryz.func42, Tryz.ntmps42
  go_wp2_with (first
    | (with_reducible refine stop_load 30 rfl ?_
       unfold Stop
       refine wpList_load_row rfl 30 _ rfl (X.heap.size) (by go_simp) 30 cx (0, 0) _ HM.out Tryz.underlying30 rfl (by rw [hsz]; kernel_rfl) ?_)
    | (with_reducible refine stop_load 52 rfl ?_
       unfold Stop
       refine wpList_load_row rfl 52 _ rfl (X.heap.size + 1) (by go_simp) 52 es (0, 0) _ HN.out Tryz.underlying52 rfl (by rw [hes]; kernel_rfl) ?_)
    | fail)
  refine (CM.out _ (by repeat (first | with_reducible exact .refl _ | refine .alloc ?_ _ | refine .set ?_ (by simp) _ | refine .drewN ?_ _ | refine .drew ?_))).mono ?_
  rintro en w1 ⟨k1, l1, rfl, h1, h2, h3⟩
  have H1 := Hid.mk' h1
  have H2 := Hid.mk' h2
  have H3 := Hid.mk' h3
  clear h1 h2 h3
  go_wp2_with fail
  go_ret
  exact ⟨_, _, rfl, H1.out, Grew.trans (by repeat (first | with_reducible exact .refl _ | refine .alloc ?_ _ | refine .set ?_ (by simp) _ | refine .drewN ?_ _ | refine .drew ?_)) H2.out, H3.out⟩
end
end Go.Proofs.YtnmbniojejckpaaGreatDoor
