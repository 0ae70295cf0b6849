/-
  The walk of slices.Repeat at one value type, not at all, once, twice; no statement is proved here.
-/
import Derived.Test.YtikaidokllnifaaGreatDoorVnTj
import Derived.Deep.RegionHeld3
import Derived.Test.YtikaidokllnifaaGreatDoorVnA
import Derived.Deep.RegionLaw
import Derived.Laws.CopyRow
import Derived.Laws.CopyOwn
import Derived.Laws.MakeOwn
set_option maxRecDepth 100000
set_option maxHeartbeats 8000000
namespace Go.Proofs.YtikaidokllnifaaGreatDoor
open Go.RowKit
set_option linter.unusedVariables false
set_option linter.unusedSimpArgs false
section
variable {gv : Value} {L : List RT} {W0 w : World} {C : Nat} {lv fv ov : Value} {g c : Nat} {lo : List LO} {fr : List Int} {ops : List VT} {fs : List FV} {x : FV} {S : Nat} {es : Array Value}
theorem elemDrop_out (A : StA gv L W0 w C lv fv ov g c lo fr ops fs x S es) {n : Nat} (h32 : n < 4294967296) (hx : es[11]? = some (.int .u32 (n : Int))) {mv : Value} {M : List VT} (hm : es[6]? = some mv) (hM : LV w mv M) (hn : M.length ≤ n) :
    Calls Tryz.prog 91 #[.pointer (some ⟨S, 0, none⟩)] w fun en w' => en = .returned (.int .i64 150) ∧ Grew w w' := by
  have CAt : Hid (∀ X, Grew w X → Calls Tryz.prog 158 #[mv, .int .u32 (n : Int)] X fun en w' => en = .returned (.tuple #[.agg #[.int .i64 0, .bool false, .int .i64 0], .int .i64 150]) ∧ Grew X w') := fun X k => atVT_out (hM.grew k) hn h32
  have s0 := A.cell hm
  have s1 := A.cell hx
  have hS := lt_of_obj A.N
  have hne1 : S ≠ w.heap.size := Nat.ne_of_lt hS
  have hne2 : w.heap.size ≠ S := Nat.ne_of_gt hS
  obtain ⟨ma, mc, hmv, _⟩ := hM.one
  subst hmv
  clear A hx hm hM h32
  go_enter Tryz.func91, Tryz.ntmps91
  go_wp2_with fail
  go_region_held3 (fun w' => w'.cell? ⟨S, 6, none⟩ = some (.slice ma M.length mc) ∧ w'.cell? ⟨S, 11, none⟩ = some (.int .u32 (n : Int))) (go_keep) (first
    | (with_reducible refine (CAt.out _ ?gr).mono ?_
       case gr => exact (by repeat (first | with_reducible exact Grew.refl _ | refine Grew.alloc ?_ _ | refine Grew.drewN ?_ _ | refine Grew.drew ?_))
       rintro en w1 ⟨rfl, g1⟩
       have gg1 : Grew w w1 := Grew.trans (by repeat (first | with_reducible exact Grew.refl _ | refine Grew.alloc ?_ _ | refine Grew.drewN ?_ _ | refine Grew.drew ?_)) g1
       have G1 := Hid.mk' gg1
       have s10 := cell_grew s0 gg1
       have s11 := cell_grew s1 gg1
       first
       | (have gz : Grew (w.alloc (.cells #[.int .i64 0, .bool false, .int .i64 0] 39)) w1 := (by first | exact g1 | exact ((Grew.refl _).drew).trans g1 | exact ((Grew.refl _).drewN _).trans g1)
          have Bz := (gz.turn []).other (heap_alloc_last w (.cells #[.int .i64 0, .bool false, .int .i64 0] 39)) (by simp)
          have HBz := Hid.mk' Bz
          have hlz := lt_of_obj Bz
          have y0 := cell_of Bz 0; have r0 := free_of Bz 0; have y1 := cell_of Bz 1; have r1 := free_of Bz 1; have y2 := cell_of Bz 2; have r2 := free_of Bz 2
          simp at y0 y1 y2
          clear gz Bz)
       | skip
       clear g1 gg1)
    | fail)
  all_goals
    go_wp2_with fail
    go_ret
    exact ⟨rfl, (by repeat (first | with_reducible exact G1.out | refine Grew.set ?_ (Nat.le_refl _) _ | refine Grew.set ?_ G1.out.2 _ | refine Grew.alloc ?_ _ | refine Grew.drewN ?_ _ | refine Grew.drew ?_))⟩
theorem elemDrop_in (A : StA gv L W0 w C lv fv ov g c lo fr ops fs x S es) {n : Nat} (h32 : n < 4294967296) (hx : es[11]? = some (.int .u32 (n : Int))) {mv : Value} {M : List VT} (hm : es[6]? = some mv) (hM : LV w mv M) {p : VT} (hp : M[n]? = some p) :
    Calls Tryz.prog 91 #[.pointer (some ⟨S, 0, none⟩)] w fun en w' => en = .returned (.int .i64 0) ∧ Grew w w' := by
  have CAt : Hid (∀ X, Grew w X → Calls Tryz.prog 158 #[mv, .int .u32 (n : Int)] X fun en w' => en = .returned (.tuple #[.agg #[.int .i64 p.num, .bool p.null, .int .i64 p.heap], .int .i64 0]) ∧ Grew X w') := fun X k => atVT_in (hM.grew k) hp h32
  have s0 := A.cell hm
  have s1 := A.cell hx
  have hS := lt_of_obj A.N
  have hne1 : S ≠ w.heap.size := Nat.ne_of_lt hS
  have hne2 : w.heap.size ≠ S := Nat.ne_of_gt hS
  obtain ⟨ma, mc, hmv, _⟩ := hM.one
  subst hmv
  clear A hx hm hM h32
  go_enter Tryz.func91, Tryz.ntmps91
  go_wp2_with fail
  go_region_held3 (fun w' => w'.cell? ⟨S, 6, none⟩ = some (.slice ma M.length mc) ∧ w'.cell? ⟨S, 11, none⟩ = some (.int .u32 (n : Int))) (go_keep) (first
    | (with_reducible refine (CAt.out _ ?gr).mono ?_
       case gr => exact (by repeat (first | with_reducible exact Grew.refl _ | refine Grew.alloc ?_ _ | refine Grew.drewN ?_ _ | refine Grew.drew ?_))
       rintro en w1 ⟨rfl, g1⟩
       have gg1 : Grew w w1 := Grew.trans (by repeat (first | with_reducible exact Grew.refl _ | refine Grew.alloc ?_ _ | refine Grew.drewN ?_ _ | refine Grew.drew ?_)) g1
       have G1 := Hid.mk' gg1
       have s10 := cell_grew s0 gg1
       have s11 := cell_grew s1 gg1
       first
       | (have gz : Grew (w.alloc (.cells #[.int .i64 0, .bool false, .int .i64 0] 39)) w1 := (by first | exact g1 | exact ((Grew.refl _).drew).trans g1 | exact ((Grew.refl _).drewN _).trans g1)
          have Bz := (gz.turn []).other (heap_alloc_last w (.cells #[.int .i64 0, .bool false, .int .i64 0] 39)) (by simp)
          have HBz := Hid.mk' Bz
          have hlz := lt_of_obj Bz
          have y0 := cell_of Bz 0; have r0 := free_of Bz 0; have y1 := cell_of Bz 1; have r1 := free_of Bz 1; have y2 := cell_of Bz 2; have r2 := free_of Bz 2
          simp at y0 y1 y2
          clear gz Bz)
       | skip
       clear g1 gg1)
    | fail)
  all_goals
    go_wp2_with fail
    go_ret
    exact ⟨rfl, (by repeat (first | with_reducible exact G1.out | refine Grew.set ?_ (Nat.le_refl _) _ | refine Grew.set ?_ G1.out.2 _ | refine Grew.alloc ?_ _ | refine Grew.drewN ?_ _ | refine Grew.drew ?_))⟩
end
end Go.Proofs.YtikaidokllnifaaGreatDoor
namespace Go.Proofs.YtikaidokllnifaaGreatDoor
set_option linter.unusedVariables false
def sigL : List (Int × Int × Int × Int) := [(65, 0, 0, 1), (66, 0, 0, 2), (67, 0, 0, 3), (68, 0, 0, 4), (69, 1, 1, 1), (70, 1, 2, 1), (80, 2, 1, 1), (81, 2, 2, 1), (91, 3, 2, 1), (97, 4, 2, 1), (103, 1, 1, 1), (106, 1, 2, 1), (121, 2, 1, 2), (124, 2, 2, 2), (139, 3, 1, 3), (146, 3, 2, 3), (153, 4, 1, 4), (160, 4, 2, 4), (167, 2, 1, 1), (168, 3, 1, 1), (170, 4, 1, 1), (172, 1, 1, 2), (174, 3, 1, 2), (176, 4, 1, 2), (178, 1, 1, 3), (180, 2, 1, 3), (182, 4, 1, 3), (183, 1, 1, 4), (185, 2, 1, 4), (187, 3, 1, 4), (188, 3, 1, 1), (189, 4, 1, 2), (190, 1, 1, 3), (191, 2, 1, 4), (192, 1, 1, 1), (194, 2, 1, 2), (64512, 3, 1, 1), (64514, 4, 1, 1), (64516, 3, 1, 2), (64518, 4, 1, 2)]
def accL : List (Int × Int × Bool) := [(1, 4, false), (2, 8, false), (3, 4, false), (4, 8, false), (1, 1, true), (1, 1, false), (1, 2, true), (1, 2, false), (2, 1, true), (2, 1, false), (2, 2, true), (2, 2, false), (2, 4, true), (2, 4, false), (1, 4, false), (2, 8, false), (3, 4, false), (4, 8, false), (1, 1, false), (1, 2, false), (2, 1, false), (2, 2, false), (2, 4, false)]
def isOpB (op : Int) : Bool := decide (65 ≤ op ∧ op ≤ 196) || decide (64512 ≤ op ∧ op ≤ 64519)
def lastI (op : Int) : List (Int × Int × Int × Int) → Nat → Nat → Nat
  | [], _, f => f
  | r :: l, n, f => lastI op l (n + 1) (if r.1 ≤ op then n else f)
def sigRow (op : Int) : Int × Int × Int × Int := sigL.getD (lastI op sigL 0 0) (0, 0, 0, 0)
end Go.Proofs.YtikaidokllnifaaGreatDoor
namespace Go.Proofs.YtikaidokllnifaaGreatDoor
open Go.RowKit
set_option linter.unusedVariables false
set_option linter.unusedSimpArgs false
theorem mul_0 (w : World) : Calls Tryz.prog 230 #[.int .u64 1, .int .u64 0] w fun e w' => e = .returned (.tuple #[.int .u64 0, .int .u64 0]) ∧ w' = w := by
  go_enter Tryz.func230, Tryz.ntmps230
  go_wp2
  go_ret2
  exact ⟨rfl, rfl⟩
theorem mul_1 (w : World) : Calls Tryz.prog 230 #[.int .u64 1, .int .u64 1] w fun e w' => e = .returned (.tuple #[.int .u64 0, .int .u64 1]) ∧ w' = w := by
  go_enter Tryz.func230, Tryz.ntmps230
  go_wp2
  go_ret2
  exact ⟨rfl, rfl⟩
theorem mul_2 (w : World) : Calls Tryz.prog 230 #[.int .u64 1, .int .u64 2] w fun e w' => e = .returned (.tuple #[.int .u64 0, .int .u64 2]) ∧ w' = w := by
  go_enter Tryz.func230, Tryz.ntmps230
  go_wp2
  go_ret2
  exact ⟨rfl, rfl⟩
theorem mulw_0 (w : World) : Calls Tryz.prog 217 #[.int .u64 1, .int .u64 0] w fun e w' => e = .returned (.tuple #[.int .u64 0, .int .u64 0]) ∧ w' = w := by
  have C := mul_0 w
  go_enter Tryz.func217, Tryz.ntmps217
  go_wp2_with fail
  refine C.mono ?_
  rintro e w1 ⟨rfl, rfl⟩
  clear C
  go_wp2_with fail
  go_ret2
  exact ⟨rfl, rfl⟩
theorem mulw_1 (w : World) : Calls Tryz.prog 217 #[.int .u64 1, .int .u64 1] w fun e w' => e = .returned (.tuple #[.int .u64 0, .int .u64 1]) ∧ w' = w := by
  have C := mul_1 w
  go_enter Tryz.func217, Tryz.ntmps217
  go_wp2_with fail
  refine C.mono ?_
  rintro e w1 ⟨rfl, rfl⟩
  clear C
  go_wp2_with fail
  go_ret2
  exact ⟨rfl, rfl⟩
theorem mulw_2 (w : World) : Calls Tryz.prog 217 #[.int .u64 1, .int .u64 2] w fun e w' => e = .returned (.tuple #[.int .u64 0, .int .u64 2]) ∧ w' = w := by
  have C := mul_2 w
  go_enter Tryz.func217, Tryz.ntmps217
  go_wp2_with fail
  refine C.mono ?_
  rintro e w1 ⟨rfl, rfl⟩
  clear C
  go_wp2_with fail
  go_ret2
  exact ⟨rfl, rfl⟩
theorem run_copyS {P : Program} (w : World) (dT sT ty elem : TypeId) (k : Nat) (g o dLen dCap : Nat) (a : Addr) (sLen sCap : Nat) (cur : Array Value) (t : TypeId) (cs : List Value)
    (hu : P.underlying dT = some (.slice elem)) (hs : (P.info? elem).map (·.size) = some k)
    (hg : w.heap[g]? = some (.cells cur t (0, 0))) (hn : cs.length = Nat.min sLen dLen * k)
    (hsrc : ∀ j v, cs[j]? = some v → w.cell? (a.add j) = some v) (hfit : o + cs.length ≤ cur.size) (h1 : ∀ v ∈ cs, v.oneCell' = true) :
    (Builtin.copy_ #[dT, sT] ty #[.slice (some ⟨g, o, none⟩) dLen dCap, .slice (some a) sLen sCap]).run P w =
      .ok (goInt (Nat.min sLen dLen)) (w.setRow g (cur.toList.take o ++ cs ++ cur.toList.drop (o + cs.length)).toArray) := by
  have hl := run_loadCells_list (P := P) w a cs hsrc
  have hst := run_storeCells_at P g o t cs 0 cur w hg (by simpa using hfit) h1
  cases hq : P.info? elem with
  | none => simp [hq] at hs
  | some i =>
    have hi : i.size = k := by simpa [hq] using hs
    simp [Builtin.copy_, run_underlying hu, Builtin.lenOf, Builtin.firstCells, sizeOf, typeInfo, hq, hi, ← hn, hl, hst]
theorem cell3 {w : World} {b o : Nat} {x y z : Value} (c0 : w.cell? ⟨b, o, none⟩ = some x) (c1 : w.cell? ⟨b, o + 1, none⟩ = some y) (c2 : w.cell? ⟨b, o + 2, none⟩ = some z) : ∀ j v, [x, y, z][j]? = some v → w.cell? ((⟨b, o, none⟩ : Addr).add j) = some v := by
  intro j v hj
  have hadd : (⟨b, o, none⟩ : Addr).add j = ⟨b, o + j, none⟩ := by unfold Addr.add; split <;> simp_all
  rw [hadd]
  match j, hj with
  | 0, hj => simp at hj; subst hj; exact c0
  | 1, hj => simp at hj; subst hj; exact c1
  | 2, hj => simp at hj; subst hj; exact c2
  | (j + 3), hj => simp at hj
theorem one3 {n : Int} : ∀ v ∈ [Value.int .i64 n, .bool false, .int .i64 0], v.oneCell' = true := by
  intro v hv
  simp at hv
  rcases hv with rfl | rfl | rfl <;> rfl
theorem grew_setRow {w w1 : World} (g : Grew w w1) {b : Nat} (hb : w.heap.size ≤ b) (cs : Array Value) : Grew w (w1.setRow b cs) :=
  ⟨below_setRow g.1 hb cs, by have := g.2; simpa [World.setRow] using this⟩
theorem mk_0 (w : World) : (Instr.makeSlice 27 (.int .i64 0) (.int .i64 0)).run Tryz.prog w = .ok (.slice (some ⟨w.heap.size, 0, none⟩) 0 0) (w.alloc (.cells #[] 39)) := by kernel_rfl
theorem mk_1 (w : World) : (Instr.makeSlice 27 (.int .i64 1) (.int .i64 1)).run Tryz.prog w = .ok (.slice (some ⟨w.heap.size, 0, none⟩) 1 1) (w.alloc (.cells #[.int .i64 0, .bool false, .int .i64 0] 39)) := by kernel_rfl
theorem mk_2 (w : World) : (Instr.makeSlice 27 (.int .i64 2) (.int .i64 2)).run Tryz.prog w = .ok (.slice (some ⟨w.heap.size, 0, none⟩) 2 2) (w.alloc (.cells #[.int .i64 0, .bool false, .int .i64 0, .int .i64 0, .bool false, .int .i64 0] 39)) := by kernel_rfl
theorem rep_0 (b : Nat) (n : Int) (w : World) (hb : b < w.heap.size) (c0 : w.cell? ⟨b, 0, none⟩ = some (.int .i64 n)) (c1 : w.cell? ⟨b, 1, none⟩ = some (.bool false)) (c2 : w.cell? ⟨b, 2, none⟩ = some (.int .i64 0)) :
    Calls Tryz.prog 209 #[.slice (some ⟨b, 0, none⟩) 1 1, .int .i64 0] w fun e w' => ∃ v, e = .returned v ∧ RowV w.heap.size w' v (List.replicate 0 ⟨n, false, 0⟩) ∧ Grew w w' := by
  have C : Hid _ := mulw_0
  have hmk := mk_0 w
  obtain ⟨W, hW⟩ : ∃ W, w.alloc (.cells #[] 39) = W := ⟨_, rfl⟩
  have G0 : Grew w W := by rw [← hW]; exact (Grew.refl w).alloc _
  have O0 : W.heap[w.heap.size]? = some (.cells #[] 39 (0, 0)) := by rw [← hW]; exact heap_alloc_last w _
  obtain ⟨hbW, d0, d1, d2⟩ := G0.c3 b (.int .i64 n) (.bool false) (.int .i64 0) hb c0 c1 c2
  rw [hW] at hmk
  clear hW
  have hcp := run_copyS (P := Tryz.prog) W 27 27 3 39 3 w.heap.size 0 0 0 ⟨b, 0, none⟩ 1 1 #[] 39 [] Tryz.underlying27 (by kernel_rfl) O0 rfl (by simp) (by simp) (by simp)
  have hset : W.setRow w.heap.size #[] = W := setRow_self W w.heap.size #[] 39 (0, 0) O0
  have hcp' : (Builtin.copy_ #[27, 27] 3 #[.slice (some ⟨w.heap.size, 0, none⟩) 0 0, .slice (some ⟨b, 0, none⟩) 1 1]).run Tryz.prog W = .ok (.int .i64 0) W := by
    rw [hcp]
    show Result.ok (Value.int .i64 0) (W.setRow w.heap.size #[]) = _
    rw [hset]
  clear hcp hset
  go_enter Tryz.func209, Tryz.ntmps209
  go_wp2_with fail
  refine (C.out _).mono ?_
  rintro e w1 ⟨rfl, hw1⟩
  obtain rfl := hw1.symm
  clear C
  have HG0 : Hid (Grew w W) := G0
  have HO0 : Hid _ := O0
  clear G0 O0 d0 d1 d2
  go_wp2_with fail
  go_loopw [8] (fun i wx => i = .int .i64 0 ∧ wx = W) (fun _ _ => 0)
  case atStart => exact ⟨rfl, rfl⟩
  case round =>
    obtain ⟨rfl, hw⟩ := hrel
    obtain rfl := hw.symm
    go_wp2_with fail
    go_ret
    exact ⟨_, rfl, ⟨rfl, Or.inr ⟨_, 0, #[], rfl, Nat.le_refl _, HO0.out, Nat.le_refl _, by decide, rfl, rfl⟩⟩, HG0.out⟩
theorem rep_1 (b : Nat) (n : Int) (w : World) (hb : b < w.heap.size) (c0 : w.cell? ⟨b, 0, none⟩ = some (.int .i64 n)) (c1 : w.cell? ⟨b, 1, none⟩ = some (.bool false)) (c2 : w.cell? ⟨b, 2, none⟩ = some (.int .i64 0)) :
    Calls Tryz.prog 209 #[.slice (some ⟨b, 0, none⟩) 1 1, .int .i64 1] w fun e w' => ∃ v, e = .returned v ∧ RowV w.heap.size w' v (List.replicate 1 ⟨n, false, 0⟩) ∧ Grew w w' := by
  have C : Hid _ := mulw_1
  have hmk := mk_1 w
  obtain ⟨W, hW⟩ : ∃ W, w.alloc (.cells #[.int .i64 0, .bool false, .int .i64 0] 39) = W := ⟨_, rfl⟩
  have G0 : Grew w W := by rw [← hW]; exact (Grew.refl w).alloc _
  have O0 : W.heap[w.heap.size]? = some (.cells #[.int .i64 0, .bool false, .int .i64 0] 39 (0, 0)) := by rw [← hW]; exact heap_alloc_last w _
  obtain ⟨hbW, d0, d1, d2⟩ := G0.c3 b (.int .i64 n) (.bool false) (.int .i64 0) hb c0 c1 c2
  rw [hW] at hmk
  clear hW
  have hcp := run_copyS (P := Tryz.prog) W 27 27 3 39 3 w.heap.size 0 1 1 ⟨b, 0, none⟩ 1 1 #[.int .i64 0, .bool false, .int .i64 0] 39 [.int .i64 n, .bool false, .int .i64 0] Tryz.underlying27 (by kernel_rfl) O0 rfl (cell3 d0 d1 d2) (by simp) one3
  obtain ⟨W1, hW1⟩ : ∃ W1, W.setRow w.heap.size #[.int .i64 n, .bool false, .int .i64 0] = W1 := ⟨_, rfl⟩
  have G1 : Grew w W1 := by rw [← hW1]; exact grew_setRow G0 (Nat.le_refl _) _
  have O1 : W1.heap[w.heap.size]? = some (.cells #[.int .i64 n, .bool false, .int .i64 0] 39 (0, 0)) := by rw [← hW1]; exact setRow_heap W w.heap.size _ _ 39 _ O0
  have hcp' : (Builtin.copy_ #[27, 27] 3 #[.slice (some ⟨w.heap.size, 0, none⟩) 1 1, .slice (some ⟨b, 0, none⟩) 1 1]).run Tryz.prog W = .ok (.int .i64 1) W1 := by
    rw [hcp, ← hW1]
    rfl
  have HG1 : Hid (Grew w W1) := G1
  have HO1 : Hid _ := O1
  clear hcp hW1 G0 O0 d0 d1 d2
  go_enter Tryz.func209, Tryz.ntmps209
  go_wp2_with fail
  refine (C.out _).mono ?_
  rintro e w1 ⟨rfl, hw1⟩
  obtain rfl := hw1.symm
  clear C
  go_wp2_with fail
  go_loopw [8] (fun i wx => i = .int .i64 1 ∧ wx = W1) (fun _ _ => 0)
  case atStart => exact ⟨rfl, rfl⟩
  case round =>
    obtain ⟨rfl, hw⟩ := hrel
    obtain rfl := hw.symm
    go_wp2_with fail
    go_ret
    exact ⟨_, rfl, ⟨rfl, Or.inr ⟨_, 1, _, rfl, Nat.le_refl _, HO1.out, Nat.le_refl _, by decide, rfl, rfl⟩⟩, HG1.out⟩
theorem rep_2 (b : Nat) (n : Int) (w : World) (hb : b < w.heap.size) (c0 : w.cell? ⟨b, 0, none⟩ = some (.int .i64 n)) (c1 : w.cell? ⟨b, 1, none⟩ = some (.bool false)) (c2 : w.cell? ⟨b, 2, none⟩ = some (.int .i64 0)) :
    Calls Tryz.prog 209 #[.slice (some ⟨b, 0, none⟩) 1 1, .int .i64 2] w fun e w' => ∃ v, e = .returned v ∧ RowV w.heap.size w' v (List.replicate 2 ⟨n, false, 0⟩) ∧ Grew w w' := by
  have C : Hid _ := mulw_2
  have hmk := mk_2 w
  obtain ⟨W, hW⟩ : ∃ W, w.alloc (.cells #[.int .i64 0, .bool false, .int .i64 0, .int .i64 0, .bool false, .int .i64 0] 39) = W := ⟨_, rfl⟩
  have G0 : Grew w W := by rw [← hW]; exact (Grew.refl w).alloc _
  have O0 : W.heap[w.heap.size]? = some (.cells #[.int .i64 0, .bool false, .int .i64 0, .int .i64 0, .bool false, .int .i64 0] 39 (0, 0)) := by rw [← hW]; exact heap_alloc_last w _
  obtain ⟨hbW, d0, d1, d2⟩ := G0.c3 b (.int .i64 n) (.bool false) (.int .i64 0) hb c0 c1 c2
  rw [hW] at hmk
  clear hW
  have hcp := run_copyS (P := Tryz.prog) W 27 27 3 39 3 w.heap.size 0 2 2 ⟨b, 0, none⟩ 1 1 #[.int .i64 0, .bool false, .int .i64 0, .int .i64 0, .bool false, .int .i64 0] 39 [.int .i64 n, .bool false, .int .i64 0] Tryz.underlying27 (by kernel_rfl) O0 rfl (cell3 d0 d1 d2) (by simp) one3
  obtain ⟨W1, hW1⟩ : ∃ W1, W.setRow w.heap.size #[.int .i64 n, .bool false, .int .i64 0, .int .i64 0, .bool false, .int .i64 0] = W1 := ⟨_, rfl⟩
  have G1 : Grew w W1 := by rw [← hW1]; exact grew_setRow G0 (Nat.le_refl _) _
  have O1 : W1.heap[w.heap.size]? = some (.cells #[.int .i64 n, .bool false, .int .i64 0, .int .i64 0, .bool false, .int .i64 0] 39 (0, 0)) := by rw [← hW1]; exact setRow_heap W w.heap.size _ _ 39 _ O0
  have hcp' : (Builtin.copy_ #[27, 27] 3 #[.slice (some ⟨w.heap.size, 0, none⟩) 2 2, .slice (some ⟨b, 0, none⟩) 1 1]).run Tryz.prog W = .ok (.int .i64 1) W1 := by
    rw [hcp, ← hW1]
    rfl
  have HG1 : Hid (Grew w W1) := G1
  have HO1 : Hid _ := O1
  clear hcp hW1 G0 O0 d0 d1 d2
  go_enter Tryz.func209, Tryz.ntmps209
  go_wp2_with fail
  refine (C.out _).mono ?_
  rintro e w1 ⟨rfl, hw1⟩
  obtain rfl := hw1.symm
  clear C
  have hcp2 : ∀ k, (Builtin.copy_ #[27, 27] 3 #[.slice (some ⟨w.heap.size, 3, none⟩) 1 1, .slice (some ⟨w.heap.size, 0, none⟩) 1 2]).run Tryz.prog (W1.drewN k) = .ok (.int .i64 1) ((W1.drewN k).setRow w.heap.size #[.int .i64 n, .bool false, .int .i64 0, .int .i64 n, .bool false, .int .i64 0]) := by
    intro k
    have O2 : (W1.drewN k).heap[w.heap.size]? = some (.cells #[.int .i64 n, .bool false, .int .i64 0, .int .i64 0, .bool false, .int .i64 0] 39 (0, 0)) := HO1.out
    have e0 := cell_of O2 0
    have e1 := cell_of O2 1
    have e2 := cell_of O2 2
    simp at e0 e1 e2
    rw [run_copyS (P := Tryz.prog) (W1.drewN k) 27 27 3 39 3 w.heap.size 3 1 1 ⟨w.heap.size, 0, none⟩ 1 2 _ 39 [.int .i64 n, .bool false, .int .i64 0] Tryz.underlying27 (by kernel_rfl) O2 rfl (cell3 e0 e1 e2) (by simp) one3]
    rfl
  have hcp1 : (Builtin.copy_ #[27, 27] 3 #[.slice (some ⟨w.heap.size, 3, none⟩) 1 1, .slice (some ⟨w.heap.size, 0, none⟩) 1 2]).run Tryz.prog W1.drew = .ok (.int .i64 1) (W1.drew.setRow w.heap.size #[.int .i64 n, .bool false, .int .i64 0, .int .i64 n, .bool false, .int .i64 0]) := hcp2 1
  clear hcp2
  go_wp2_with fail
  go_loopw [8] (fun i wx => (i = .int .i64 1 ∧ wx = W1) ∨ (i = .int .i64 2 ∧ ∃ k, wx = (W1.drewN k).setRow w.heap.size #[.int .i64 n, .bool false, .int .i64 0, .int .i64 n, .bool false, .int .i64 0])) (fun i _ => 2 - (intOf i).toNat)
  case atStart => exact Or.inl ⟨rfl, rfl⟩
  case round =>
    rcases hrel with ⟨rfl, hw⟩ | ⟨rfl, k, hw⟩
    · obtain rfl := hw.symm
      go_wp2_with fail
      go_region
      all_goals go_wp2_with fail
      all_goals go_roundw
      case rel => exact Or.inr ⟨rfl, 1, rfl⟩
      case measure => simp [intOf]
    · have O3 : wr.heap[w.heap.size]? = some (.cells #[.int .i64 n, .bool false, .int .i64 0, .int .i64 n, .bool false, .int .i64 0] 39 (0, 0)) := by rw [hw]; exact setRow_heap (W1.drewN k) w.heap.size _ _ 39 _ HO1.out
      have G3 : Hid (Grew w wr) := by rw [hw]; exact grew_setRow (HG1.out.drewN k) (Nat.le_refl _) _
      have HO3 : Hid _ := O3
      clear hw O3
      go_wp2_with fail
      go_ret
      exact ⟨_, rfl, ⟨rfl, Or.inr ⟨_, 2, _, rfl, Nat.le_refl _, HO3.out, Nat.le_refl _, by decide, rfl, rfl⟩⟩, G3.out⟩
theorem rep_any (m : Int) (hm : m = 0 ∨ m = 1 ∨ m = 2) (b : Nat) (n : Int) (w : World) (hb : b < w.heap.size) (c0 : w.cell? ⟨b, 0, none⟩ = some (.int .i64 n)) (c1 : w.cell? ⟨b, 1, none⟩ = some (.bool false)) (c2 : w.cell? ⟨b, 2, none⟩ = some (.int .i64 0)) :
    Calls Tryz.prog 209 #[.slice (some ⟨b, 0, none⟩) 1 1, .int .i64 m] w fun e w' => ∃ v, e = .returned v ∧ RowV w.heap.size w' v (List.replicate m.toNat ⟨n, false, 0⟩) ∧ Grew w w' := by
  rcases hm with rfl | rfl | rfl
  · exact rep_0 b n w hb c0 c1 c2
  · exact rep_1 b n w hb c0 c1 c2
  · exact rep_2 b n w hb c0 c1 c2
end Go.Proofs.YtikaidokllnifaaGreatDoor
