/-
  Steps of vnum: global.get; no statement is proved here.
-/
import Derived.Test.YtikaidokllnifaaGreatDoorSgT
import Derived.Test.YtikaidokllnifaaGreatDoorVnTj
import Derived.Deep.RegionHeld3
set_option maxRecDepth 100000
set_option maxHeartbeats 8000000
namespace Go.Proofs.YtikaidokllnifaaGreatDoor
open Go.RowKit
set_option linter.unusedVariables false
set_option linter.unusedSimpArgs false
theorem sig_yes (op : Int) (h : isOpB op = true) (w : World) (hT : TabS w) :
    Calls Tryz.prog 155 #[.int .i64 op] w fun e w' => ∃ u v, e = .returned (.tuple #[u, v, .int .i64 0]) ∧ RowV w.heap.size w' u (List.replicate (sigRow op).2.2.1.toNat ⟨(sigRow op).2.1, false, 0⟩) ∧ RowV w.heap.size w' v [⟨(sigRow op).2.2.2, false, 0⟩] ∧ Grew w w' := by
  have C := isOp_any op w
  rw [h] at C
  have C2 : Hid (Calls Tryz.prog 194 #[.int .i64 op] w fun e w' => ∃ u v, e = .returned (.tuple #[u, v]) ∧ RowV w.heap.size w' u (List.replicate (sigRow op).2.2.1.toNat ⟨(sigRow op).2.1, false, 0⟩) ∧ RowV w.heap.size w' v [⟨(sigRow op).2.2.2, false, 0⟩] ∧ Grew w w') := sigOf_any op w hT
  clear h hT
  generalize sigRow op = r at *
  go_enter Tryz.func155, Tryz.ntmps155
  go_wp2_with fail
  refine C.mono ?_
  rintro e w1 ⟨rfl, hw⟩
  obtain rfl := hw.symm
  clear C
  go_wp2_with fail
  refine C2.out.mono ?_
  rintro e w2 ⟨u, v, rfl, h1, h2, g2⟩
  obtain ⟨ua, uc, rfl⟩ := row_one h1
  obtain ⟨va, vc, rfl⟩ := row_one h2
  have H1 : Hid (RowV w.heap.size w2 (.slice ua (List.replicate r.2.2.1.toNat (⟨r.2.1, false, 0⟩ : VT)).length uc) (List.replicate r.2.2.1.toNat ⟨r.2.1, false, 0⟩)) := h1
  have H2 : Hid (RowV w.heap.size w2 (.slice va [(⟨r.2.2.2, false, 0⟩ : VT)].length vc) [⟨r.2.2.2, false, 0⟩]) := h2
  have G2 : Hid (Grew w w2) := g2
  clear h1 h2 g2 C2
  go_wp2_with fail
  exact bodyPost_ret (v := .tuple #[.slice ua (List.replicate r.2.2.1.toNat (⟨r.2.1, false, 0⟩ : VT)).length uc, .slice va [(⟨r.2.2.2, false, 0⟩ : VT)].length vc, .int .i64 0]) (by simp [results, Tryz.results155, go_sem]) rfl ⟨_, _, rfl, H1.out, H2.out, G2.out⟩
theorem wrap_idk {n : Int} (h0 : -9223372036854775808 ≤ n) (h1 : n ≤ 9223372036854775807) : IntKind.i64.wrap n = n := by rw [IntKind.wrap_i64]; omega
theorem set3_objk {w : World} {b : Nat} {x y z : Value} {t : TypeId} {fr : Nat × Nat} (h : w.heap[b]? = some (.cells #[x, y, z] t fr)) (x' y' z' : Value) :
    (((w.setCell ⟨b, 0, none⟩ x').setCell ⟨b, 1, none⟩ y').setCell ⟨b, 2, none⟩ z').heap[b]? = some (.cells #[x', y', z'] t fr) := by
  have h1 := heap_set h 0 x'
  have h2 := heap_set h1 1 y'
  exact heap_set h2 2 z'
def wv (n b : Int) (st sg : Bool) (e : Value) : Value := .tuple #[.agg #[.int .i64 n, .bool false, .int .i64 0], .int .i64 b, .bool st, .bool sg, e]
theorem width_yes (op : Int) (h0 : 40 ≤ op) (h1 : op ≤ 62) (n b : Int) (sg : Bool) (hr : accL[(op - 40).toNat]? = some (n, b, sg)) (w : World) (hT : TabA w) :
    Calls Tryz.prog 192 #[.int .i64 op] w fun e w' => e = .returned (wv n b (decide (54 ≤ op)) sg (.int .i64 0)) ∧ Grew w w' := by
  obtain ⟨k, hk⟩ : ∃ k : Nat, op - 40 = (k : Int) := ⟨(op - 40).toNat, by omega⟩
  rw [hk, Int.toNat_natCast] at hr
  have hposA := hT.pos
  obtain ⟨q0, q1, q2⟩ := (hT.grew ((Grew.refl w).alloc (.cells #[.int .i64 0, .bool false, .int .i64 0] 39))).row hr
  simp only at q0 q1 q2
  have e0 : (w.alloc (.cells #[.int .i64 0, .bool false, .int .i64 0] 39)).heap[w.heap.size]? = some (.cells #[.int .i64 0, .bool false, .int .i64 0] 39 (0, 0)) := heap_alloc_last w _
  have hwr : IntKind.i64.wrap (op - 40) = (k : Int) := by rw [hk]; exact wrap_idk (by omega) (by omega)
  have d1 : decide (op < 40) = false := by simp; omega
  have d2 : decide (62 < op) = false := by simp; omega
  have hk23 : (k : Int) < 23 := by omega
  have G0 : Hid (Grew w (w.alloc (.cells #[.int .i64 0, .bool false, .int .i64 0] 39))) := (Grew.refl w).alloc _
  clear hr hT
  go_enter Tryz.func192, Tryz.ntmps192
  generalize hW : w.alloc (.cells #[.int .i64 0, .bool false, .int .i64 0] 39) = W at *
  have x0 := cell_of e0 0
  have x1 := cell_of e0 1
  have x2 := cell_of e0 2
  have z0 := free_of e0 0
  have z1 := free_of e0 1
  have z2 := free_of e0 2
  simp at x0 x1 x2
  have hl : w.heap.size < W.heap.size := lt_of_obj e0
  have hn : ¬ w.heap.size = W.heap.size := by omega
  have hpW : 0 < W.heap.size := by omega
  have E0 : Hid (W.heap[w.heap.size]? = some (.cells #[.int .i64 0, .bool false, .int .i64 0] 39 (0, 0))) := e0
  clear e0
  go_wp2_with fail
  go_region
  all_goals go_wp2_with fail
  have hobj := heap_alloc (set3_objk E0.out (.int .i64 n) (.bool false) (.int .i64 0)) (.cells #[.int .i64 n, .int .i64 b, .bool sg] 239 (0, 0))
  have hgr : Grew w ((((W.setCell ⟨w.heap.size, 0, none⟩ (.int .i64 n)).setCell ⟨w.heap.size, 1, none⟩ (.bool false)).setCell ⟨w.heap.size, 2, none⟩ (.int .i64 0)).alloc (.cells #[.int .i64 n, .int .i64 b, .bool sg] 239 (0, 0))).drew :=
    ((((G0.out.set (p := ⟨w.heap.size, 0, none⟩) (by simp) _).set (p := ⟨w.heap.size, 1, none⟩) (by simp) _).set (p := ⟨w.heap.size, 2, none⟩) (by simp) _).alloc _).drew
  have hobj' : (((((W.setCell ⟨w.heap.size, 0, none⟩ (.int .i64 n)).setCell ⟨w.heap.size, 1, none⟩ (.bool false)).setCell ⟨w.heap.size, 2, none⟩ (.int .i64 0)).alloc (.cells #[.int .i64 n, .int .i64 b, .bool sg] 239 (0, 0))).drew).heap[w.heap.size]? = some (.cells #[.int .i64 n, .bool false, .int .i64 0] 39 (0, 0)) := hobj
  clear hobj
  generalize ((((W.setCell ⟨w.heap.size, 0, none⟩ (.int .i64 n)).setCell ⟨w.heap.size, 1, none⟩ (.bool false)).setCell ⟨w.heap.size, 2, none⟩ (.int .i64 0)).alloc (.cells #[.int .i64 n, .int .i64 b, .bool sg] 239 (0, 0))).drew = W5 at *
  have g0 := cell_of hobj' 0
  have g1 := cell_of hobj' 1
  have g2 := cell_of hobj' 2
  simp at g0 g1 g2
  exact bodyPost_ret (v := wv n b (decide (54 ≤ op)) sg (.int .i64 0)) (by simp [results, Tryz.results192, go_sem, g0, g1, g2, wv]) rfl ⟨rfl, hgr⟩
section
variable {gv : Value} {L : List RT} {W0 w : World} {C : Nat} {lv fv ov : Value} {g c : Nat} {lo : List LO} {fr : List Int} {ops : List VT} {fs : List FV} {x : FV} {S : Nat} {es : Array Value}
theorem operator_yes (A : StA gv L W0 w C lv fv ov g c lo fr ops fs x S es) {op : Int} (hx : es[10]? = some (.int .i64 op)) (h : isOpB op = true) (hT : TabS w) :
    Calls Tryz.prog 85 #[.pointer (some ⟨S, 0, none⟩)] w (MP gv W0 w w C lv g c fs x (popsR (matB L) x.height x.dead (List.replicate (sigRow op).2.2.1.toNat (⟨(sigRow op).2.1, false, 0⟩ : VT)).reverse ops).1 lo fr ((popsR (matB L) x.height x.dead (List.replicate (sigRow op).2.2.1.toNat (⟨(sigRow op).2.1, false, 0⟩ : VT)).reverse ops).2 ++ [⟨(sigRow op).2.2.2, false, 0⟩])) := by
  have CS : Hid (Calls Tryz.prog 155 #[.int .i64 op] w fun e w' => ∃ u v, e = .returned (.tuple #[u, v, .int .i64 0]) ∧ RowV w.heap.size w' u (List.replicate (sigRow op).2.2.1.toNat ⟨(sigRow op).2.1, false, 0⟩) ∧ RowV w.heap.size w' v [⟨(sigRow op).2.2.2, false, 0⟩] ∧ Grew w w') := sig_yes op h w hT
  have s0 := A.cell hx
  have HAA := Hid.mk' A
  clear A hx h hT
  generalize List.replicate (sigRow op).2.2.1.toNat (⟨(sigRow op).2.1, false, 0⟩ : VT) = li at *
  generalize (sigRow op).2.2.2 = ot at *
  go_enter Tryz.func85, Tryz.ntmps85
  go_wp2_with fail
  refine CS.out.mono ?_
  rintro en w1 ⟨u, v, rfl, hu, hv, g1⟩
  obtain ⟨b, c', hvv, _, _, _⟩ := RowV.last (l := []) hv
  obtain ⟨ua, uc, huv, _⟩ := hu.lst.one
  have hb : w.heap.size ≤ b ∧ b < w1.heap.size := by
    have := World.ownsRow.lt hv b (by rw [hvv]; rfl)
    exact this
  subst hvv huv
  have CP := Hid.mk' (HAA.out.swap g1 hu.lst hv.lst hb (by simp))
  have A1 := HAA.out.grew g1
  have s9 := A1.cell A1.hc
  have G1 := Hid.mk' g1
  clear hu hv g1 hb A1 CS s0
  generalize popsR (matB L) x.height x.dead li.reverse ops = RR at *
  go_wp2_with fail
  refine CP.out.mono ?_
  rintro en w2 ⟨rfl, kb, sk, hk⟩
  have HF := Hid.mk' (And.intro kb (And.intro (SK.trans (Grew.sk G1.out) sk) hk))
  clear kb sk hk CP
  go_wp2_with fail
  go_ret
  exact ⟨rfl, HF.out.1, HF.out.2.1, fun he => HF.out.2.2 (by first | exact he | trivial)⟩
end
section
variable {gv : Value} {L : List RT} {W0 w : World} {C : Nat} {lv fv ov : Value} {g c : Nat} {lo : List LO} {fr : List Int} {ops : List VT} {fs : List FV} {x : FV} {S : Nat} {es : Array Value}
theorem globalGet_out (A : StA gv L W0 w C lv fv ov g c lo fr ops fs x S es) {n : Nat} (h32 : n < 4294967296) (hx : es[11]? = some (.int .u32 (n : Int))) {mv : Value} {M : List GLt} (hm : es[4]? = some mv) (hM : LGl w mv M) (hn : M.length ≤ n) :
    Calls Tryz.prog 77 #[.pointer (some ⟨S, 0, none⟩)] w fun en w' => en = .returned (.int .i64 150) ∧ Grew w w' := by
  have CAt : Hid (∀ X, Grew w X → Calls Tryz.prog 151 #[mv, .int .u32 (n : Int)] X fun en w' => en = .returned (.tuple #[.agg #[.int .i64 0, .bool false, .int .i64 0, .bool false], .int .i64 150]) ∧ Grew X w') := fun X k => atGL_out (hM.grew k) hn h32
  have s0 := A.cell hm
  have s1 := A.cell hx
  have hS := lt_of_obj A.N
  have hne1 : S ≠ w.heap.size := Nat.ne_of_lt hS
  have hne2 : w.heap.size ≠ S := Nat.ne_of_gt hS
  obtain ⟨ma, mc, hmv, _⟩ := hM.one
  subst hmv
  clear A hx hm hM hn h32
  go_enter Tryz.func77, Tryz.ntmps77
  go_wp2_with fail
  go_region_held3 (fun w' => w'.cell? ⟨S, 4, none⟩ = some (.slice ma M.length mc) ∧ w'.cell? ⟨S, 11, none⟩ = some (.int .u32 (n : Int))) (go_keep) (first
    | (with_reducible refine (CAt.out _ ?gr).mono ?_
       case gr => exact (by repeat (first | with_reducible exact .refl _ | refine .alloc ?_ _ | refine .drewN ?_ _ | refine .drew ?_))
       rintro en w1 ⟨rfl, g1⟩
       have gg1 : Grew w w1 := Grew.trans (by repeat (first | with_reducible exact .refl _ | refine .alloc ?_ _ | refine .drewN ?_ _ | refine .drew ?_)) g1
       have G1 := Hid.mk' gg1
       have s10 := cell_grew s0 gg1
       have s11 := cell_grew s1 gg1
       first
       | (have gz : Grew (w.alloc (.cells #[.int .i64 0, .bool false, .int .i64 0, .bool false] 175)) w1 := (by first | exact g1 | exact ((Grew.refl _).drew).trans g1 | exact ((Grew.refl _).drewN _).trans g1)
          have Bz := (gz.turn []).other (heap_alloc_last w (.cells #[.int .i64 0, .bool false, .int .i64 0, .bool false] 175)) (by simp)
          have HBz := Hid.mk' Bz
          have hlz := lt_of_obj Bz
          have y0 := cell_of Bz 0; have r0 := free_of Bz 0; have y1 := cell_of Bz 1; have r1 := free_of Bz 1; have y2 := cell_of Bz 2; have r2 := free_of Bz 2; have y3 := cell_of Bz 3; have r3 := free_of Bz 3
          simp at y0 y1 y2 y3
          clear gz Bz)
       | skip
       clear g1 gg1))
  all_goals
    go_wp2_with fail
    go_ret
    exact ⟨rfl, (by repeat (first | with_reducible exact G1.out | refine .set ?_ (Nat.le_refl _) _ | refine .alloc ?_ _ | refine .drewN ?_ _ | refine .drew ?_))⟩
theorem globalGet_in (A : StA gv L W0 w C lv fv ov g c lo fr ops fs x S es) {n : Nat} (h32 : n < 4294967296) (hx : es[11]? = some (.int .u32 (n : Int))) {mv : Value} {M : List GLt} (hm : es[4]? = some mv) (hM : LGl w mv M) {p : GLt} (hp : M[n]? = some p) :
    Calls Tryz.prog 77 #[.pointer (some ⟨S, 0, none⟩)] w (MP gv W0 w w C lv g c fs x 0 lo fr (ops ++ [⟨p.ty.num, p.ty.null, p.ty.heap⟩])) := by
  have CAt : Hid (∀ X, Grew w X → Calls Tryz.prog 151 #[mv, .int .u32 (n : Int)] X fun en w' => en = .returned (.tuple #[.agg #[.int .i64 p.ty.num, .bool p.ty.null, .int .i64 p.ty.heap, .bool p.mut_], .int .i64 0]) ∧ Grew X w') := fun X k => atGL_in (hM.grew k) hp h32
  have CP : Hid (∀ X, Grew w X → Calls Tryz.prog 65 #[.pointer (some ⟨C, 0, none⟩), .agg #[.int .i64 p.ty.num, .bool p.ty.null, .int .i64 p.ty.heap]] X (MP gv W0 w X C lv g c fs x 0 lo fr (ops ++ [⟨p.ty.num, p.ty.null, p.ty.heap⟩]))) := fun X k => A.push p.ty.num (p.ty.heap) p.ty.null k
  have s0 := A.cell hm
  have s1 := A.cell hx
  have s2 := A.cell A.hc
  have hS := lt_of_obj A.N
  have hne1 : S ≠ w.heap.size := Nat.ne_of_lt hS
  have hne2 : w.heap.size ≠ S := Nat.ne_of_gt hS
  have HAA := Hid.mk' A
  have HC9 := Hid.mk' A.hc
  obtain ⟨ma, mc, hmv, _⟩ := hM.one
  subst hmv
  clear A hx hm hM hp h32
  go_enter Tryz.func77, Tryz.ntmps77
  go_wp2_with fail
  go_region_held3 (fun w' => w'.cell? ⟨S, 4, none⟩ = some (.slice ma M.length mc) ∧ w'.cell? ⟨S, 11, none⟩ = some (.int .u32 (n : Int))) (go_keep) (first
    | (with_reducible refine (CAt.out _ ?gr).mono ?_
       case gr => exact (by repeat (first | with_reducible exact .refl _ | refine .alloc ?_ _ | refine .drewN ?_ _ | refine .drew ?_))
       rintro en w1 ⟨rfl, g1⟩
       have gg1 : Grew w w1 := Grew.trans (by repeat (first | with_reducible exact .refl _ | refine .alloc ?_ _ | refine .drewN ?_ _ | refine .drew ?_)) g1
       have G1 := Hid.mk' gg1
       have s10 := cell_grew s0 gg1
       have s11 := cell_grew s1 gg1
       first
       | (have gz : Grew (w.alloc (.cells #[.int .i64 0, .bool false, .int .i64 0, .bool false] 175)) w1 := (by first | exact g1 | exact ((Grew.refl _).drew).trans g1 | exact ((Grew.refl _).drewN _).trans g1)
          have Bz := (gz.turn []).other (heap_alloc_last w (.cells #[.int .i64 0, .bool false, .int .i64 0, .bool false] 175)) (by simp)
          have HBz := Hid.mk' Bz
          have hlz := lt_of_obj Bz
          have y0 := cell_of Bz 0; have r0 := free_of Bz 0; have y1 := cell_of Bz 1; have r1 := free_of Bz 1; have y2 := cell_of Bz 2; have r2 := free_of Bz 2; have y3 := cell_of Bz 3; have r3 := free_of Bz 3
          simp at y0 y1 y2 y3
          clear gz Bz)
       | skip
       clear g1 gg1))
  all_goals
    clear s10 s11 s0 s1 s2 CAt
    go_wp2_with fail
    first
    | (have hh0 := hlz
       have B2 : ((((w1.setCell ⟨w.heap.size, 0, none⟩ (.int .i64 p.ty.num)).setCell ⟨w.heap.size, 1, none⟩ (.bool p.ty.null)).setCell ⟨w.heap.size, 2, none⟩ (.int .i64 p.ty.heap)).setCell ⟨w.heap.size, 3, none⟩ (.bool p.mut_)).heap[w.heap.size]? = some (.cells #[.int .i64 p.ty.num, .bool p.ty.null, .int .i64 p.ty.heap, .bool p.mut_] 175 (0, 0)) := (heap_set (heap_set (heap_set (heap_set HBz.out 0 (.int .i64 p.ty.num)) 1 (.bool p.ty.null)) 2 (.int .i64 p.ty.heap)) 3 (.bool p.mut_))
       have gg2 : Grew w ((((w1.setCell ⟨w.heap.size, 0, none⟩ (.int .i64 p.ty.num)).setCell ⟨w.heap.size, 1, none⟩ (.bool p.ty.null)).setCell ⟨w.heap.size, 2, none⟩ (.int .i64 p.ty.heap)).setCell ⟨w.heap.size, 3, none⟩ (.bool p.mut_)) := ((((G1.out.set (p := ⟨w.heap.size, 0, none⟩) (Nat.le_refl _) (.int .i64 p.ty.num)).set (p := ⟨w.heap.size, 1, none⟩) (Nat.le_refl _) (.bool p.ty.null)).set (p := ⟨w.heap.size, 2, none⟩) (Nat.le_refl _) (.int .i64 p.ty.heap)).set (p := ⟨w.heap.size, 3, none⟩) (Nat.le_refl _) (.bool p.mut_))
       have hq : w.heap.size ≤ w.heap.size := Nat.le_refl _
       have HB2 := Hid.mk' B2
       have HG2 := Hid.mk' gg2
       have HQ2 := Hid.mk' hq
       clear hh0 hlz y0 r0 y1 r1 y2 r2 y3 r3 HBz B2 gg2 hq hne1 hne2 hS
       generalize ((((w1.setCell ⟨w.heap.size, 0, none⟩ (.int .i64 p.ty.num)).setCell ⟨w.heap.size, 1, none⟩ (.bool p.ty.null)).setCell ⟨w.heap.size, 2, none⟩ (.int .i64 p.ty.heap)).setCell ⟨w.heap.size, 3, none⟩ (.bool p.mut_)) = w2 at *
       obtain ⟨q, hqq⟩ : ∃ q, q = w.heap.size := ⟨_, rfl⟩
       rw [← hqq] at HB2
       simp only [← hqq]
       clear hqq HQ2)
    | (have B2 : (w1.alloc (.cells #[.int .i64 p.ty.num, .bool p.ty.null, .int .i64 p.ty.heap, .bool p.mut_] 175)).heap[w1.heap.size]? = some (.cells #[.int .i64 p.ty.num, .bool p.ty.null, .int .i64 p.ty.heap, .bool p.mut_] 175 (0, 0)) := heap_alloc_last _ _
       have gg2 : Grew w (w1.alloc (.cells #[.int .i64 p.ty.num, .bool p.ty.null, .int .i64 p.ty.heap, .bool p.mut_] 175)) := G1.out.alloc _
       have HB2 := Hid.mk' B2
       have HG2 := Hid.mk' gg2
       clear B2 gg2 hne1 hne2 hS
       generalize w1.alloc (.cells #[.int .i64 p.ty.num, .bool p.ty.null, .int .i64 p.ty.heap, .bool p.mut_] 175) = w2 at *
       obtain ⟨q, hqq⟩ : ∃ q, q = w1.heap.size := ⟨_, rfl⟩
       rw [← hqq] at HB2
       simp only [← hqq]
       clear hqq)
    have A2 := HAA.out.grew HG2.out
    have s9 := A2.cell A2.hc
    have hS2 := lt_of_obj A2.N
    have HN2 := Hid.mk' A2.N
    have hq2 := lt_of_obj HB2.out
    have y0 := cell_of HB2.out 0; have y1 := cell_of HB2.out 1; have y2 := cell_of HB2.out 2; have y3 := cell_of HB2.out 3
    simp at y0 y1 y2 y3
    clear A2 G1
    go_region_held3 (fun w' => w'.cell? ⟨S, 9, none⟩ = some (.pointer (some ⟨C, 0, none⟩)) ∧ w'.cell? ⟨q, 0, none⟩ = some (.int .i64 p.ty.num) ∧ w'.cell? ⟨q, 1, none⟩ = some (.bool p.ty.null) ∧ w'.cell? ⟨q, 2, none⟩ = some (.int .i64 p.ty.heap) ∧ w'.cell? ⟨q, 3, none⟩ = some (.bool p.mut_)) (go_keep) (first
    | (with_reducible refine (CP.out _ ?gr).mono ?_
       case gr => exact (by repeat (first | with_reducible exact GA1.out | with_reducible exact HG2.out | with_reducible exact .refl _ | refine .alloc ?_ _ | refine .drewN ?_ _ | refine .drew ?_))
       rintro en w5 ⟨rfl, kb, sk, hk⟩
       have sk2 : SK w w5 := SK.trans (Grew.sk (Grew.trans HG2.out (by repeat (first | with_reducible exact GG1.out | with_reducible exact .refl _ | refine .alloc ?_ _ | refine .drewN ?_ _ | refine .drew ?_)))) sk
       have N5 : w5.heap[S]? = some (.cells es 96 (0, 0)) := sk _ _ _ _ (by decide) (by decide) (Turn.other (Grew.turn (by repeat (first | with_reducible exact GG1.out | with_reducible exact .refl _ | refine .alloc ?_ _ | refine .drewN ?_ _ | refine .drew ?_)) []) HN2.out (by simp))
       have B5 : w5.heap[q]? = some (.cells #[.int .i64 p.ty.num, .bool p.ty.null, .int .i64 p.ty.heap, .bool p.mut_] 175 (0, 0)) := sk _ _ _ _ (by decide) (by decide) (Turn.other (Grew.turn (by repeat (first | with_reducible exact GG1.out | with_reducible exact .refl _ | refine .alloc ?_ _ | refine .drewN ?_ _ | refine .drew ?_)) []) HB2.out (by simp))
       have t9 := (cell_of N5 9).trans HC9.out
       have t0 := cell_of B5 0; have t1 := cell_of B5 1; have t2 := cell_of B5 2; have t3 := cell_of B5 3
       simp at t0 t1 t2 t3
       have HF := Hid.mk' (And.intro kb (And.intro sk2 hk))
       clear kb hk sk sk2 N5 B5)
    | fail)
    all_goals
      go_wp2_with fail
      go_ret
      exact ⟨rfl, HF.out.1, HF.out.2.1, fun he => HF.out.2.2 (by first | exact he | trivial)⟩
end
end Go.Proofs.YtikaidokllnifaaGreatDoor
