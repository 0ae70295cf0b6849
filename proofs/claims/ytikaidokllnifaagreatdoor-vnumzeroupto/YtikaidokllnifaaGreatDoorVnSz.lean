/-
  vnum's Step of a checker that no call made; no statement is proved here.
-/
import Derived.Test.YtikaidokllnifaaGreatDoorChk
import Derived.Test.YtikaidokllnifaaGreatDoorCbL
import Derived.Test.YtikaidokllnifaaGreatDoorGrR
import Derived.Test.YtikaidokllnifaaGreatDoorVnHm
import Derived.Test.YtikaidokllnifaaGreatDoorVnSt
import Derived.Test.YtikaidokllnifaaGreatDoorVnCh
import Derived.Deep.RegionHeld3
set_option maxRecDepth 100000
set_option maxHeartbeats 8000000
namespace Go.Proofs.YtikaidokllnifaaGreatDoor
open Go.RowKit
set_option linter.unusedVariables false
set_option linter.unusedSimpArgs false
variable {G : Value → Prop}
theorem call_pushF (p q : Value) (w : World) : (callFunc 42 #[p, q]).run Tryz.prog w = .ok (.enter 42 #[p, q]) w := by kernel_rfl
theorem step_pushF {ops' : Array Oper} {o : Oper} {a : Act} {w : World} {K : Act → World → Prop} {Q : Exit → Act → World → Prop} {E : Prop} (x y : Operand) {B : Nat} {C : Nat} {lv fv ov qv : Value} {lo : List LO} {fr : List Int} {ops : List VT} {fs : List FV} (h : CHK G B w C lv fv ov qv lo fr ops fs) {u : Value} {l : List FV} (hr : Raw 6 w u l.length (l.flatMap FV.c)) (hn : fs.length + l.length ≤ 8388608) (hsl : ∀ x ∈ l, isSl x.inn ∧ isSl x.out) {t1 t2 : TypeId}
    (hop : o.op = .call { callee := .value (.func 42), args := #[x, y], argTypes := #[t1, t2] }) (hg : o.guard = none) (hx : a.eval x = .pointer (some ⟨C, 6, none⟩)) (hy : a.eval y = u)
    (hk : ∀ v' w', CHK G B w' C lv fv ov v' lo fr ops (fs ++ l) → KB B w w' → Two C qv w w' → K (a.put o.dst (.tuple #[])) w') :
    if Region.wanted o (yielded ops' a.tmps) = true then Oper.wp Tryz.prog o a w K Q else E :=
  step_callFk hop (by simp [Region.wanted, hg]) (args := #[.pointer (some ⟨C, 6, none⟩), u]) (by simp [hx, hy]) (call_pushF _ _ w) (pushF_any h hr hn hsl) (by rintro e w' ⟨v', rfl, h1, h2, h3⟩; exact Or.inl ⟨_, rfl, hk v' w' h1 h2 h3⟩)
/- One frame in a row of its own. -/
theorem raw_frame {w : World} (x : FV) (hx : isSl x.inn ∧ isSl x.out) {t : TypeId} : Raw 6 (w.alloc (.cells #[.int .i64 x.op, x.inn, x.out, .int .i64 x.height, .int .i64 x.fresh, .bool x.dead] t)) (.slice (some ⟨w.heap.size, 0, none⟩) 1 1) 1 (([x] : List FV).flatMap FV.c) := by
  refine ⟨rfl, ?_, some ⟨w.heap.size, 0, none⟩, 1, rfl, Nat.le_refl _, by decide, (fun h => by cases h), Or.inr ⟨w.heap.size, 0, rfl, fun j u hu => ?_⟩⟩
  · intro u hu
    simp [FV.c] at hu
    rcases hu with rfl | rfl | rfl | rfl | rfl | rfl
    · rfl
    · exact hx.1.one
    · exact hx.2.one
    · rfl
    · rfl
    · rfl
  · rw [Nat.zero_add, cell_of (heap_alloc_last _ _)]
    simpa [FV.c] using hu
theorem new_any {w : World} {tv pv lv rv : Value} {L : List RT} {P Q R : List VT} (hL : ∃ ta tc, tv = .slice ta L.length tc) (hG : ∀ X, Grew w X → Calls Tryz.prog 40 #[tv] X fun en w' => ∃ g, en = .returned (.slice (some ⟨g, 0, none⟩) L.length L.length) ∧ LR w' (.slice (some ⟨g, 0, none⟩) L.length L.length) L ∧ Grew X w') (hP : LV w pv P) (hQ : LV w lv Q) (hR : LV w rv R) (h3 : P.length + Q.length ≤ 1048576) (h4 : R.length ≤ 1048576) :
    Calls Tryz.prog 15 #[tv, pv, lv, rv] w fun en w' => ∃ C lv' qv x gv W0, en = .returned (.pointer (some ⟨C, 0, none⟩)) ∧ x.height = 0 ∧ x.fresh = 0 ∧ x.dead = false ∧ Grew w W0 ∧ LR W0 gv L ∧ CHK (fun v => v = gv) W0.heap.size w' C lv' NILS NILS qv (locs P Q) [] [] [x] ∧ Grew W0 w' := by
  have C1 : Hid (∀ X, Grew w X → Calls Tryz.prog 40 #[tv] X fun en w' => ∃ g, en = .returned (.slice (some ⟨g, 0, none⟩) L.length L.length) ∧ LR w' (.slice (some ⟨g, 0, none⟩) L.length L.length) L ∧ Grew X w') := hG
  have C2 : Hid (∀ X, Grew w X → Calls Tryz.prog 39 #[rv] X (NewRow 39 R.length (R.flatMap VT.c) X)) := fun X g => copiedV_any (hR.raw.grew g) (by omega)
  have C3 : Hid (∀ X, Grew w X → Calls Tryz.prog 41 #[pv, lv] X fun en w' => ∃ u, en = .returned u ∧ RowLo X.heap.size w' u (locs P Q) ∧ Grew X w') := fun X g => localsOf_any (hP.grew g) (hQ.grew g) h3
  obtain ⟨ta, tc, hv⟩ := hL
  subst hv
  obtain ⟨pa, pc, hv, _⟩ := hP.one
  subst hv
  obtain ⟨qa, qc, hv, _⟩ := hQ.one
  subst hv
  obtain ⟨ra, rc, hv, _⟩ := hR.one
  subst hv
  clear hP hQ hR hG
  generalize locs P Q = LL at *
  go_enter Tryz.func15, Tryz.ntmps15
  go_wp2_with fail
  refine (C1.out _ (Grew.refl w)).mono ?_
  rintro en w1 ⟨g1, rfl, lr1, gg1⟩
  have G1 : Hid (Grew w w1) := gg1
  have HL : Hid (LR w1 (.slice (some ⟨g1, 0, none⟩) L.length L.length) L) := lr1
  clear gg1 C1 lr1
  go_wp2_with fail
  refine (C2.out _ G1.out).mono ?_
  rintro en w2 ⟨g2, rfl, _, _, gg2⟩
  have G2 : Hid (Grew w1 w2) := gg2
  clear gg2 C2
  go_wp2_with fail
  refine (C3.out _ (G1.out.trans G2.out)).mono ?_
  rintro en w3 ⟨u, rfl, r3, gg3⟩
  have G3 : Hid (Grew w1 w3) := G2.out.trans gg3
  have R3 : Hid (RowLo w1.heap.size w3 u LL) := row_low r3 G2.out.2
  obtain ⟨ua, uc, hu⟩ := row_one r3
  subst hu
  clear gg3 C3 G2 r3
  go_wp2_with fail
  have hC : Hid (CHK (fun v => v = .slice (some ⟨g1, 0, none⟩) L.length L.length) w1.heap.size (w3.alloc (.cells #[.bool true, .slice (some ⟨g1, 0, none⟩) L.length L.length, .slice (some ⟨g2, 0, none⟩) R.length R.length, .slice ua LL.length uc, NILS, NILS, NILS] 68)) w3.heap.size (.slice ua LL.length uc) NILS NILS NILS LL [] [] []) :=
    ⟨⟨_, _, ⟨⟨_, _, _, rfl⟩, rfl⟩, ⟨_, _, _, rfl⟩, heap_alloc_last _ _⟩, G3.out.2, R3.out.grew ((Grew.refl _).alloc _), RowU.nil _ _, RowV.nil _ _, RowFr.nil _ _, by simp⟩
  have c2 : (w3.alloc (.cells #[.bool true, .slice (some ⟨g1, 0, none⟩) L.length L.length, .slice (some ⟨g2, 0, none⟩) R.length R.length, .slice ua LL.length uc, NILS, NILS, NILS] 68)).cell? ⟨w3.heap.size, 2, none⟩ = some (.slice (some ⟨g2, 0, none⟩) R.length R.length) := by rw [cell_of (heap_alloc_last _ _)]; rfl
  have G4 : Hid (Grew w1 (w3.alloc (.cells #[.bool true, .slice (some ⟨g1, 0, none⟩) L.length L.length, .slice (some ⟨g2, 0, none⟩) R.length R.length, .slice ua LL.length uc, NILS, NILS, NILS] 68))) := G3.out.alloc _
  have hl4 : w3.heap.size < (w3.alloc (.cells #[.bool true, .slice (some ⟨g1, 0, none⟩) L.length L.length, .slice (some ⟨g2, 0, none⟩) R.length R.length, .slice ua LL.length uc, NILS, NILS, NILS] 68)).heap.size := by simp
  generalize (w3.alloc (.cells #[.bool true, .slice (some ⟨g1, 0, none⟩) L.length L.length, .slice (some ⟨g2, 0, none⟩) R.length R.length, .slice ua LL.length uc, NILS, NILS, NILS] 68)) = w4 at *
  generalize w3.heap.size = C at *
  clear G3 R3
  go_region_law (refine step_pushF (.tmp 21) (.tmp 27) (fs := []) (l := [⟨2, NILS, .slice (some ⟨g2, 0, none⟩) R.length R.length, 0, 0, false⟩]) (hC.out.grew (by repeat (first | exact .refl _ | refine .alloc ?_ _ | refine .drewN ?_ _ | refine .drew ?_))) (raw_frame ⟨2, NILS, .slice (some ⟨g2, 0, none⟩) R.length R.length, 0, 0, false⟩ ⟨⟨_, _, _, rfl⟩, ⟨_, _, _, rfl⟩⟩) (by simp) (by simp [isSl]) rfl rfl rfl rfl ?_
                 intro v5 w5 K5 B5 _
                 have H5 := Hid.mk' K5
                 have HB5 := Hid.mk' B5
                 clear K5 B5)
  all_goals
    go_wp2_with fail
    go_ret
    refine ⟨C, _, _, _, _, w1, rfl, rfl, rfl, rfl, G1.out, HL.out, H5.out, KB.grew (w := w4) G4.out (KB.trans (Grew.kb (by repeat (first | exact .refl _ | refine .alloc ?_ _ | refine .drewN ?_ _ | refine .drew ?_)) G4.out.2) HB5.out)⟩
theorem lst_nil {α : Type} {k : Nat} {E : World → Nat → Nat → α → Prop} {w : World} : Lst k E w NILS [] :=
  ⟨none, 0, rfl, Nat.le_refl _, by decide, fun _ => rfl, Or.inl rfl⟩
theorem lst_nil0 {α : Type} {k : Nat} {E : World → Nat → Nat → α → Prop} {w : World} (a : Addr) : Lst k E w (.slice (some a) 0 0) [] :=
  ⟨some a, 0, rfl, Nat.le_refl _, by decide, (fun h => nomatch h), Or.inl rfl⟩
theorem New_nils (w : World) : Calls Tryz.prog 15 #[NILS, NILS, NILS, NILS] w fun en w' => ∃ C lv' g c gv W0, ∃ x : FV, en = .returned (.pointer (some ⟨C, 0, none⟩)) ∧ x.height = 0 ∧ x.dead = false ∧ Grew w W0 ∧ LR W0 gv [] ∧ CHG gv W0.heap.size w' C lv' NILS NILS (.slice (some ⟨g, 0, none⟩) 1 c) [] [] [] [x] ∧ Grew W0 w' := by
  refine (new_any (P := []) (Q := []) (R := []) (L := []) ⟨none, 0, rfl⟩ (fun X _ => (groupsOf_any (l := []) lst_nil (by decide) (by simp)).mono ?_) lst_nil lst_nil lst_nil (by decide) (by decide)).mono ?_
  · rintro en w1 ⟨⟨g, rfl⟩, g1⟩
    exact ⟨g, rfl, lst_nil0 _, g1⟩
  · rintro en w1 ⟨C, lv', qv, x, gv, W0, rfl, h1, _, h3, h4, h5, h6, h7⟩
    have h6' := h6
    obtain ⟨_, _, _, _, _, ⟨_, ⟨h8, h9⟩ | ⟨g, cap, cur, hv, _, _, h10, h11, _⟩⟩, _⟩ := h6
    · simp at h9
    · subst hv
      exact ⟨C, lv', g, cap, gv, W0, x, rfl, h1, h3, h4, h5, h6', h7⟩
theorem meth_enters {k : Int} {n : Nat} (h : stepF k = (n : Int)) (args : Array Value) (W : World) : (callFunc n args).run Tryz.prog W = .ok (.enter n args) W := by
  have h := stepF_mem h
  simp only [VSL, List.mem_cons, List.mem_nil_iff, or_false, Prod.mk.injEq] at h
  rcases h with ⟨e, rfl⟩ | ⟨e, rfl⟩ | ⟨e, rfl⟩ | ⟨e, rfl⟩ | ⟨e, rfl⟩ | ⟨e, rfl⟩ | ⟨e, rfl⟩ | ⟨e, rfl⟩ | ⟨e, rfl⟩ | ⟨e, rfl⟩ | ⟨e, rfl⟩ | ⟨e, rfl⟩ | ⟨e, rfl⟩ | ⟨e, rfl⟩ | ⟨e, rfl⟩ | ⟨e, rfl⟩ | ⟨e, rfl⟩ | ⟨e, rfl⟩ | ⟨e, rfl⟩ | ⟨e, rfl⟩ | ⟨e, rfl⟩ | ⟨e, rfl⟩ | ⟨e, rfl⟩ | ⟨e, rfl⟩ | ⟨e, rfl⟩ <;> (show _ = _; kernel_rfl)
theorem step_fresh {w W0 : World} {C g c : Nat} {gv lv : Value} {xf : FV} (hx0 : xf.height = 0) (hxd : xf.dead = false) (hG : GRP [] W0 gv) (h : CHG gv W0.heap.size w C lv NILS NILS (.slice (some ⟨g, 0, none⟩) 1 c) [] [] [] [xf]) (g0 : Grew W0 w)
   (t0 t1 t2 t3 t4 t5 t6 t8 : Option Addr) (m0 m1 m2 m3 m4 m5 m6 m8 k0 k1 k2 k3 k4 k5 k6 k8 : Nat) (dt op N al off bt bn bh : Int) (nx ny me : Nat) (bz he : Bool) (b0 b1 b2 b3 b4 : Option Addr) (p0 p1 p2 p3 p4 q0 q1 q2 q3 q4 : Nat)
   (hwf : (Lit.int .i64 (grpF op)).wf = true) (h32 : nx < 4294967296) (h322 : ny < 4294967296) (hme : me < 4294967296) (hal0 : 0 ≤ al)
   {TT : List RT} (hT : LR w (.slice t0 m0 k0) TT) (hmx : TT.length ≤ 1048576) (hc : cntT TT ≤ 1048576) (hfit : Fit TT) (htab : Tab w)
   {TB : List TBt} (hTB : LTb w (.slice t2 m2 k2) TB) {M : List LMt} (hM : LLm w (.slice t3 m3 k3) M) {GL : List GLt} (hGL : LGl w (.slice t4 m4 k4) GL) {EL : List VT} (hEL : LV w (.slice t6 m6 k6) EL) {sl : List VT} (hsl : LV w (.slice b3 p3 q3) sl)
   (hTS : TabS w) (hTA : TabA w) :
    Calls Tryz.prog 12 #[.agg #[.slice t0 m0 k0, .slice t1 m1 k1, .slice t2 m2 k2, .slice t3 m3 k3, .slice t4 m4 k4, .slice t5 m5 k5, .slice t6 m6 k6, .int .i64 dt, .slice t8 m8 k8], .pointer (some ⟨C, 0, none⟩), .agg #[.int .i64 op, .int .u32 (nx : Int), .int .u32 (ny : Int), .int .u64 N, .int .u32 al, .int .u32 (me : Int), .int .u64 off, .int .i64 bt, .int .i64 bn, .bool bz, .int .i64 bh, .slice b0 p0 q0, .slice b1 p1 q1, .bool he, .slice b2 p2 q2, .slice b3 p3 q3, .slice b4 p4 q4]] w fun en w' => ∃ e : Int, en = .returned (.int .i64 e) ∧ (e = 6 ↔ stepF (grpF op) = -1) ∧ KB W0.heap.size w w' := by
  refine step_go g0.2 t0 t1 t2 t3 t4 t5 t6 t8 m0 m1 m2 m3 m4 m5 m6 m8 k0 k1 k2 k3 k4 k5 k6 k8 dt op (nx : Int) (ny : Int) N al (me : Int) off bt bn bh bz he b0 b1 b2 b3 b4 p0 p1 p2 p3 p4 q0 q1 q2 q3 q4 hwf (fun n hn => meth_enters hn) (fun n hn Z gZ => ?_) (fun X gX => pops_nil (fs := []) (h.grew gX))
  have gZ' := gZ.alloc (.cells #[.slice t0 m0 k0, .slice t1 m1 k1, .slice t2 m2 k2, .slice t3 m3 k3, .slice t4 m4 k4, .slice t5 m5 k5, .slice t6 m6 k6, .int .i64 dt, .slice t8 m8 k8, .pointer (some ⟨C, 0, none⟩), .int .i64 op, .int .u32 (nx : Int), .int .u32 (ny : Int), .int .u64 N, .int .u32 al, .int .u32 (me : Int), .int .u64 off, .int .i64 bt, .int .i64 bn, .bool bz, .int .i64 bh, .slice b0 p0 q0, .slice b1 p1 q1, .bool he, .slice b2 p2 q2, .slice b3 p3 q3, .slice b4 p4 q4] 96)
  have A := (StA.mk (fs := []) (x := xf) hG (h.grew gZ') (g0.trans gZ') (by rw [hx0]; exact Nat.zero_le _) (by simp) (heap_alloc_last Z _) rfl)
  exact meth_z A (op := op) rfl h32 rfl h322 rfl rfl hal0 hme rfl rfl rfl (hT.grew gZ') hmx hc hfit (htab.grew gZ') rfl (hTB.grew gZ') rfl (hM.grew gZ') rfl (hGL.grew gZ') rfl (hEL.grew gZ') rfl rfl (hsl.grew gZ') (by simp) (by unfold popTP popP; simp [hx0, hxd]) (hTS.grew gZ') (hTA.grew gZ') hn
theorem zero_nil (w : World) : Calls Tryz.prog 38 #[.pointer none] w fun en w' => en = .returned (.bool true) ∧ Grew w w' := by
  go_enter Tryz.func38, Tryz.ntmps38
  go_wp2_with fail
  go_ret
  exact ⟨rfl, Grew.refl _⟩
theorem zero_un {w : World} {b : Nat} (h : w.cell? ⟨b, 0, none⟩ = some (.bool false)) : Calls Tryz.prog 38 #[.pointer (some ⟨b, 0, none⟩)] w fun en w' => en = .returned (.bool true) ∧ Grew w w' := by
  go_enter Tryz.func38, Tryz.ntmps38
  go_wp2_with fail
  go_ret
  exact ⟨rfl, Grew.refl _⟩
/- No call made the checker that p points at. -/
def Unm (p : Option Addr) (w : World) : Prop := ∀ W, Grew w W → Calls Tryz.prog 38 #[.pointer p] W fun en w' => en = .returned (.bool true) ∧ Grew W w'
theorem Unm.nil (w : World) : Unm none w := fun W g => zero_nil W
theorem Unm.zero {w : World} {b : Nat} (h : w.cell? ⟨b, 0, none⟩ = some (.bool false)) : Unm (some ⟨b, 0, none⟩) w := fun W g => zero_un (cell_grew h g)
theorem Unm.grew {p : Option Addr} {w w' : World} (h : Unm p w) (g : Grew w w') : Unm p w' := fun W g' => h W (g.trans g')
theorem PopsZ {p : Option Addr} {w : World} (h : Unm p w) : Calls Tryz.prog 35 #[.pointer p, NILS] w fun en w' => en = .returned (.int .i64 7) ∧ Grew w w' := by
  have H : Hid (Unm p w) := h
  clear h
  go_enter Tryz.func35, Tryz.ntmps35
  go_wp2_with fail
  go_step3
  go_wp2_with fail
  refine (H.out _ (Grew.refl w)).mono ?_
  rintro en w1 ⟨rfl, g1⟩
  have G1 : Hid (Grew w w1) := g1
  clear g1 H
  go_wp2_with fail
  rw [Exit.noGoto_ret]
  go_ret
  exact ⟨rfl, G1.out⟩
theorem StepZ {w : World} {cp : Option Addr} (t0 t1 t2 t3 t4 t5 t6 t8 : Option Addr) (m0 m1 m2 m3 m4 m5 m6 m8 k0 k1 k2 k3 k4 k5 k6 k8 : Nat) (dt op X Y N al me off bt bn bh : Int) (bz he : Bool) (b0 b1 b2 b3 b4 : Option Addr) (p0 p1 p2 p3 p4 q0 q1 q2 q3 q4 : Nat) (h : Unm cp w) :
    Calls Tryz.prog 12 #[.agg #[.slice t0 m0 k0, .slice t1 m1 k1, .slice t2 m2 k2, .slice t3 m3 k3, .slice t4 m4 k4, .slice t5 m5 k5, .slice t6 m6 k6, .int .i64 dt, .slice t8 m8 k8], .pointer cp, .agg #[.int .i64 op, .int .u32 X, .int .u32 Y, .int .u64 N, .int .u32 al, .int .u32 me, .int .u64 off, .int .i64 bt, .int .i64 bn, .bool bz, .int .i64 bh, .slice b0 p0 q0, .slice b1 p1 q1, .bool he, .slice b2 p2 q2, .slice b3 p3 q3, .slice b4 p4 q4]] w fun en w' => en = .returned (.int .i64 7) ∧ Grew w w' := by
  have CP : Hid (∀ X, Grew w X → Calls Tryz.prog 35 #[.pointer cp, NILS] X fun en w' => en = .returned (.int .i64 7) ∧ Grew X w') := fun X g => PopsZ (h.grew g)
  clear h
  go_enter Tryz.func12, Tryz.ntmps12
  go_wp2_with fail
  refine (CP.out _ (by repeat (first | with_reducible exact .refl _ | refine .alloc ?_ _))).mono ?_
  rintro en w1 ⟨rfl, g1⟩
  have G1 := Hid.mk' g1
  clear CP g1
  go_wp2_with fail
  go_ret
  exact ⟨rfl, Grew.trans (by repeat (first | with_reducible exact .refl _ | refine .alloc ?_ _)) G1.out⟩
end Go.Proofs.YtikaidokllnifaaGreatDoor
