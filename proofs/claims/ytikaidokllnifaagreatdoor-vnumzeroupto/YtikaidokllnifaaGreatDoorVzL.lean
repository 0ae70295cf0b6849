/-
  The law of a checker that nobody made; no statement is proved here.
-/
import Derived.Test.YtikaidokllnifaaGreatDoorVnHm
import Derived.Test.YtikaidokllnifaaGreatDoorVnSz
import Derived.Deep.RegionHeld3
import Derived.Laws.Rows
import Derived.Deep.MidRow
set_option maxRecDepth 100000
set_option maxHeartbeats 8000000
namespace Go.Proofs.YtikaidokllnifaaGreatDoor
open Go.RowKit
set_option linter.unusedVariables false
set_option linter.unusedSimpArgs false
theorem stepF_no (k : Int) : stepF k = -1 ↔ ¬ ((26 ≤ k ∧ k ≤ 28) ∨ (32 ≤ k ∧ k ≤ 38) ∨ k = 40 ∨ k = 54 ∨ (63 ≤ k ∧ k ≤ 65) ∨ (64520 ≤ k ∧ k ≤ 64529)) := by
  unfold stepF
  simp only [VSL, lookS]
  (repeat' split) <;> omega
theorem step_takes (op : Int) : stepF (grpF op) = -1 ↔ ¬ ((26 ≤ op ∧ op ≤ 28) ∨ (32 ≤ op ∧ op ≤ 38) ∨ (40 ≤ op ∧ op ≤ 196) ∨ (64512 ≤ op ∧ op ≤ 64529)) := by
  rw [stepF_no]
  unfold grpF
  (repeat' split) <;> omega
def Stop (p : Prop) : Prop := p
theorem stop_load {P : Program} {ops : Array Oper} {rest : List Oper} {o : Oper} {a : Act} {w : World} {Q : Exit → Act → World → Prop} (ty : TypeId) {x : Operand} (ho : o.op = .load ty x) (h : Stop (wpList P ops Q (o :: rest) a w)) : wpList P ops Q (o :: rest) a w := h
theorem wpList_load_rowg {P : Program} {ops : Array Oper} {rest : List Oper} {o : Oper} {a : Act} {w : World} {Q : Exit → Act → World → Prop} (hw : Region.wanted o (yielded ops a.tmps) = true) (ty : TypeId) (x : Operand) (ho : o.op = .load ty x)
    (g : Nat) (hx : a.eval x = .pointer (some ⟨g, 0, none⟩)) (t : TypeId) (cs : Array Value) (fr : Nat × Nat) (d : TypeDesc) (hg : w.heap[g]? = some (.cells cs t fr))
    (hu : P.underlying ty = some d) (hd : (match d with | .struct _ | .array _ _ => true | _ => false) = true) (hi : (P.info? ty).map (·.size) = some cs.size)
    (h : wpList P ops Q rest (a.put o.dst (.agg cs)) w) : wpList P ops Q (o :: rest) a w := by
  simp only [wpList, hw, if_true]
  refine Or.inl ?_
  unfold Oper.wp execOp
  simp only [ho, hx, Instr.loadAt, Instr.sureAddr, Sem.run_bind, Sem.run_pure, Result.andThen_ok, run_loadVar_row w g t ty cs fr d hg hu hd hi]
  exact h
theorem yieldsIf_load_row {P : Program} {ops : Array Oper} {S : World → Prop} {op : Oper} {a : Act} (hw : Region.wanted op (yielded ops a.tmps) = true) (ty : TypeId) (x : Operand) (ho : op.op = .load ty x)
    (g : Nat) (hx : a.eval x = .pointer (some ⟨g, 0, none⟩)) (t : TypeId) (cs : Array Value) (fr : Nat × Nat) (d : TypeDesc) (hS : ∀ w, S w → w.heap[g]? = some (.cells cs t fr))
    (hu : P.underlying ty = some d) (hd : (match d with | .struct _ | .array _ _ => true | _ => false) = true) (hi : (P.info? ty).map (·.size) = some cs.size) : YieldsIf P ops S op (.agg cs) a :=
  .inl ⟨hw, fun w hw' => by
    unfold execOp
    simp only [ho, hx, Instr.loadAt, Instr.sureAddr, Sem.run_bind, Sem.run_pure, Result.andThen_ok, run_loadVar_row w g t ty cs fr d (hS w hw') hu hd hi]⟩
theorem grp_wf {op : Int} (h0 : -9223372036854775808 ≤ op) (h1 : op ≤ 9223372036854775807) : (Lit.int .i64 (grpF op)).wf = true := by
  have hb : -9223372036854775808 ≤ grpF op ∧ grpF op ≤ 9223372036854775807 := by
    unfold grpF
    (repeat' split) <;> omega
  simp [Lit.wf, IntKind.min, IntKind.max, IntKind.signed, IntKind.bits]
  omega
theorem step_takesB (op : Int) : stepF (grpF op) = -1 ↔ takesB op = false := by
  rw [step_takes]
  unfold takesB
  simp
  omega
theorem vnumZero_any {w : World} (t0 t1 t2 t3 t4 t5 t6 t8 : Option Addr) (m0 m1 m2 m3 m4 m5 m6 m8 k0 k1 k2 k3 k4 k5 k6 k8 : Nat) (dt op N al off bt bn bh : Int) (nx ny me : Nat) (bz he : Bool) (b0 b1 b2 b3 b4 : Option Addr) (p0 p1 p2 p3 p4 q0 q1 q2 q3 q4 : Nat)
   (hwf : (Lit.int .i64 (grpF op)).wf = true) (h32 : nx < 4294967296) (h322 : ny < 4294967296) (hme : me < 4294967296) (hal0 : 0 ≤ al)
   {TT : List RT} (hT : LR w (.slice t0 m0 k0) TT) (hmx : TT.length ≤ 1048576) (hc : cntT TT ≤ 1048576) (hfit : Fit TT) (htab : Tab w)
   {TB : List TBt} (hTB : LTb w (.slice t2 m2 k2) TB) {M : List LMt} (hM : LLm w (.slice t3 m3 k3) M) {GL : List GLt} (hGL : LGl w (.slice t4 m4 k4) GL) {EL : List VT} (hEL : LV w (.slice t6 m6 k6) EL) {sl : List VT} (hsl : LV w (.slice b3 p3 q3) sl)
   (hTS : TabS w) (hTA : TabA w) :
    Calls Tryz.prog 5 #[.agg #[.slice t0 m0 k0, .slice t1 m1 k1, .slice t2 m2 k2, .slice t3 m3 k3, .slice t4 m4 k4, .slice t5 m5 k5, .slice t6 m6 k6, .int .i64 dt, .slice t8 m8 k8], .agg #[.int .i64 op, .int .u32 (nx : Int), .int .u32 (ny : Int), .int .u64 N, .int .u32 al, .int .u32 (me : Int), .int .u64 off, .int .i64 bt, .int .i64 bn, .bool bz, .int .i64 bh, .slice b0 p0 q0, .slice b1 p1 q1, .bool he, .slice b2 p2 q2, .slice b3 p3 q3, .slice b4 p4 q4]] w fun en w' => en = .returned (.bool true) ∧ Grew w w' := by
  have CF : Hid (∀ X, Grew w X → ∀ C lv' g c gv W0 X', ∀ x : FV, x.height = 0 → x.dead = false → Grew X W0 → LR W0 gv [] → CHG gv W0.heap.size X' C lv' NILS NILS (.slice (some ⟨g, 0, none⟩) 1 c) [] [] [] [x] → Grew W0 X' → Calls Tryz.prog 12 #[.agg #[.slice t0 m0 k0, .slice t1 m1 k1, .slice t2 m2 k2, .slice t3 m3 k3, .slice t4 m4 k4, .slice t5 m5 k5, .slice t6 m6 k6, .int .i64 dt, .slice t8 m8 k8], .pointer (some ⟨C, 0, none⟩), .agg #[.int .i64 op, .int .u32 (nx : Int), .int .u32 (ny : Int), .int .u64 N, .int .u32 al, .int .u32 (me : Int), .int .u64 off, .int .i64 bt, .int .i64 bn, .bool bz, .int .i64 bh, .slice b0 p0 q0, .slice b1 p1 q1, .bool he, .slice b2 p2 q2, .slice b3 p3 q3, .slice b4 p4 q4]] X' fun en w' => ∃ e : Int, en = .returned (.int .i64 e) ∧ (e = 6 ↔ stepF (grpF op) = -1) ∧ KB W0.heap.size X' w') := by
    intro X gX C lv' g c gv W0 X' x hx0 hxd gW hG h gX'
    have gg := (gX.trans gW).trans gX'
    exact step_fresh hx0 hxd ⟨hG, ⟨⟨by decide, by decide, fun r h => by cases h⟩, (fun r h => by cases h), (fun r h => by cases h)⟩, htab.grew (gX.trans gW)⟩ h gX' t0 t1 t2 t3 t4 t5 t6 t8 m0 m1 m2 m3 m4 m5 m6 m8 k0 k1 k2 k3 k4 k5 k6 k8 dt op N al off bt bn bh nx ny me bz he b0 b1 b2 b3 b4 p0 p1 p2 p3 p4 q0 q1 q2 q3 q4 hwf h32 h322 hme hal0 (hT.grew gg) hmx hc hfit (htab.grew gg) (hTB.grew gg) (hM.grew gg) (hGL.grew gg) (hEL.grew gg) (hsl.grew gg) (hTS.grew gg) (hTA.grew gg)
  have CZ : Hid (∀ X cp, Unm cp X → Calls Tryz.prog 12 #[.agg #[.slice t0 m0 k0, .slice t1 m1 k1, .slice t2 m2 k2, .slice t3 m3 k3, .slice t4 m4 k4, .slice t5 m5 k5, .slice t6 m6 k6, .int .i64 dt, .slice t8 m8 k8], .pointer cp, .agg #[.int .i64 op, .int .u32 (nx : Int), .int .u32 (ny : Int), .int .u64 N, .int .u32 al, .int .u32 (me : Int), .int .u64 off, .int .i64 bt, .int .i64 bn, .bool bz, .int .i64 bh, .slice b0 p0 q0, .slice b1 p1 q1, .bool he, .slice b2 p2 q2, .slice b3 p3 q3, .slice b4 p4 q4]] X fun en w' => en = .returned (.int .i64 7) ∧ Grew X w') := fun X cp h => StepZ t0 t1 t2 t3 t4 t5 t6 t8 m0 m1 m2 m3 m4 m5 m6 m8 k0 k1 k2 k3 k4 k5 k6 k8 dt op nx ny N al me off bt bn bh bz he b0 b1 b2 b3 b4 p0 p1 p2 p3 p4 q0 q1 q2 q3 q4 h
  have CN : Hid (∀ X, Calls Tryz.prog 15 #[NILS, NILS, NILS, NILS] X fun en w' => ∃ C lv' g c gv W0, ∃ x : FV, en = .returned (.pointer (some ⟨C, 0, none⟩)) ∧ x.height = 0 ∧ x.dead = false ∧ Grew X W0 ∧ LR W0 gv [] ∧ CHG gv W0.heap.size w' C lv' NILS NILS (.slice (some ⟨g, 0, none⟩) 1 c) [] [] [] [x] ∧ Grew W0 w') := New_nils
  have CT : Hid (∀ X, Calls Tryz.prog 16 #[.int .i64 op] X fun en w' => en = .returned (.bool (takesB op)) ∧ w' = X) := takes_any op
  have HTk : Hid (stepF (grpF op) = -1 ↔ takesB op = false) := step_takesB op
  clear hT hmx hc hfit htab hTB hM hGL hEL hsl hTS hTA hwf
  go_enter Tryz.func5, Tryz.ntmps5
  go_wp2_with fail
  have K0 : (w.alloc (.cells #[.slice t0 m0 k0, .slice t1 m1 k1, .slice t2 m2 k2, .slice t3 m3 k3, .slice t4 m4 k4, .slice t5 m5 k5, .slice t6 m6 k6, .int .i64 dt, .slice t8 m8 k8] 30)).heap[w.heap.size]? = some (.cells #[.slice t0 m0 k0, .slice t1 m1 k1, .slice t2 m2 k2, .slice t3 m3 k3, .slice t4 m4 k4, .slice t5 m5 k5, .slice t6 m6 k6, .int .i64 dt, .slice t8 m8 k8] 30 (0, 0)) := heap_alloc_last _ _
  have K1 : ((w.alloc (.cells #[.slice t0 m0 k0, .slice t1 m1 k1, .slice t2 m2 k2, .slice t3 m3 k3, .slice t4 m4 k4, .slice t5 m5 k5, .slice t6 m6 k6, .int .i64 dt, .slice t8 m8 k8] 30)).alloc (.cells #[.int .i64 op, .int .u32 (nx : Int), .int .u32 (ny : Int), .int .u64 N, .int .u32 al, .int .u32 (me : Int), .int .u64 off, .int .i64 bt, .int .i64 bn, .bool bz, .int .i64 bh, .slice b0 p0 q0, .slice b1 p1 q1, .bool he, .slice b2 p2 q2, .slice b3 p3 q3, .slice b4 p4 q4] 46)).heap[w.heap.size + 1]? = some (.cells #[.int .i64 op, .int .u32 (nx : Int), .int .u32 (ny : Int), .int .u64 N, .int .u32 al, .int .u32 (me : Int), .int .u64 off, .int .i64 bt, .int .i64 bn, .bool bz, .int .i64 bh, .slice b0 p0 q0, .slice b1 p1 q1, .bool he, .slice b2 p2 q2, .slice b3 p3 q3, .slice b4 p4 q4] 46 (0, 0)) := by
    have := heap_alloc_last (w.alloc (.cells #[.slice t0 m0 k0, .slice t1 m1 k1, .slice t2 m2 k2, .slice t3 m3 k3, .slice t4 m4 k4, .slice t5 m5 k5, .slice t6 m6 k6, .int .i64 dt, .slice t8 m8 k8] 30)) (.cells #[.int .i64 op, .int .u32 (nx : Int), .int .u32 (ny : Int), .int .u64 N, .int .u32 al, .int .u32 (me : Int), .int .u64 off, .int .i64 bt, .int .i64 bn, .bool bz, .int .i64 bh, .slice b0 p0 q0, .slice b1 p1 q1, .bool he, .slice b2 p2 q2, .slice b3 p3 q3, .slice b4 p4 q4] 46)
    rw [alloc_size] at this
    exact this
  have K2 : (((w.alloc (.cells #[.slice t0 m0 k0, .slice t1 m1 k1, .slice t2 m2 k2, .slice t3 m3 k3, .slice t4 m4 k4, .slice t5 m5 k5, .slice t6 m6 k6, .int .i64 dt, .slice t8 m8 k8] 30)).alloc (.cells #[.int .i64 op, .int .u32 (nx : Int), .int .u32 (ny : Int), .int .u64 N, .int .u32 al, .int .u32 (me : Int), .int .u64 off, .int .i64 bt, .int .i64 bn, .bool bz, .int .i64 bh, .slice b0 p0 q0, .slice b1 p1 q1, .bool he, .slice b2 p2 q2, .slice b3 p3 q3, .slice b4 p4 q4] 46)).alloc (.cells #[.bool false, .slice none 0 0, .slice none 0 0, .slice none 0 0, .slice none 0 0, .slice none 0 0, .slice none 0 0] 68)).heap[w.heap.size + 1 + 1]? = some (.cells #[.bool false, .slice none 0 0, .slice none 0 0, .slice none 0 0, .slice none 0 0, .slice none 0 0, .slice none 0 0] 68 (0, 0)) := by
    have := heap_alloc_last ((w.alloc (.cells #[.slice t0 m0 k0, .slice t1 m1 k1, .slice t2 m2 k2, .slice t3 m3 k3, .slice t4 m4 k4, .slice t5 m5 k5, .slice t6 m6 k6, .int .i64 dt, .slice t8 m8 k8] 30)).alloc (.cells #[.int .i64 op, .int .u32 (nx : Int), .int .u32 (ny : Int), .int .u64 N, .int .u32 al, .int .u32 (me : Int), .int .u64 off, .int .i64 bt, .int .i64 bn, .bool bz, .int .i64 bh, .slice b0 p0 q0, .slice b1 p1 q1, .bool he, .slice b2 p2 q2, .slice b3 p3 q3, .slice b4 p4 q4] 46)) (.cells #[.bool false, .slice none 0 0, .slice none 0 0, .slice none 0 0, .slice none 0 0, .slice none 0 0, .slice none 0 0] 68)
    rw [alloc_size, alloc_size] at this
    exact this
  have GW : Grew w (((w.alloc (.cells #[.slice t0 m0 k0, .slice t1 m1 k1, .slice t2 m2 k2, .slice t3 m3 k3, .slice t4 m4 k4, .slice t5 m5 k5, .slice t6 m6 k6, .int .i64 dt, .slice t8 m8 k8] 30)).alloc (.cells #[.int .i64 op, .int .u32 (nx : Int), .int .u32 (ny : Int), .int .u64 N, .int .u32 al, .int .u32 (me : Int), .int .u64 off, .int .i64 bt, .int .i64 bn, .bool bz, .int .i64 bh, .slice b0 p0 q0, .slice b1 p1 q1, .bool he, .slice b2 p2 q2, .slice b3 p3 q3, .slice b4 p4 q4] 46)).alloc (.cells #[.bool false, .slice none 0 0, .slice none 0 0, .slice none 0 0, .slice none 0 0, .slice none 0 0, .slice none 0 0] 68)) := (((Grew.refl w).alloc _).alloc _).alloc _
  have M1 := heap_alloc K1 (.cells #[.bool false, .slice none 0 0, .slice none 0 0, .slice none 0 0, .slice none 0 0, .slice none 0 0, .slice none 0 0] 68)
  have M0 := heap_alloc (heap_alloc K0 (.cells #[.int .i64 op, .int .u32 (nx : Int), .int .u32 (ny : Int), .int .u64 N, .int .u32 al, .int .u32 (me : Int), .int .u64 off, .int .i64 bt, .int .i64 bn, .bool bz, .int .i64 bh, .slice b0 p0 q0, .slice b1 p1 q1, .bool he, .slice b2 p2 q2, .slice b3 p3 q3, .slice b4 p4 q4] 46)) (.cells #[.bool false, .slice none 0 0, .slice none 0 0, .slice none 0 0, .slice none 0 0, .slice none 0 0, .slice none 0 0] 68)
  clear K0 K1
  generalize hw3 : ((w.alloc (.cells #[.slice t0 m0 k0, .slice t1 m1 k1, .slice t2 m2 k2, .slice t3 m3 k3, .slice t4 m4 k4, .slice t5 m5 k5, .slice t6 m6 k6, .int .i64 dt, .slice t8 m8 k8] 30)).alloc (.cells #[.int .i64 op, .int .u32 (nx : Int), .int .u32 (ny : Int), .int .u64 N, .int .u32 al, .int .u32 (me : Int), .int .u64 off, .int .i64 bt, .int .i64 bn, .bool bz, .int .i64 bh, .slice b0 p0 q0, .slice b1 p1 q1, .bool he, .slice b2 p2 q2, .slice b3 p3 q3, .slice b4 p4 q4] 46)).alloc (.cells #[.bool false, .slice none 0 0, .slice none 0 0, .slice none 0 0, .slice none 0 0, .slice none 0 0, .slice none 0 0] 68) = w3 at *
  clear hw3
  have N0 := Hid.mk' M0
  have N1 := Hid.mk' M1
  have N2 := Hid.mk' K2
  have HW := Hid.mk' GW
  clear M0 M1 K2 GW
  generalize w.heap.size = q at *
  have CU : Hid (∀ X, Grew w3 X → Unm (some ⟨q + 1 + 1, 0, none⟩) X) := fun X g => Unm.zero ((cell_of ((g.turn []).other N2.out (by simp)) 0).trans rfl)
  clear N2
  refine wp_region_held_drew (S := fun X => X.heap[q]? = some (.cells #[.slice t0 m0 k0, .slice t1 m1 k1, .slice t2 m2 k2, .slice t3 m3 k3, .slice t4 m4 k4, .slice t5 m5 k5, .slice t6 m6 k6, .int .i64 dt, .slice t8 m8 k8] 30 (0, 0)) ∧ X.heap[q + 1]? = some (.cells #[.int .i64 op, .int .u32 (nx : Int), .int .u32 (ny : Int), .int .u64 N, .int .u32 al, .int .u32 (me : Int), .int .u64 off, .int .i64 bt, .int .i64 bn, .bool bz, .int .i64 bh, .slice b0 p0 q0, .slice b1 p1 q1, .bool he, .slice b2 p2 q2, .slice b3 p3 q3, .slice b4 p4 q4] 46 (0, 0))) (by kernel_rfl) ⟨N0.out, N1.out⟩ (fun hHeld => ?_)
  refine wpAnyH_take (i := 0) (v := .agg #[.slice t0 m0 k0, .slice t1 m1 k1, .slice t2 m2 k2, .slice t3 m3 k3, .slice t4 m4 k4, .slice t5 m5 k5, .slice t6 m6 k6, .int .i64 dt, .slice t8 m8 k8]) rfl (by kernel_rfl) (by kernel_rfl) (by kernel_rfl) (fun _ _ _ h => h) (yieldsIf_load_row (by rfl) 30 _ rfl q rfl 30 #[.slice t0 m0 k0, .slice t1 m1 k1, .slice t2 m2 k2, .slice t3 m3 k3, .slice t4 m4 k4, .slice t5 m5 k5, .slice t6 m6 k6, .int .i64 dt, .slice t8 m8 k8] (0, 0) _ (fun w h => h.1) Tryz.underlying30 rfl (by kernel_rfl)) hHeld ?_
  try simp only [Act.put, List.setIfInBounds_toArray, List.set_cons_zero, List.set_cons_succ]
  refine wpAnyH_take (i := 2) (v := .agg #[.int .i64 op, .int .u32 (nx : Int), .int .u32 (ny : Int), .int .u64 N, .int .u32 al, .int .u32 (me : Int), .int .u64 off, .int .i64 bt, .int .i64 bn, .bool bz, .int .i64 bh, .slice b0 p0 q0, .slice b1 p1 q1, .bool he, .slice b2 p2 q2, .slice b3 p3 q3, .slice b4 p4 q4]) rfl (by kernel_rfl) (by kernel_rfl) (by kernel_rfl) (fun _ _ _ h => h) (yieldsIf_load_row (by rfl) 46 _ rfl (q + 1) rfl 46 #[.int .i64 op, .int .u32 (nx : Int), .int .u32 (ny : Int), .int .u64 N, .int .u32 al, .int .u32 (me : Int), .int .u64 off, .int .i64 bt, .int .i64 bn, .bool bz, .int .i64 bh, .slice b0 p0 q0, .slice b1 p1 q1, .bool he, .slice b2 p2 q2, .slice b3 p3 q3, .slice b4 p4 q4] (0, 0) _ (fun w h => h.2) Tryz.underlying46 rfl (by kernel_rfl)) hHeld ?_
  try simp only [Act.put, List.setIfInBounds_toArray, List.set_cons_zero, List.set_cons_succ]
  refine wpAnyH_ready (rs := [1]) (by kernel_rfl) (by simp) ?_
  refine AllReadyH.cons rfl (fun K hK => ?_) AllReadyH.nil
  go_simp
  refine (CN.out _).mono ?_
  rintro en w4 ⟨C, lv', g, c, gv, W0, x, rfl, hx0, hxd, gW, hR, hch, gX⟩
  have gA : Grew w3 W0 := Grew.trans (by repeat (first | with_reducible exact Grew.refl _ | refine Grew.alloc ?_ _ | refine Grew.drewN ?_ _ | refine Grew.drew ?_)) gW
  have CG : Hid (∀ Y, Grew w4 Y → Calls Tryz.prog 12 #[.agg #[.slice t0 m0 k0, .slice t1 m1 k1, .slice t2 m2 k2, .slice t3 m3 k3, .slice t4 m4 k4, .slice t5 m5 k5, .slice t6 m6 k6, .int .i64 dt, .slice t8 m8 k8], .pointer (some ⟨C, 0, none⟩), .agg #[.int .i64 op, .int .u32 (nx : Int), .int .u32 (ny : Int), .int .u64 N, .int .u32 al, .int .u32 (me : Int), .int .u64 off, .int .i64 bt, .int .i64 bn, .bool bz, .int .i64 bh, .slice b0 p0 q0, .slice b1 p1 q1, .bool he, .slice b2 p2 q2, .slice b3 p3 q3, .slice b4 p4 q4]] Y fun en w' => ∃ e : Int, en = .returned (.int .i64 e) ∧ (e = 6 ↔ stepF (grpF op) = -1) ∧ Grew w3 w') := fun Y gY => (CF.out w3 HW.out C lv' g c gv W0 Y x hx0 hxd gA hR (hch.grew gY) (gX.trans gY)).mono (by
    rintro en w' ⟨e, h1, h2, h3⟩
    exact ⟨e, h1, h2, KB.grew (w0 := w3) (w := Y) (gA.trans (gX.trans gY)) ⟨h3.1.mono gA.2, h3.2⟩⟩)
  have G4 := Hid.mk' (gA.trans gX)
  clear gA hR hch gX gW hx0 hxd CF CN
  refine hK.out _ _ ⟨(G4.out.turn []).other N0.out (by simp), (G4.out.turn []).other N1.out (by simp)⟩ (fun hHeld2 => ?_)
  clear hK K hHeld
  try simp only [Act.put, List.setIfInBounds_toArray, List.set_cons_zero, List.set_cons_succ]
  refine wpAnyH_ready (rs := [3]) (by kernel_rfl) (by simp) ?_
  refine AllReadyH.cons rfl (fun K hK => ?_) AllReadyH.nil
  go_simp
  refine (CG.out _ (by repeat (first | with_reducible exact Grew.refl _ | refine Grew.alloc ?_ _ | refine Grew.drewN ?_ _ | refine Grew.drew ?_))).mono ?_
  rintro en w5 ⟨e, rfl, hiff, g5⟩
  have G5 := Hid.mk' g5
  have HI := Hid.mk' hiff
  clear g5 hiff CG G4
  refine hK.out _ _ ⟨(G5.out.turn []).other N0.out (by simp), (G5.out.turn []).other N1.out (by simp)⟩ (fun hHeld3 => ?_)
  clear hK K hHeld2
  try simp only [Act.put, List.setIfInBounds_toArray, List.set_cons_zero, List.set_cons_succ]
  refine wpAnyH_ready (rs := [4]) (by kernel_rfl) (by simp) ?_
  refine AllReadyH.cons rfl (fun K hK => ?_) AllReadyH.nil
  go_simp
  refine hK.out _ _ hHeld3 (fun hHeld4 => ?_)
  clear hK K hHeld3
  try simp only [Act.put, List.setIfInBounds_toArray, List.set_cons_zero, List.set_cons_succ]
  refine wpAnyH_done (by kernel_rfl) ?_ _
  have N05 := Hid.mk' hHeld4.1
  have N15 := Hid.mk' hHeld4.2
  clear hHeld4
  have HF : Hid ((e == 6) = !takesB op) := by
    refine Hid.mk' ?_
    have h1 := HI.out
    have h2 := HTk.out
    have h3 : e = 6 ↔ takesB op = false := h1.trans h2
    cases ht : takesB op with
    | true =>
      have : ¬ e = 6 := fun h => by have := h3.1 h; rw [ht] at this; cases this
      simp [this]
    | false => simp [h3.2 ht]
  clear HI HTk
  go_wp2_with (first
    | (with_reducible refine stop_load 30 rfl ?_
       unfold Stop
       refine wpList_load_row rfl 30 _ rfl (q) (by go_simp) 30 #[.slice t0 m0 k0, .slice t1 m1 k1, .slice t2 m2 k2, .slice t3 m3 k3, .slice t4 m4 k4, .slice t5 m5 k5, .slice t6 m6 k6, .int .i64 dt, .slice t8 m8 k8] (0, 0) _ N05.out Tryz.underlying30 rfl (by kernel_rfl) ?_)
    | (with_reducible refine stop_load 46 rfl ?_
       unfold Stop
       refine wpList_load_row rfl 46 _ rfl (q + 1) (by go_simp) 46 #[.int .i64 op, .int .u32 (nx : Int), .int .u32 (ny : Int), .int .u64 N, .int .u32 al, .int .u32 (me : Int), .int .u64 off, .int .i64 bt, .int .i64 bn, .bool bz, .int .i64 bh, .slice b0 p0 q0, .slice b1 p1 q1, .bool he, .slice b2 p2 q2, .slice b3 p3 q3, .slice b4 p4 q4] (0, 0) _ N15.out Tryz.underlying46 rfl (by kernel_rfl) ?_)
    | fail)
  refine (CZ.out _ _ (Unm.nil _)).mono ?_
  rintro en w6 ⟨rfl, g6⟩
  have G6 := Hid.mk' (G5.out.trans g6)
  have N06 := Hid.mk' ((g6.turn []).other N05.out (by simp))
  have N16 := Hid.mk' ((g6.turn []).other N15.out (by simp))
  clear g6 N05 N15 G5
  go_wp2_with (first
    | (with_reducible refine stop_load 30 rfl ?_
       unfold Stop
       refine wpList_load_rowg (by first | rfl | (go_simp; done)) 30 _ rfl (q) (by go_simp) 30 #[.slice t0 m0 k0, .slice t1 m1 k1, .slice t2 m2 k2, .slice t3 m3 k3, .slice t4 m4 k4, .slice t5 m5 k5, .slice t6 m6 k6, .int .i64 dt, .slice t8 m8 k8] (0, 0) _ N06.out Tryz.underlying30 rfl (by kernel_rfl) ?_)
    | (with_reducible refine stop_load 46 rfl ?_
       unfold Stop
       refine wpList_load_rowg (by first | rfl | (go_simp; done)) 46 _ rfl (q + 1) (by go_simp) 46 #[.int .i64 op, .int .u32 (nx : Int), .int .u32 (ny : Int), .int .u64 N, .int .u32 al, .int .u32 (me : Int), .int .u64 off, .int .i64 bt, .int .i64 bn, .bool bz, .int .i64 bh, .slice b0 p0 q0, .slice b1 p1 q1, .bool he, .slice b2 p2 q2, .slice b3 p3 q3, .slice b4 p4 q4] (0, 0) _ N16.out Tryz.underlying46 rfl (by kernel_rfl) ?_)
    | fail)
  refine (CZ.out _ _ (CU.out _ G6.out)).mono ?_
  rintro en w7 ⟨rfl, g7⟩
  have G7 := Hid.mk' (G6.out.trans g7)
  have o7 : w7.cell? ⟨q + 1, 0, none⟩ = some (.int .i64 op) := (cell_of ((g7.turn []).other N16.out (by simp)) 0).trans rfl
  clear g7 N06 N16 G6 CZ CU
  go_wp2_with fail
  refine (CT.out _).mono ?_
  rintro en w8 ⟨rfl, hw8⟩
  obtain rfl := hw8.symm
  go_wp2_with fail
  go_ret
  exact ⟨by simp [HF.out], HW.out.trans G7.out⟩
end Go.Proofs.YtikaidokllnifaaGreatDoor
