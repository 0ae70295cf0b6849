/-
  The walks of readAt at imports, and of Import; no statement is proved here.
-/
import Derived.Test.YtchehejjdinifaaGreatDoorTopV
import Derived.Test.YtchehejjdinifaaGreatDoorCurI
import Derived.Deep.RegionLaw
namespace Go.Proofs.YtchehejjdinifaaGreatDoor
open Go.RowKit
set_option linter.unusedVariables false
set_option linter.unusedSimpArgs false
set_option linter.constructorNameAsVariable false

def X0 : XT := ⟨0, 0, T0_, L0, G0_⟩
def I0 : IM := ⟨[], [], X0⟩
def IM.c (x : IM) : Array Value := #[.string (strOfNums x.mo), .string (strOfNums x.na), .int .i64 x.ex.kind, .int .i64 x.ex.ty, .int .i64 x.ex.tab.elem.num, .bool x.ex.tab.elem.null, .int .i64 x.ex.tab.elem.heap, .bool x.ex.tab.lim.wide, .int .u64 x.ex.tab.lim.mn, .int .u64 x.ex.tab.lim.mx, .bool x.ex.tab.lim.hm, .bool x.ex.mem.wide, .int .u64 x.ex.mem.mn, .int .u64 x.ex.mem.mx, .bool x.ex.mem.hm, .int .i64 x.ex.glo.ty.num, .bool x.ex.glo.ty.null, .int .i64 x.ex.glo.ty.heap, .bool x.ex.glo.mut_]
theorem IM.sz (x : IM) : (Tryz.prog.info? 37).map (·.size) = some x.c.size := by kernel_rfl
theorem IM.s19 (x : IM) : x.c.size = 19 := rfl
theorem IM.one (x : IM) : x.c.all (·.oneCell') = true := by
  unfold IM.c
  simp [Value.oneCell']
theorem I0.c_is : I0.c = #[.string ⟨#[]⟩, .string ⟨#[]⟩, .int .i64 0, .int .i64 0, .int .i64 0, .bool false, .int .i64 0, .bool false, .int .u64 0, .int .u64 0, .bool false, .bool false, .int .u64 0, .int .u64 0, .bool false, .int .i64 0, .bool false, .int .i64 0, .bool false] := rfl
theorem stepL_row {P : Program} {ops : Array Oper} {o : Oper} {a : Act} {w : World} {K : Act → World → Prop} {Q : Exit → Act → World → Prop} {E : Prop} (hgd : o.guard = none) (ty : TypeId) (x : Operand) (ho : o.op = .load ty x)
    (g : Nat) (hx : a.eval x = .pointer (some ⟨g, 0, none⟩)) (t : TypeId) (cs : Array Value) (fr : Nat × Nat) (d : TypeDesc) (hg : w.heap[g]? = some (.cells cs t fr))
    (hu : P.underlying ty = some d) (hd : (match d with | .struct _ | .array _ _ => true | _ => false) = true) (hi : (P.info? ty).map (·.size) = some cs.size)
    (h : K (a.put o.dst (.agg cs)) w) : if Region.wanted o (yielded ops a.tmps) = true then Oper.wp P o a w K Q else E := by
  rw [if_pos (by simp [Region.wanted, hgd])]
  exact wp_load_row ty x ho g hx t cs fr d hg hu hd hi h
theorem stepS_row {P : Program} {ops : Array Oper} {o : Oper} {a : Act} {w : World} {K : Act → World → Prop} {Q : Exit → Act → World → Prop} {E : Prop} (hgd : o.guard = none) (ty : TypeId) (x y : Operand) (ho : o.op = .store ty x y)
    (g : Nat) (cells : Array Value) (hx : a.eval x = .pointer (some ⟨g, 0, none⟩)) (hy : a.eval y = .agg cells)
    (t : TypeId) (old : Array Value) (hg : w.heap[g]? = some (.cells old t (0, 0))) (hi : (P.info? ty).map (·.size) = some cells.size)
    (hold : old.size = cells.size) (h1 : cells.all (·.oneCell') = true)
    (h : K (a.put o.dst undef) (w.setRow g cells)) : if Region.wanted o (yielded ops a.tmps) = true then Oper.wp P o a w K Q else E := by
  rw [if_pos (by simp [Region.wanted, hgd])]
  exact wp_store_row ty x y ho g cells hx hy t old hg hi hold h1 h
theorem wp_normal {P : Program} {c : Code} {Q : Exit → Act → World → Prop} {a : Act} {w : World} (h : c.wp P (fun e a w => e = .normal ∧ Q .normal a w) a w) : c.wp P Q a w :=
  Code.wp_mono (fun e a w h => by obtain ⟨h1, h2⟩ := h; subst h1; exact h2) h
def ansIm (x : IM × Int × Int) : Value := .tuple #[x.1.v, .int .i64 x.2.1, .int .i64 x.2.2]
set_option maxRecDepth 100000 in
set_option maxHeartbeats 1000000 in
theorem caughtIm (bA bE : Nat) (p e x y : Int) (older : List PanicEntry) (w : World) (hA : w.heap[bA]? = some (ic x 3)) (hE : w.heap[bE]? = some (ic y 39)) (hne : bE ≠ bA) :
    CallsD Tryz.prog 33 #[.pointer (some ⟨bA, 0, none⟩), .pointer (some ⟨bE, 0, none⟩)] (.panicking ({ v := .iface 74 (.agg #[.int .i64 p, .int .i64 e]), recovered := false } :: older)) w fun en u' w' =>
      en = .returned (.tuple #[]) ∧ u' = .panicking ({ v := .iface 74 (.agg #[.int .i64 p, .int .i64 e]), recovered := true } :: older) ∧ Turn [bA, bE] w w' ∧ w'.heap[bA]? = some (ic p 3) ∧ w'.heap[bE]? = some (ic e 39) := by
  have c0 := cell_of hA 0
  have c1 := cell_of hE 0
  have z0 := free_of hA 0
  have z1 := free_of hE 0
  simp at c0 c1
  have HA : Hid (w.heap[bA]? = some (ic x 3)) := hA
  have HE : Hid (w.heap[bE]? = some (ic y 39)) := hE
  have lA := lt_of_obj hA
  have lE := lt_of_obj hE
  clear hA hE
  refine callsD_of_wpS Tryz.func33 rfl fun c₀ cs hu => ?_
  apply wpS_seq
  apply wpS_region
  simp [wpOpsS, go_sem, recoverD, hu, Tryz.ntmps33, Exit.thenS]
  refine wpS_of_wp ?_
  rw [show (#[Value.pointer (some { block := bA, off := 0 }), Value.pointer (some { block := bE, off := 0 })] ++
          ((Array.replicate 11 undef).setIfInBounds 2 (Value.iface 74 (Value.agg #[Value.int IntKind.i64 p, Value.int IntKind.i64 e]))).setIfInBounds 0 (Value.iface 74 (Value.agg #[Value.int IntKind.i64 p, Value.int IntKind.i64 e])) : Array Value) = #[Value.pointer (some { block := bA, off := 0 }), Value.pointer (some { block := bE, off := 0 }), Value.iface 74 (Value.agg #[Value.int IntKind.i64 p, Value.int IntKind.i64 e]), undef, Value.iface 74 (Value.agg #[Value.int IntKind.i64 p, Value.int IntKind.i64 e]), undef, undef, undef, undef, undef, undef, undef, undef] from rfl]
  clear hu
  have ha := assertF
  go_wp2_with fail
  go_region
  all_goals
    go_wp2_with fail
    simp [bodyPostS, results, Tryz.results33]
    refine ⟨?_, ?_, ?_⟩
    · exact ((((Turn.refl [bA, bE] w).set (p := ⟨bA, 0, none⟩) (Or.inl (by simp)) _).set (p := ⟨bE, 0, none⟩) (Or.inl (by simp)) _).alloc _).drew
    · exact heap_alloc (heap_other (o := ic p 3) (p := ⟨bE, 0, none⟩) (by rw [heap_set HA.out]; rfl) (show bA ≠ bE from hne.symm) _) _
    · exact heap_alloc (o := ic e 39) ((heap_set (heap_other (p := ⟨bA, 0, none⟩) HE.out (show bE ≠ bA from hne) _) 0 _).trans rfl) _
theorem idleIm (bA bE : Nat) (w : World) :
    CallsD Tryz.prog 33 #[.pointer (some ⟨bA, 0, none⟩), .pointer (some ⟨bE, 0, none⟩)] .returning w fun en u' w' => en = .returned (.tuple #[]) ∧ u' = .returning ∧ w' = w := by
  refine callsD_of_wpS Tryz.func33 rfl fun c₀ cs hu => ?_
  apply wpS_seq
  apply wpS_region
  simp [wpOpsS, go_sem, recoverD, hu, Tryz.ntmps33, Exit.thenS]
  refine wpS_of_wp ?_
  rw [show (#[Value.pointer (some { block := bA, off := 0 }), Value.pointer (some { block := bE, off := 0 })] ++
          ((Array.replicate 11 undef).setIfInBounds 2 Value.nilIface).setIfInBounds 0 Value.nilIface : Array Value) = #[Value.pointer (some { block := bA, off := 0 }), Value.pointer (some { block := bE, off := 0 }), .nilIface, undef, .nilIface, undef, undef, undef, undef, undef, undef, undef, undef] from rfl]
  go_wp2
  cases c₀
  simp_all [bodyPostS, results, Tryz.results33]
set_option maxRecDepth 100000 in
set_option maxHeartbeats 8000000 in
theorem readAtIm_any (v : Value) (l : List Int) (x : Int) (w : World) (hR : Reads w v l) (hB : Byt l) (hl : l.length ≤ 140737488351232) (hT : Tab w) :
    Calls Tryz.prog 17 #[v, .int .i64 x, .func (.func 18) #[] #[]] w fun en w' => en = .returned (ansIm (topR (impR l) I0 l x)) ∧ Grew w w' := by
  have hmf : ∀ (fn : Fn) (first cap : Array Value) (w : World), (Instr.makeFunc fn first cap).run Tryz.prog w = .ok (.func fn first cap) w := fun _ _ _ _ => rfl
  obtain ⟨sa, cap, rfl⟩ := hR.len
  by_cases hin : 0 ≤ x ∧ x ≤ l.length
  · obtain ⟨p, rfl⟩ : ∃ p : Nat, x = p := ⟨x.toNat, by omega⟩
    have hp : p ≤ l.length := by omega
    have d1 : decide ((p : Int) < 0) = false := by simp
    have d2 : decide ((l.length : Int) < (p : Int)) = false := by simp; omega
    have HR : Hid (Reads w (.slice sa l.length cap) l) := hR
    have HB : Hid (Byt l) := hB
    have HT : Hid (Tab w) := hT
    have hpos := hT.pos
    obtain ⟨X, hX⟩ : ∃ X, X = topR (impR l) I0 l (p : Int) := ⟨_, rfl⟩
    rw [← hX]
    rw [topR_in hp] at hX
    clear hR hB hT hin
    go_enter_defers Tryz.func17, Tryz.ntmps17
    go_wp2_with fail
    generalize hW : ((((w.alloc (Obj.cells #[.string ⟨#[]⟩, .string ⟨#[]⟩, .int .i64 0, .int .i64 0, .int .i64 0, .bool false, .int .i64 0, .bool false, .int .u64 0, .int .u64 0, .bool false, .bool false, .int .u64 0, .int .u64 0, .bool false, .int .i64 0, .bool false, .int .i64 0, .bool false] 37)).alloc (Obj.cells #[Value.int IntKind.i64 0] 3)).alloc (Obj.cells #[Value.int IntKind.i64 0] 39)).alloc (Obj.cells #[Value.slice sa l.length cap, Value.int IntKind.i64 ↑p] 82)) = W
    have G0 : Hid (Grew w W) := by rw [← hW]; exact ((((Grew.refl w).alloc _).alloc _).alloc _).alloc _
    obtain ⟨A0, P0, E0, o0⟩ : Hid (W.heap[w.heap.size]? = some (.cells I0.c 37 (0, 0))) ∧ Hid (W.heap[w.heap.size + 1]? = some (ic 0 3)) ∧ Hid (W.heap[w.heap.size + 1 + 1]? = some (ic 0 39)) ∧ W.heap[w.heap.size + 1 + 1 + 1]? = some (cur (.slice sa l.length cap) p) := by
      rw [← hW]
      exact heap_four _ _ _ _ _
    have U0 : Hid (CU W (w.heap.size + 1 + 1 + 1) (.slice sa l.length cap) l p) := ⟨o0, G0.out.reads HR.out, HB.out, hl, hp, HT.out.grew G0.out, by omega⟩
    clear hW o0
    have V := importEntry_any U0.out
    cases hv : impR l p with
    | error y =>
      obtain ⟨f, e⟩ := y
      rw [hv] at V hX
      have HX : Hid (X = (I0, (f : Int), (e : Int))) := hX
      clear hv hX
      refine V.mono ?_
      rintro en w2 ⟨rfl, t2⟩
      have g2 : Grew w w2 := t2.grew G0.out (by intro y hy; simp at hy; omega)
      have P3 := t2.other P0.out (by first | (simp; done) | (simp; omega))
      have E3 := t2.other E0.out (by first | (simp; done) | (simp; omega))
      have A3 := t2.other A0.out (by simp; omega)
      clear V t2
      unfold flt
      go_wp2_with fail
      refine leaves_cons (f := 33) (args := #[.pointer (some ⟨w.heap.size + 1, 0, none⟩), .pointer (some ⟨w.heap.size + 1 + 1, 0, none⟩)]) (by simp) (by simp [go_sem]) ?_
      refine (caughtIm _ _ f e 0 0 [] _ P3 E3 (by omega)).mono ?_
      rintro en u' w4 ⟨rfl, rfl, t4, p4, e4⟩
      have g4 : Grew w w4 := t4.grew g2 (by intro y hy; simp at hy; omega)
      have b0 := cell_of p4 0
      have c0 := cell_of e4 0
      simp [ic] at b0 c0
      have A4 := t4.other A3 (by simp; omega)
      have l1 : (loadVar 37 ⟨w.heap.size, 0, none⟩).run Tryz.prog w4 = .ok (.agg I0.c) w4 := run_loadVar_row w4 _ 37 37 _ (0, 0) _ A4 Tryz.underlying37 rfl (IM.sz _)
      have l2 : (loadVar 3 ⟨w.heap.size + 1, 0, none⟩).run Tryz.prog w4 = .ok (.int .i64 f) w4 := by simp [go_sem, b0]
      have l3 : (loadVar 39 ⟨w.heap.size + 1 + 1, 0, none⟩).run Tryz.prog w4 = .ok (.int .i64 e) w4 := by simp [go_sem, c0]
      simp [Leaves, settle, results, Tryz.results17, asAddr, l1, l2, l3]
      rw [HX.out]
      exact ⟨rfl, g4⟩
    | ok y =>
      obtain ⟨xx, q⟩ := y
      rw [hv] at V hX
      have HX : Hid (X = (xx, (q : Int), 0)) := hX
      clear hv hX
      refine V.mono ?_
      rintro en w2 ⟨rfl, t2, u2⟩
      have G2 : Hid (Grew w w2) := t2.grew G0.out (by intro y hy; simp at hy; omega)
      have P3 : Hid (w2.heap[w.heap.size + 1]? = some (ic 0 3)) := t2.other P0.out (by first | (simp; done) | (simp; omega))
      have E3 : Hid (w2.heap[w.heap.size + 1 + 1]? = some (ic 0 39)) := t2.other E0.out (by first | (simp; done) | (simp; omega))
      have UC : Hid (w2.heap[w.heap.size + 1 + 1 + 1]? = some (cur (.slice sa l.length cap) q)) := u2.obj
      have A3 : Hid (w2.heap[w.heap.size]? = some (.cells I0.c 37 (0, 0))) := t2.other A0.out (by simp; omega)
      have hlt : w.heap.size + 1 + 1 + 1 < w2.heap.size := u2.lt
      clear V t2 u2 P0 E0 U0 G0 A0
      rw [show IM.v xx = .agg xx.c from rfl]
      go_wp2_with (first
        | with_reducible refine stop_store 37 rfl ?_
        | fail)
      unfold Stop
      refine wpList_store_last rfl 37 _ _ rfl xx.c rfl rfl _ (IM.sz xx) rfl (IM.one xx) ?_
      go_wp2_with fail
      generalize hw3 : w2.alloc (Obj.cells xx.c 37) = w3
      have G3 : Hid (Grew w2 w3) := by rw [← hw3]; exact (Grew.refl w2).alloc _
      have D3 : Hid (w3.heap[w2.heap.size]? = some (.cells xx.c 37 (0, 0))) := by rw [← hw3]; exact heap_alloc_last _ _
      have P4 : Hid (w3.heap[w.heap.size + 1]? = some (ic 0 3)) := (G3.out.turn []).other P3.out (by simp)
      have E4 : Hid (w3.heap[w.heap.size + 1 + 1]? = some (ic 0 39)) := (G3.out.turn []).other E3.out (by simp)
      have A4 : Hid (w3.heap[w.heap.size]? = some (.cells I0.c 37 (0, 0))) := (G3.out.turn []).other A3.out (by simp)
      have U4 : Hid (w3.heap[w.heap.size + 1 + 1 + 1]? = some (cur (.slice sa l.length cap) q)) := (G3.out.turn []).other UC.out (by simp)
      clear hw3 P3 E3 A3 UC
      generalize w2.heap.size = MM at *
      refine wp_normal ?_
      refine wp_region_any (by kernel_rfl) ?_
      change wpAny _ _ _ _ _ _ _ (World.drew _)
      refine wpAny_take (i := 1) (v := .pointer (some ⟨w.heap.size + 1 + 1 + 1, 0, none⟩)) rfl (by kernel_rfl) (by kernel_rfl) (by kernel_rfl) (fun _ _ _ h => absurd h.1 (by simp)) (Or.inl ⟨by rfl, ?_⟩) ?_
      · intro w; go_simp
      refine wpAny_take (i := 2) (v := .pointer (some ⟨w.heap.size + 1 + 1 + 1, 0, none⟩)) rfl (by kernel_rfl) (by kernel_rfl) (by kernel_rfl) (fun _ _ _ h => absurd h.1 (by simp)) (Or.inl ⟨by rfl, ?_⟩) ?_
      · intro w; go_simp
      refine wpAny_take (i := 3) (v := .pointer (some ⟨w.heap.size + 1 + 1 + 1, 1, none⟩)) rfl (by kernel_rfl) (by kernel_rfl) (by kernel_rfl) (fun _ _ _ h => absurd h.1 (by simp)) (Or.inl ⟨by rfl, ?_⟩) ?_
      · intro w; go_simp
      generalize hw4 : World.drew w3 = w4
      have D4 : w4.heap[MM]? = some (.cells xx.c 37 (0, 0)) := by rw [← hw4]; exact D3.out
      have P5 : w4.heap[w.heap.size + 1]? = some (ic 0 3) := by rw [← hw4]; exact P4.out
      have E5 : w4.heap[w.heap.size + 1 + 1]? = some (ic 0 39) := by rw [← hw4]; exact E4.out
      have A5 : w4.heap[w.heap.size]? = some (.cells I0.c 37 (0, 0)) := by rw [← hw4]; exact A4.out
      have u5 := cell_of (show w4.heap[w.heap.size + 1 + 1 + 1]? = some (cur (.slice sa l.length cap) q) by rw [← hw4]; exact U4.out) 1
      have G4 : Hid (Grew w w4) := by rw [← hw4]; exact (G2.out.trans G3.out).drew
      simp [cur] at u5
      generalize hw5 : w4.setRow w.heap.size xx.c = w5
      have P6 : w5.heap[w.heap.size + 1]? = some (ic 0 3) := by rw [← hw5]; exact (setRow_other _ _ _ _ (by omega)).trans P5
      have E6 : w5.heap[w.heap.size + 1 + 1]? = some (ic 0 39) := by rw [← hw5]; exact (setRow_other _ _ _ _ (by omega)).trans E5
      have A6 : Hid (w5.heap[w.heap.size]? = some (.cells xx.c 37 (0, 0))) := by rw [← hw5]; exact heap_setRow A5
      have u6 := cell_of (show w5.heap[w.heap.size + 1 + 1 + 1]? = some (cur (.slice sa l.length cap) q) by rw [← hw5, setRow_other _ _ _ _ (by omega), ← hw4]; exact U4.out) 1
      have G5 : Hid (Grew w w5) := by rw [← hw5]; exact G4.out.setRow (Nat.le_refl _) _
      simp [cur] at u6
      have b0 := cell_of P6 0
      have c0 := cell_of E6 0
      have y3 := free_of P6 0
      have y4 := free_of E6 0
      simp [ic] at b0 c0
      have P7 : Hid (w5.heap[w.heap.size + 1]? = some (ic 0 3)) := P6
      have E7 : Hid (w5.heap[w.heap.size + 1 + 1]? = some (ic 0 39)) := E6
      clear hw4 P6 E6 P4 E4 A4 U4 D3 P5 E5
      refine wpAny_ready (rs := [0, 4]) (by kernel_rfl) (by simp) ?_
      refine AllReady.cons rfl (fun K hK => ?_) ?_
      · refine stepL_row rfl 37 _ rfl MM rfl 37 xx.c (0, 0) _ D4 Tryz.underlying37 rfl (IM.sz xx) ?_
        refine hK _ _ ?_
        clear hK K
        refine wpAny_ready (rs := [4, 5]) (by kernel_rfl) (by simp) ?_
        refine AllReady.cons rfl (fun K hK => ?_) ?_
        · go_simp
          refine hK _ _ ?_
          clear hK K
          refine wpAny_ready (rs := [5]) (by kernel_rfl) (by simp) ?_
          refine AllReady.cons rfl (fun K hK => ?_) ?_
          · refine stepS_row rfl 37 _ _ rfl w.heap.size xx.c rfl rfl 37 I0.c A5 (IM.sz xx) rfl (IM.one xx) ?_
            refine hK _ _ ?_
            clear hK K
            rw [hw5]
            refine wpAny_ready (rs := [6]) (by kernel_rfl) (by simp) ?_
            refine AllReady.cons rfl (fun K hK => ?_) ?_
            · go_simp
              refine hK _ _ ?_
              clear hK K
              refine wpAny_ready (rs := [7]) (by kernel_rfl) (by simp) ?_
              refine AllReady.cons rfl (fun K hK => ?_) ?_
              · go_simp
                refine hK _ _ ?_
                clear hK K
                refine wpAny_done (by kernel_rfl) ?_ _
                refine ⟨rfl, ?_⟩
                go_wp2_with fail
                refine leaves_cons (f := 33) (args := #[.pointer (some ⟨w.heap.size + 1, 0, none⟩), .pointer (some ⟨w.heap.size + 1 + 1, 0, none⟩)]) (by simp) (by simp [go_sem]) ?_
                refine (idleIm _ _ _).mono ?_
                rintro en u' w9 ⟨rfl, rfl, rfl⟩
                have f1 : ((w5.setCell ⟨w.heap.size + 1, 0, none⟩ (.int .i64 q)).setCell ⟨w.heap.size + 1 + 1, 0, none⟩ (.int .i64 0)).heap[w.heap.size]? = some (.cells xx.c 37 (0, 0)) := heap_other (p := ⟨w.heap.size + 1 + 1, 0, none⟩) (heap_other (p := ⟨w.heap.size + 1, 0, none⟩) A6.out (show w.heap.size ≠ w.heap.size + 1 by omega) _) (show w.heap.size ≠ w.heap.size + 1 + 1 by omega) _
                have l1 : (loadVar 37 ⟨w.heap.size, 0, none⟩).run Tryz.prog ((w5.setCell ⟨w.heap.size + 1, 0, none⟩ (.int .i64 q)).setCell ⟨w.heap.size + 1 + 1, 0, none⟩ (.int .i64 0)) = .ok (.agg xx.c) ((w5.setCell ⟨w.heap.size + 1, 0, none⟩ (.int .i64 q)).setCell ⟨w.heap.size + 1 + 1, 0, none⟩ (.int .i64 0)) := run_loadVar_row _ _ 37 37 _ (0, 0) _ f1 Tryz.underlying37 rfl (IM.sz _)
                have l2 : (loadVar 3 ⟨w.heap.size + 1, 0, none⟩).run Tryz.prog ((w5.setCell ⟨w.heap.size + 1, 0, none⟩ (.int .i64 q)).setCell ⟨w.heap.size + 1 + 1, 0, none⟩ (.int .i64 0)) = .ok (.int .i64 q) ((w5.setCell ⟨w.heap.size + 1, 0, none⟩ (.int .i64 q)).setCell ⟨w.heap.size + 1 + 1, 0, none⟩ (.int .i64 0)) := by simp [go_sem, b0, c0]
                have l3 : (loadVar 39 ⟨w.heap.size + 1 + 1, 0, none⟩).run Tryz.prog ((w5.setCell ⟨w.heap.size + 1, 0, none⟩ (.int .i64 q)).setCell ⟨w.heap.size + 1 + 1, 0, none⟩ (.int .i64 0)) = .ok (.int .i64 0) ((w5.setCell ⟨w.heap.size + 1, 0, none⟩ (.int .i64 q)).setCell ⟨w.heap.size + 1 + 1, 0, none⟩ (.int .i64 0)) := by simp [go_sem, b0, c0]
                simp [Leaves, settle, results, Tryz.results17, asAddr, l1, l2, l3]
                rw [HX.out]
                exact ⟨rfl, (G5.out.set (p := ⟨w.heap.size + 1, 0, none⟩) (by simp) _).set (p := ⟨w.heap.size + 1 + 1, 0, none⟩) (by simp; omega) _⟩
              exact AllReady.nil
            exact AllReady.nil
          exact AllReady.nil
        refine AllReady.cons rfl (fun K hK => ?_) ?_
        · refine stepS_row rfl 37 _ _ rfl w.heap.size xx.c rfl rfl 37 I0.c A5 (IM.sz xx) rfl (IM.one xx) ?_
          refine hK _ _ ?_
          clear hK K
          rw [hw5]
          refine wpAny_ready (rs := [4]) (by kernel_rfl) (by simp) ?_
          refine AllReady.cons rfl (fun K hK => ?_) ?_
          · go_simp
            refine hK _ _ ?_
            clear hK K
            refine wpAny_ready (rs := [6]) (by kernel_rfl) (by simp) ?_
            refine AllReady.cons rfl (fun K hK => ?_) ?_
            · go_simp
              refine hK _ _ ?_
              clear hK K
              refine wpAny_ready (rs := [7]) (by kernel_rfl) (by simp) ?_
              refine AllReady.cons rfl (fun K hK => ?_) ?_
              · go_simp
                refine hK _ _ ?_
                clear hK K
                refine wpAny_done (by kernel_rfl) ?_ _
                refine ⟨rfl, ?_⟩
                go_wp2_with fail
                refine leaves_cons (f := 33) (args := #[.pointer (some ⟨w.heap.size + 1, 0, none⟩), .pointer (some ⟨w.heap.size + 1 + 1, 0, none⟩)]) (by simp) (by simp [go_sem]) ?_
                refine (idleIm _ _ _).mono ?_
                rintro en u' w9 ⟨rfl, rfl, rfl⟩
                have f1 : ((w5.setCell ⟨w.heap.size + 1, 0, none⟩ (.int .i64 q)).setCell ⟨w.heap.size + 1 + 1, 0, none⟩ (.int .i64 0)).heap[w.heap.size]? = some (.cells xx.c 37 (0, 0)) := heap_other (p := ⟨w.heap.size + 1 + 1, 0, none⟩) (heap_other (p := ⟨w.heap.size + 1, 0, none⟩) A6.out (show w.heap.size ≠ w.heap.size + 1 by omega) _) (show w.heap.size ≠ w.heap.size + 1 + 1 by omega) _
                have l1 : (loadVar 37 ⟨w.heap.size, 0, none⟩).run Tryz.prog ((w5.setCell ⟨w.heap.size + 1, 0, none⟩ (.int .i64 q)).setCell ⟨w.heap.size + 1 + 1, 0, none⟩ (.int .i64 0)) = .ok (.agg xx.c) ((w5.setCell ⟨w.heap.size + 1, 0, none⟩ (.int .i64 q)).setCell ⟨w.heap.size + 1 + 1, 0, none⟩ (.int .i64 0)) := run_loadVar_row _ _ 37 37 _ (0, 0) _ f1 Tryz.underlying37 rfl (IM.sz _)
                have l2 : (loadVar 3 ⟨w.heap.size + 1, 0, none⟩).run Tryz.prog ((w5.setCell ⟨w.heap.size + 1, 0, none⟩ (.int .i64 q)).setCell ⟨w.heap.size + 1 + 1, 0, none⟩ (.int .i64 0)) = .ok (.int .i64 q) ((w5.setCell ⟨w.heap.size + 1, 0, none⟩ (.int .i64 q)).setCell ⟨w.heap.size + 1 + 1, 0, none⟩ (.int .i64 0)) := by simp [go_sem, b0, c0]
                have l3 : (loadVar 39 ⟨w.heap.size + 1 + 1, 0, none⟩).run Tryz.prog ((w5.setCell ⟨w.heap.size + 1, 0, none⟩ (.int .i64 q)).setCell ⟨w.heap.size + 1 + 1, 0, none⟩ (.int .i64 0)) = .ok (.int .i64 0) ((w5.setCell ⟨w.heap.size + 1, 0, none⟩ (.int .i64 q)).setCell ⟨w.heap.size + 1 + 1, 0, none⟩ (.int .i64 0)) := by simp [go_sem, b0, c0]
                simp [Leaves, settle, results, Tryz.results17, asAddr, l1, l2, l3]
                rw [HX.out]
                exact ⟨rfl, (G5.out.set (p := ⟨w.heap.size + 1, 0, none⟩) (by simp) _).set (p := ⟨w.heap.size + 1 + 1, 0, none⟩) (by simp; omega) _⟩
              exact AllReady.nil
            exact AllReady.nil
          exact AllReady.nil
        exact AllReady.nil
      refine AllReady.cons rfl (fun K hK => ?_) ?_
      · go_simp
        refine hK _ _ ?_
        clear hK K
        refine wpAny_ready (rs := [0]) (by kernel_rfl) (by simp) ?_
        refine AllReady.cons rfl (fun K hK => ?_) ?_
        · refine stepL_row rfl 37 _ rfl MM rfl 37 xx.c (0, 0) _ D4 Tryz.underlying37 rfl (IM.sz xx) ?_
          refine hK _ _ ?_
          clear hK K
          refine wpAny_ready (rs := [5]) (by kernel_rfl) (by simp) ?_
          refine AllReady.cons rfl (fun K hK => ?_) ?_
          · refine stepS_row rfl 37 _ _ rfl w.heap.size xx.c rfl rfl 37 I0.c A5 (IM.sz xx) rfl (IM.one xx) ?_
            refine hK _ _ ?_
            clear hK K
            rw [hw5]
            refine wpAny_ready (rs := [6]) (by kernel_rfl) (by simp) ?_
            refine AllReady.cons rfl (fun K hK => ?_) ?_
            · go_simp
              refine hK _ _ ?_
              clear hK K
              refine wpAny_ready (rs := [7]) (by kernel_rfl) (by simp) ?_
              refine AllReady.cons rfl (fun K hK => ?_) ?_
              · go_simp
                refine hK _ _ ?_
                clear hK K
                refine wpAny_done (by kernel_rfl) ?_ _
                refine ⟨rfl, ?_⟩
                go_wp2_with fail
                refine leaves_cons (f := 33) (args := #[.pointer (some ⟨w.heap.size + 1, 0, none⟩), .pointer (some ⟨w.heap.size + 1 + 1, 0, none⟩)]) (by simp) (by simp [go_sem]) ?_
                refine (idleIm _ _ _).mono ?_
                rintro en u' w9 ⟨rfl, rfl, rfl⟩
                have f1 : ((w5.setCell ⟨w.heap.size + 1, 0, none⟩ (.int .i64 q)).setCell ⟨w.heap.size + 1 + 1, 0, none⟩ (.int .i64 0)).heap[w.heap.size]? = some (.cells xx.c 37 (0, 0)) := heap_other (p := ⟨w.heap.size + 1 + 1, 0, none⟩) (heap_other (p := ⟨w.heap.size + 1, 0, none⟩) A6.out (show w.heap.size ≠ w.heap.size + 1 by omega) _) (show w.heap.size ≠ w.heap.size + 1 + 1 by omega) _
                have l1 : (loadVar 37 ⟨w.heap.size, 0, none⟩).run Tryz.prog ((w5.setCell ⟨w.heap.size + 1, 0, none⟩ (.int .i64 q)).setCell ⟨w.heap.size + 1 + 1, 0, none⟩ (.int .i64 0)) = .ok (.agg xx.c) ((w5.setCell ⟨w.heap.size + 1, 0, none⟩ (.int .i64 q)).setCell ⟨w.heap.size + 1 + 1, 0, none⟩ (.int .i64 0)) := run_loadVar_row _ _ 37 37 _ (0, 0) _ f1 Tryz.underlying37 rfl (IM.sz _)
                have l2 : (loadVar 3 ⟨w.heap.size + 1, 0, none⟩).run Tryz.prog ((w5.setCell ⟨w.heap.size + 1, 0, none⟩ (.int .i64 q)).setCell ⟨w.heap.size + 1 + 1, 0, none⟩ (.int .i64 0)) = .ok (.int .i64 q) ((w5.setCell ⟨w.heap.size + 1, 0, none⟩ (.int .i64 q)).setCell ⟨w.heap.size + 1 + 1, 0, none⟩ (.int .i64 0)) := by simp [go_sem, b0, c0]
                have l3 : (loadVar 39 ⟨w.heap.size + 1 + 1, 0, none⟩).run Tryz.prog ((w5.setCell ⟨w.heap.size + 1, 0, none⟩ (.int .i64 q)).setCell ⟨w.heap.size + 1 + 1, 0, none⟩ (.int .i64 0)) = .ok (.int .i64 0) ((w5.setCell ⟨w.heap.size + 1, 0, none⟩ (.int .i64 q)).setCell ⟨w.heap.size + 1 + 1, 0, none⟩ (.int .i64 0)) := by simp [go_sem, b0, c0]
                simp [Leaves, settle, results, Tryz.results17, asAddr, l1, l2, l3]
                rw [HX.out]
                exact ⟨rfl, (G5.out.set (p := ⟨w.heap.size + 1, 0, none⟩) (by simp) _).set (p := ⟨w.heap.size + 1 + 1, 0, none⟩) (by simp; omega) _⟩
              exact AllReady.nil
            exact AllReady.nil
          exact AllReady.nil
        exact AllReady.nil
      exact AllReady.nil
  · rw [topR_out hin]
    by_cases h0 : x < 0
    · have d1 : decide (x < 0) = true := by simpa using h0
      clear hR hB hT hin
      go_enter_defers Tryz.func17, Tryz.ntmps17
      go_wp2_with (first
        | with_reducible refine stop_load 37 rfl ?_
        | fail)
      generalize hW : (((w.alloc (Obj.cells #[.string ⟨#[]⟩, .string ⟨#[]⟩, .int .i64 0, .int .i64 0, .int .i64 0, .bool false, .int .i64 0, .bool false, .int .u64 0, .int .u64 0, .bool false, .bool false, .int .u64 0, .int .u64 0, .bool false, .int .i64 0, .bool false, .int .i64 0, .bool false] 37)).alloc (Obj.cells #[Value.int IntKind.i64 0] 3)).alloc (Obj.cells #[Value.int IntKind.i64 0] 39)) = W
      have G0 : Hid (Grew w W) := by rw [← hW]; exact (((Grew.refl w).alloc _).alloc _).alloc _
      obtain ⟨A0, P0, E0⟩ : W.heap[w.heap.size]? = some (.cells I0.c 37 (0, 0)) ∧ W.heap[w.heap.size + 1]? = some (ic 0 3) ∧ W.heap[w.heap.size + 1 + 1]? = some (ic 0 39) := by
        rw [← hW]
        exact heap_three _ _ _ _
      clear hW
      unfold Stop
      refine wpList_load_row rfl 37 _ rfl w.heap.size rfl 37 I0.c (0, 0) _ A0 Tryz.underlying37 rfl (IM.sz I0) ?_
      go_wp2_with (first
        | with_reducible refine stop_store 37 rfl ?_
        | fail)
      unfold Stop
      refine wpList_store_row rfl 37 _ _ rfl w.heap.size I0.c rfl rfl 37 I0.c A0 (IM.sz I0) rfl (IM.one I0) ?_
      generalize hw5 : W.setRow w.heap.size I0.c = w5
      have P6 : w5.heap[w.heap.size + 1]? = some (ic 0 3) := by rw [← hw5]; exact (setRow_other _ _ _ _ (by omega)).trans P0
      have E6 : w5.heap[w.heap.size + 1 + 1]? = some (ic 0 39) := by rw [← hw5]; exact (setRow_other _ _ _ _ (by omega)).trans E0
      have A6 : Hid (w5.heap[w.heap.size]? = some (.cells I0.c 37 (0, 0))) := by rw [← hw5]; exact heap_setRow A0
      have G5 : Hid (Grew w w5) := by rw [← hw5]; exact G0.out.setRow (Nat.le_refl _) _
      have b0 := cell_of P6 0
      have c0 := cell_of E6 0
      have y3 := free_of P6 0
      have y4 := free_of E6 0
      simp [ic] at b0 c0
      clear hw5 P6 E6 P0 E0 A0
      go_wp2_with fail
      have f1 : ((w5.setCell ⟨w.heap.size + 1, 0, none⟩ (.int .i64 0)).setCell ⟨w.heap.size + 1 + 1, 0, none⟩ (.int .i64 1)).heap[w.heap.size]? = some (.cells I0.c 37 (0, 0)) := heap_other (p := ⟨w.heap.size + 1 + 1, 0, none⟩) (heap_other (p := ⟨w.heap.size + 1, 0, none⟩) A6.out (show w.heap.size ≠ w.heap.size + 1 by omega) _) (show w.heap.size ≠ w.heap.size + 1 + 1 by omega) _
      have l1 : (loadVar 37 ⟨w.heap.size, 0, none⟩).run Tryz.prog ((w5.setCell ⟨w.heap.size + 1, 0, none⟩ (.int .i64 0)).setCell ⟨w.heap.size + 1 + 1, 0, none⟩ (.int .i64 1)) = .ok (.agg I0.c) ((w5.setCell ⟨w.heap.size + 1, 0, none⟩ (.int .i64 0)).setCell ⟨w.heap.size + 1 + 1, 0, none⟩ (.int .i64 1)) := run_loadVar_row _ _ 37 37 _ (0, 0) _ f1 Tryz.underlying37 rfl (IM.sz _)
      have l2 : (loadVar 3 ⟨w.heap.size + 1, 0, none⟩).run Tryz.prog ((w5.setCell ⟨w.heap.size + 1, 0, none⟩ (.int .i64 0)).setCell ⟨w.heap.size + 1 + 1, 0, none⟩ (.int .i64 1)) = .ok (.int .i64 0) ((w5.setCell ⟨w.heap.size + 1, 0, none⟩ (.int .i64 0)).setCell ⟨w.heap.size + 1 + 1, 0, none⟩ (.int .i64 1)) := by simp [go_sem, b0, c0]
      have l3 : (loadVar 39 ⟨w.heap.size + 1 + 1, 0, none⟩).run Tryz.prog ((w5.setCell ⟨w.heap.size + 1, 0, none⟩ (.int .i64 0)).setCell ⟨w.heap.size + 1 + 1, 0, none⟩ (.int .i64 1)) = .ok (.int .i64 1) ((w5.setCell ⟨w.heap.size + 1, 0, none⟩ (.int .i64 0)).setCell ⟨w.heap.size + 1 + 1, 0, none⟩ (.int .i64 1)) := by simp [go_sem, b0, c0]
      simp [bodyPostD, Leaves, settle, results, Tryz.results17, asAddr, l1, l2, l3]
      exact ⟨rfl, (G5.out.set (p := ⟨w.heap.size + 1, 0, none⟩) (by simp) _).set (p := ⟨w.heap.size + 1 + 1, 0, none⟩) (by simp; omega) _⟩
    · have d1 : decide (x < 0) = false := by simpa using h0
      have d2 : decide ((l.length : Int) < x) = true := by simp; omega
      clear hR hB hT hin
      go_enter_defers Tryz.func17, Tryz.ntmps17
      go_wp2_with (first
        | with_reducible refine stop_load 37 rfl ?_
        | fail)
      generalize hW : (((w.alloc (Obj.cells #[.string ⟨#[]⟩, .string ⟨#[]⟩, .int .i64 0, .int .i64 0, .int .i64 0, .bool false, .int .i64 0, .bool false, .int .u64 0, .int .u64 0, .bool false, .bool false, .int .u64 0, .int .u64 0, .bool false, .int .i64 0, .bool false, .int .i64 0, .bool false] 37)).alloc (Obj.cells #[Value.int IntKind.i64 0] 3)).alloc (Obj.cells #[Value.int IntKind.i64 0] 39)) = W
      have G0 : Hid (Grew w W) := by rw [← hW]; exact (((Grew.refl w).alloc _).alloc _).alloc _
      obtain ⟨A0, P0, E0⟩ : W.heap[w.heap.size]? = some (.cells I0.c 37 (0, 0)) ∧ W.heap[w.heap.size + 1]? = some (ic 0 3) ∧ W.heap[w.heap.size + 1 + 1]? = some (ic 0 39) := by
        rw [← hW]
        exact heap_three _ _ _ _
      clear hW
      unfold Stop
      refine wpList_load_row rfl 37 _ rfl w.heap.size rfl 37 I0.c (0, 0) _ A0 Tryz.underlying37 rfl (IM.sz I0) ?_
      go_wp2_with (first
        | with_reducible refine stop_store 37 rfl ?_
        | fail)
      unfold Stop
      refine wpList_store_row rfl 37 _ _ rfl w.heap.size I0.c rfl rfl 37 I0.c A0 (IM.sz I0) rfl (IM.one I0) ?_
      generalize hw5 : W.setRow w.heap.size I0.c = w5
      have P6 : w5.heap[w.heap.size + 1]? = some (ic 0 3) := by rw [← hw5]; exact (setRow_other _ _ _ _ (by omega)).trans P0
      have E6 : w5.heap[w.heap.size + 1 + 1]? = some (ic 0 39) := by rw [← hw5]; exact (setRow_other _ _ _ _ (by omega)).trans E0
      have A6 : Hid (w5.heap[w.heap.size]? = some (.cells I0.c 37 (0, 0))) := by rw [← hw5]; exact heap_setRow A0
      have G5 : Hid (Grew w w5) := by rw [← hw5]; exact G0.out.setRow (Nat.le_refl _) _
      have b0 := cell_of P6 0
      have c0 := cell_of E6 0
      have y3 := free_of P6 0
      have y4 := free_of E6 0
      simp [ic] at b0 c0
      clear hw5 P6 E6 P0 E0 A0
      go_wp2_with fail
      have f1 : ((w5.setCell ⟨w.heap.size + 1, 0, none⟩ (.int .i64 0)).setCell ⟨w.heap.size + 1 + 1, 0, none⟩ (.int .i64 1)).heap[w.heap.size]? = some (.cells I0.c 37 (0, 0)) := heap_other (p := ⟨w.heap.size + 1 + 1, 0, none⟩) (heap_other (p := ⟨w.heap.size + 1, 0, none⟩) A6.out (show w.heap.size ≠ w.heap.size + 1 by omega) _) (show w.heap.size ≠ w.heap.size + 1 + 1 by omega) _
      have l1 : (loadVar 37 ⟨w.heap.size, 0, none⟩).run Tryz.prog ((w5.setCell ⟨w.heap.size + 1, 0, none⟩ (.int .i64 0)).setCell ⟨w.heap.size + 1 + 1, 0, none⟩ (.int .i64 1)) = .ok (.agg I0.c) ((w5.setCell ⟨w.heap.size + 1, 0, none⟩ (.int .i64 0)).setCell ⟨w.heap.size + 1 + 1, 0, none⟩ (.int .i64 1)) := run_loadVar_row _ _ 37 37 _ (0, 0) _ f1 Tryz.underlying37 rfl (IM.sz _)
      have l2 : (loadVar 3 ⟨w.heap.size + 1, 0, none⟩).run Tryz.prog ((w5.setCell ⟨w.heap.size + 1, 0, none⟩ (.int .i64 0)).setCell ⟨w.heap.size + 1 + 1, 0, none⟩ (.int .i64 1)) = .ok (.int .i64 0) ((w5.setCell ⟨w.heap.size + 1, 0, none⟩ (.int .i64 0)).setCell ⟨w.heap.size + 1 + 1, 0, none⟩ (.int .i64 1)) := by simp [go_sem, b0, c0]
      have l3 : (loadVar 39 ⟨w.heap.size + 1 + 1, 0, none⟩).run Tryz.prog ((w5.setCell ⟨w.heap.size + 1, 0, none⟩ (.int .i64 0)).setCell ⟨w.heap.size + 1 + 1, 0, none⟩ (.int .i64 1)) = .ok (.int .i64 1) ((w5.setCell ⟨w.heap.size + 1, 0, none⟩ (.int .i64 0)).setCell ⟨w.heap.size + 1 + 1, 0, none⟩ (.int .i64 1)) := by simp [go_sem, b0, c0]
      simp [bodyPostD, Leaves, settle, results, Tryz.results17, asAddr, l1, l2, l3]
      exact ⟨rfl, (G5.out.set (p := ⟨w.heap.size + 1, 0, none⟩) (by simp) _).set (p := ⟨w.heap.size + 1 + 1, 0, none⟩) (by simp; omega) _⟩
set_option maxRecDepth 100000 in
set_option maxHeartbeats 1000000 in
theorem topIm_any (v : Value) (l : List Int) (x : Int) (w : World) (hR : Reads w v l) (hB : Byt l) (hl : l.length ≤ 140737488351232) (hT : Tab w) :
    Calls Tryz.prog 8 #[v, .int .i64 x] w fun en w' => en = .returned (ansIm (topR (impR l) I0 l x)) ∧ Grew w w' := by
  have C : Hid (∀ w1, Grew w w1 → Calls Tryz.prog 17 #[v, .int .i64 x, .func (.func 18) #[] #[]] w1 fun en w' => en = .returned (ansIm (topR (impR l) I0 l x)) ∧ Grew w1 w') := fun w1 g => readAtIm_any v l x w1 (g.reads hR) hB hl (hT.grew g)
  obtain ⟨sa, cap, rfl⟩ := hR.len
  clear hR hT hB
  generalize topR (impR l) I0 l x = X at *
  obtain ⟨xx, pl, e⟩ := X
  unfold ansIm at *
  simp only at C ⊢
  rw [show IM.v xx = .agg xx.c from rfl] at C ⊢
  go_enter Tryz.func8, Tryz.ntmps8
  go_wp2_with fail
  refine (C.out _ ((Grew.refl w).alloc _)).mono ?_
  rintro en w1 ⟨rfl, g1⟩
  have N1 : Hid (w1.heap[w.heap.size]? = some (.cells I0.c 37 (0, 0))) := (g1.turn []).other (heap_alloc_last _ _) (by simp)
  have G1 : Hid (Grew w w1) := ((Grew.refl w).alloc _).trans g1
  clear g1
  go_wp2_with (first
    | with_reducible refine stop_store 37 rfl ?_
    | fail)
  unfold Stop
  refine wpList_store_row rfl 37 _ _ rfl w.heap.size xx.c rfl rfl 37 I0.c N1.out (IM.sz xx) rfl (IM.one xx) ?_
  go_wp2_with fail
  have l1 : (loadVar 37 ⟨w.heap.size, 0, none⟩).run Tryz.prog (w1.setRow w.heap.size xx.c) = .ok (.agg xx.c) (w1.setRow w.heap.size xx.c) := run_loadVar_row _ _ 37 37 _ (0, 0) _ (heap_setRow N1.out) Tryz.underlying37 rfl (IM.sz _)
  refine bodyPost_ret (v := .tuple #[.agg xx.c, .int .i64 pl, .int .i64 e]) ?_ ?_ ?_
  · simp [results, Tryz.results8, asAddr, l1]
  · rfl
  exact ⟨rfl, G1.out.setRow (Nat.le_refl _) _⟩
end Go.Proofs.YtchehejjdinifaaGreatDoor
