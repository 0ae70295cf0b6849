/-
  The walks of readAt at types, and of the call over it; no statement is proved here.
-/
import Derived.Test.YtgdhocdbcgmokaaDoorTopC
namespace Go.Proofs.YtgdhocdbcgmokaaDoor
open Go.RowKit
set_option linter.unusedVariables false
set_option linter.unusedSimpArgs false
set_option linter.constructorNameAsVariable false

set_option maxRecDepth 100000 in
set_option maxHeartbeats 1000000 in
theorem caughtSx (bA bE : Nat) (p e x y : Int) (older : List PanicEntry) (w : World) (hA : w.heap[bA]? = some (ic x 3)) (hE : w.heap[bE]? = some (ic y 23)) (hne : bE ≠ bA) :
    CallsD Tryd.prog 134 #[.pointer (some ⟨bA, 0, none⟩), .pointer (some ⟨bE, 0, none⟩)] (.panicking ({ v := .iface 186 (.agg #[.int .i64 p, .int .i64 e]), recovered := false } :: older)) w fun en u' w' =>
      en = .returned (.tuple #[]) ∧ u' = .panicking ({ v := .iface 186 (.agg #[.int .i64 p, .int .i64 e]), recovered := true } :: older) ∧ Turn [bA, bE] w w' ∧ w'.heap[bA]? = some (ic p 3) ∧ w'.heap[bE]? = some (ic e 23) := by
  have c0 := cell_of hA 0
  have c1 := cell_of hE 0
  have z0 := free_of hA 0
  have z1 := free_of hE 0
  simp at c0 c1
  have HA : Hid (w.heap[bA]? = some (ic x 3)) := hA
  have HE : Hid (w.heap[bE]? = some (ic y 23)) := hE
  have lA := lt_of_obj hA
  have lE := lt_of_obj hE
  clear hA hE
  refine callsD_of_wpS Tryd.func134 rfl fun c₀ cs hu => ?_
  apply wpS_seq
  apply wpS_region
  simp [wpOpsS, go_sem, recoverD, hu, Tryd.ntmps134, Exit.thenS]
  refine wpS_of_wp ?_
  rw [show (#[Value.pointer (some { block := bA, off := 0 }), Value.pointer (some { block := bE, off := 0 })] ++
          ((Array.replicate 11 undef).setIfInBounds 2 (Value.iface 186 (Value.agg #[Value.int IntKind.i64 p, Value.int IntKind.i64 e]))).setIfInBounds 0 (Value.iface 186 (Value.agg #[Value.int IntKind.i64 p, Value.int IntKind.i64 e])) : Array Value) = #[Value.pointer (some { block := bA, off := 0 }), Value.pointer (some { block := bE, off := 0 }), Value.iface 186 (Value.agg #[Value.int IntKind.i64 p, Value.int IntKind.i64 e]), undef, Value.iface 186 (Value.agg #[Value.int IntKind.i64 p, Value.int IntKind.i64 e]), undef, undef, undef, undef, undef, undef, undef, undef] from rfl]
  clear hu
  have ha := assertF
  go_wp2_with fail
  go_region
  all_goals
    go_wp2_with fail
    simp [bodyPostS, results, Tryd.results134]
    refine ⟨?_, ?_, ?_⟩
    · exact ((((Turn.refl [bA, bE] w).set (p := ⟨bA, 0, none⟩) (Or.inl (by simp)) _).set (p := ⟨bE, 0, none⟩) (Or.inl (by simp)) _).alloc _).drew
    · exact heap_alloc (heap_other (o := ic p 3) (p := ⟨bE, 0, none⟩) (by rw [heap_set HA.out]; rfl) (show bA ≠ bE from hne.symm) _) _
    · exact heap_alloc (o := ic e 23) ((heap_set (heap_other (p := ⟨bA, 0, none⟩) HE.out (show bE ≠ bA from hne) _) 0 _).trans rfl) _
theorem idleSx (bA bE : Nat) (w : World) :
    CallsD Tryd.prog 134 #[.pointer (some ⟨bA, 0, none⟩), .pointer (some ⟨bE, 0, none⟩)] .returning w fun en u' w' => en = .returned (.tuple #[]) ∧ u' = .returning ∧ w' = w := by
  refine callsD_of_wpS Tryd.func134 rfl fun c₀ cs hu => ?_
  apply wpS_seq
  apply wpS_region
  simp [wpOpsS, go_sem, recoverD, hu, Tryd.ntmps134, Exit.thenS]
  refine wpS_of_wp ?_
  rw [show (#[Value.pointer (some { block := bA, off := 0 }), Value.pointer (some { block := bE, off := 0 })] ++
          ((Array.replicate 11 undef).setIfInBounds 2 Value.nilIface).setIfInBounds 0 Value.nilIface : Array Value) = #[Value.pointer (some { block := bA, off := 0 }), Value.pointer (some { block := bE, off := 0 }), .nilIface, undef, .nilIface, undef, undef, undef, undef, undef, undef, undef, undef] from rfl]
  go_wp2
  cases c₀
  simp_all [bodyPostS, results, Tryd.results134]
set_option maxRecDepth 100000 in
set_option maxHeartbeats 1000000 in
theorem readSx_any (v : Value) (l : List Int) (x : Int) (w : World) (hR : Reads w v l) (hB : Byt l) (hl : l.length ≤ 140737488351232) (hT : Tab w) :
    Calls Tryd.prog 72 #[v, .int .i64 x, .func (.func 73) #[] #[]] w fun en w' => ∃ cs, en = .returned (.tuple #[.agg cs.toArray, .int .i64 (topR (subR l) ⟨false, [], ⟨0, [], [], []⟩⟩ l x).2.1, .int .i64 (topR (subR l) ⟨false, [], ⟨0, [], [], []⟩⟩ l x).2.2]) ∧ SubC w.heap.size w' cs (topR (subR l) ⟨false, [], ⟨0, [], [], []⟩⟩ l x).1 ∧ Grew w w' := by
  have hmf : ∀ (fn : Fn) (first cap : Array Value) (w : World), (Instr.makeFunc fn first cap).run Tryd.prog w = .ok (.func fn first cap) w := fun _ _ _ _ => rfl
  obtain ⟨sa0, cap, rfl⟩ := hR.len
  by_cases hin : 0 ≤ x ∧ x ≤ l.length
  · obtain ⟨p, rfl⟩ : ∃ p : Nat, x = p := ⟨x.toNat, by omega⟩
    have hp : p ≤ l.length := by omega
    have d1 : decide ((p : Int) < 0) = false := by simp
    have d2 : decide ((l.length : Int) < (p : Int)) = false := by simp; omega
    have HR : Hid (Reads w (.slice sa0 l.length cap) l) := hR
    have HB : Hid (Byt l) := hB
    have HT : Hid (Tab w) := hT
    have hpos := hT.pos
    obtain ⟨X, hX⟩ : ∃ X, X = topR (subR l) ⟨false, [], ⟨0, [], [], []⟩⟩ l (p : Int) := ⟨_, rfl⟩
    rw [← hX]
    rw [topR_in hp] at hX
    clear hR hB hT hin
    go_enter_defers Tryd.func72, Tryd.ntmps72
    go_wp2_with fail
    generalize hW : ((((w.alloc (Obj.cells #[Value.bool false, Value.slice none 0 0, Value.int IntKind.i64 0, Value.slice none 0 0, Value.slice none 0 0, Value.slice none 0 0] 63)).alloc (Obj.cells #[Value.int IntKind.i64 0] 3)).alloc (Obj.cells #[Value.int IntKind.i64 0] 23)).alloc (Obj.cells #[Value.slice sa0 l.length cap, Value.int IntKind.i64 ↑p] 188)) = W
    have G0 : Hid (Grew w W) := by rw [← hW]; exact ((((Grew.refl w).alloc _).alloc _).alloc _).alloc _
    obtain ⟨A0, P0, E0, o0⟩ : Hid (W.heap[w.heap.size]? = some (.cells #[.bool false, .slice none 0 0, .int .i64 0, .slice none 0 0, .slice none 0 0, .slice none 0 0] 63 (0, 0))) ∧ Hid (W.heap[w.heap.size + 1]? = some (ic 0 3)) ∧ Hid (W.heap[w.heap.size + 1 + 1]? = some (ic 0 23)) ∧ W.heap[w.heap.size + 1 + 1 + 1]? = some (cur (.slice sa0 l.length cap) p) := by
      rw [← hW]
      exact heap_four _ _ _ _ _
    have U0 : Hid (CU W (w.heap.size + 1 + 1 + 1) (.slice sa0 l.length cap) l p) := ⟨o0, G0.out.reads HR.out, HB.out, hl, hp, HT.out.grew G0.out, by omega⟩
    clear hW o0
    have V := subType_any U0.out
    cases hv : subR l p with
    | error y =>
      obtain ⟨f, e⟩ := y
      rw [hv] at hX
      have HX : Hid (X = (⟨false, [], ⟨0, [], [], []⟩⟩, (f : Int), (e : Int))) := hX
      refine (AnsX.er V hv).mono ?_
      clear hX V
      rintro en w2 ⟨rfl, t2⟩
      have g2 : Grew w w2 := t2.grew G0.out (by intro y hy; simp at hy; omega)
      have P3 := t2.other P0.out (by first | (simp; done) | (simp; omega))
      have E3 := t2.other E0.out (by first | (simp; done) | (simp; omega))
      have A3 := t2.other A0.out (by simp; omega)
      clear t2 hv
      unfold flt
      go_wp2_with fail
      refine leaves_cons (f := 134) (args := #[.pointer (some ⟨w.heap.size + 1, 0, none⟩), .pointer (some ⟨w.heap.size + 1 + 1, 0, none⟩)]) (by simp) (by simp [go_sem]) ?_
      refine (caughtSx _ _ f e 0 0 [] _ P3 E3 (by omega)).mono ?_
      rintro en u' w4 ⟨rfl, rfl, t4, p4, e4⟩
      have g4 : Grew w w4 := t4.grew g2 (by intro y hy; simp at hy; omega)
      have b0 := cell_of p4 0
      have c0 := cell_of e4 0
      simp [ic] at b0 c0
      have A4 := t4.other A3 (by simp; omega)
      have a0 := cell_of A4 0
      have a1 := cell_of A4 1
      have a2 := cell_of A4 2
      have a3 := cell_of A4 3
      have a4 := cell_of A4 4
      have a5 := cell_of A4 5
      simp at a0 a1 a2 a3 a4 a5
      simp [Leaves, settle, results, Tryd.results72, go_sem, b0, c0, a0, a1, a2, a3, a4, a5]
      rw [HX.out]
      exact ⟨[.bool false, .slice none 0 0, .int .i64 0, .slice none 0 0, .slice none 0 0, .slice none 0 0], by first | rfl | exact ⟨rfl, rfl, rfl⟩, ⟨_, _, _, _, rfl, RowI.nil _ _, RowV.nil _ _, RowV.nil _ _, RowF.nil _ _⟩, g4⟩
    | ok y =>
      obtain ⟨x, q⟩ := y
      rw [hv] at hX
      have HX : Hid (X = (x, (q : Int), 0)) := hX
      refine (AnsX.ok V hv).mono ?_
      clear hX V hv
      rintro en w2 ⟨cs, rfl, c2, t2, u2⟩
      have G2 : Hid (Grew w w2) := t2.grew G0.out (by intro y hy; simp at hy; omega)
      have P3 : Hid (w2.heap[w.heap.size + 1]? = some (ic 0 3)) := t2.other P0.out (by first | (simp; done) | (simp; omega))
      have E3 : Hid (w2.heap[w.heap.size + 1 + 1]? = some (ic 0 23)) := t2.other E0.out (by first | (simp; done) | (simp; omega))
      have UC : Hid (w2.heap[w.heap.size + 1 + 1 + 1]? = some (cur (.slice sa0 l.length cap) q)) := u2.obj
      have A3 : Hid (w2.heap[w.heap.size]? = some (.cells #[.bool false, .slice none 0 0, .int .i64 0, .slice none 0 0, .slice none 0 0, .slice none 0 0] 63 (0, 0))) := t2.other A0.out (by simp; omega)
      have hlt : w.heap.size + 1 + 1 + 1 < w2.heap.size := u2.lt
      have HC0 := c2
      have hWl : w.heap.size + 1 + 1 + 1 < W.heap.size := U0.out.lt
      have hWg : w.heap.size ≤ W.heap.size := G0.out.2
      obtain ⟨sv, pv, rv, fv, hcs, z1, z2, z3, z4⟩ := c2
      obtain ⟨sa, sc, e1⟩ := row_one z1
      obtain ⟨pa, pc, e2⟩ := row_one z2
      obtain ⟨ra, rc, e3⟩ := row_one z3
      obtain ⟨fa, fc, e4⟩ := row_one z4
      subst e1
      subst e2
      subst e3
      subst e4
      subst hcs
      have HC : Hid (SubC W.heap.size w2 [.bool x.final_, .slice sa x.supers.length sc, .int .i64 x.comp.kind, .slice pa x.comp.params.length pc, .slice ra x.comp.results.length rc, .slice fa x.comp.fields.length fc] x) := HC0
      clear t2 u2 P0 E0 U0 G0 A0 HC0 z1 z2 z3 z4
      go_wp2_with fail
      generalize hw3 : w2.alloc (Obj.cells #[.bool x.final_, .slice sa x.supers.length sc, .int .i64 x.comp.kind, .slice pa x.comp.params.length pc, .slice ra x.comp.results.length rc, .slice fa x.comp.fields.length fc] 63) = w3
      have G3 : Hid (Grew w2 w3) := by rw [← hw3]; exact (Grew.refl w2).alloc _
      have D3 := (show w3.heap[w2.heap.size]? = some (.cells #[.bool x.final_, .slice sa x.supers.length sc, .int .i64 x.comp.kind, .slice pa x.comp.params.length pc, .slice ra x.comp.results.length rc, .slice fa x.comp.fields.length fc] 63 (0, 0)) by rw [← hw3]; exact heap_alloc_last _ _)
      have P4 : Hid (w3.heap[w.heap.size + 1]? = some (ic 0 3)) := (G3.out.turn []).other P3.out (by simp)
      have E4 : Hid (w3.heap[w.heap.size + 1 + 1]? = some (ic 0 23)) := (G3.out.turn []).other E3.out (by simp)
      have A4 : Hid (w3.heap[w.heap.size]? = some (.cells #[.bool false, .slice none 0 0, .int .i64 0, .slice none 0 0, .slice none 0 0, .slice none 0 0] 63 (0, 0))) := (G3.out.turn []).other A3.out (by simp)
      have UC4 := (G3.out.turn []).other UC.out (by simp)
      have u4 := cell_of UC4 1
      simp at u4
      have d0 := cell_of D3 0
      have d1 := cell_of D3 1
      have d2 := cell_of D3 2
      have d3 := cell_of D3 3
      have d4 := cell_of D3 4
      have d5 := cell_of D3 5
      simp at d0 d1 d2 d3 d4 d5
      clear hw3 UC4
      have b0 := cell_of P4.out 0
      have c0 := cell_of E4.out 0
      have y3 := free_of P4.out 0
      have y4 := free_of E4.out 0
      simp [ic] at b0 c0
      have a0 := cell_of A4.out 0
      have x0 := free_of A4.out 0
      have a1 := cell_of A4.out 1
      have x1 := free_of A4.out 1
      have a2 := cell_of A4.out 2
      have x2 := free_of A4.out 2
      have a3 := cell_of A4.out 3
      have x3 := free_of A4.out 3
      have a4 := cell_of A4.out 4
      have x4 := free_of A4.out 4
      have a5 := cell_of A4.out 5
      have x5 := free_of A4.out 5
      simp at a0 a1 a2 a3 a4 a5
      have hC3 : SubC W.heap.size w3 [.bool x.final_, .slice sa x.supers.length sc, .int .i64 x.comp.kind, .slice pa x.comp.params.length pc, .slice ra x.comp.results.length rc, .slice fa x.comp.fields.length fc] x := HC.out.turnB (G3.out.turn []) (by simp)
      have HC3 : Hid (SubC W.heap.size w3 [.bool x.final_, .slice sa x.supers.length sc, .int .i64 x.comp.kind, .slice pa x.comp.params.length pc, .slice ra x.comp.results.length rc, .slice fa x.comp.fields.length fc] x) := hC3
      have hlow : ∀ y ∈ [w.heap.size, w.heap.size + 1, w.heap.size + 1 + 1], y < W.heap.size := by
        intro y hy
        simp at hy
        omega
      clear hC3
      go_region
      all_goals
        go_wp2_with fail
        refine leaves_cons (f := 134) (args := #[.pointer (some ⟨w.heap.size + 1, 0, none⟩), .pointer (some ⟨w.heap.size + 1 + 1, 0, none⟩)]) (by simp) (by simp [go_sem]) ?_
        refine (idleSx _ _ _).mono ?_
        rintro en u' w5 ⟨rfl, rfl, rfl⟩
        simp [Leaves, settle, results, Tryd.results72, go_sem, b0, c0, a0, a1, a2, a3, a4, a5]
        rw [HX.out]
        exact ⟨[.bool x.final_, .slice sa x.supers.length sc, .int .i64 x.comp.kind, .slice pa x.comp.params.length pc, .slice ra x.comp.results.length rc, .slice fa x.comp.fields.length fc], by first | rfl | exact ⟨rfl, rfl, rfl⟩, (HC3.out.turnB (((((((((Turn.refl [w.heap.size, w.heap.size + 1, w.heap.size + 1 + 1] w3).set (p := ⟨w.heap.size, 0, none⟩) (Or.inl (by simp)) _).set (p := ⟨w.heap.size, 1, none⟩) (Or.inl (by simp)) _).set (p := ⟨w.heap.size, 2, none⟩) (Or.inl (by simp)) _).set (p := ⟨w.heap.size, 3, none⟩) (Or.inl (by simp)) _).set (p := ⟨w.heap.size, 4, none⟩) (Or.inl (by simp)) _).set (p := ⟨w.heap.size, 5, none⟩) (Or.inl (by simp)) _).set (p := ⟨w.heap.size + 1, 0, none⟩) (Or.inl (by simp)) _).set (p := ⟨w.heap.size + 1 + 1, 0, none⟩) (Or.inl (by simp)) _).drew hlow).low hWg, (((((((((G2.out.trans G3.out).set (p := ⟨w.heap.size, 0, none⟩) (by simp) _).set (p := ⟨w.heap.size, 1, none⟩) (by simp) _).set (p := ⟨w.heap.size, 2, none⟩) (by simp) _).set (p := ⟨w.heap.size, 3, none⟩) (by simp) _).set (p := ⟨w.heap.size, 4, none⟩) (by simp) _).set (p := ⟨w.heap.size, 5, none⟩) (by simp) _).set (p := ⟨w.heap.size + 1, 0, none⟩) (by first | (simp; done) | (simp; omega)) _).set (p := ⟨w.heap.size + 1 + 1, 0, none⟩) (by first | (simp; done) | (simp; omega)) _).drew⟩
  · rw [topR_out hin]
    by_cases h0 : x < 0
    · have d1 : decide (x < 0) = true := by simpa using h0
      clear hR hB hT hin
      go_enter_defers Tryd.func72, Tryd.ntmps72
      go_wp2_with fail
      simp [bodyPostD, Leaves, settle, results, Tryd.results72, go_sem]
      exact ⟨⟨_, _, _, _, rfl, RowI.nil _ _, RowV.nil _ _, RowV.nil _ _, RowF.nil _ _⟩, (((Grew.refl w).alloc _).alloc _).alloc _⟩
    · have d1 : decide (x < 0) = false := by simpa using h0
      have d2 : decide ((l.length : Int) < x) = true := by simp; omega
      clear hR hB hT hin
      go_enter_defers Tryd.func72, Tryd.ntmps72
      go_wp2_with fail
      simp [bodyPostD, Leaves, settle, results, Tryd.results72, go_sem]
      exact ⟨⟨_, _, _, _, rfl, RowI.nil _ _, RowV.nil _ _, RowV.nil _ _, RowF.nil _ _⟩, (((Grew.refl w).alloc _).alloc _).alloc _⟩
set_option maxRecDepth 100000 in
set_option maxHeartbeats 1000000 in
theorem topSx_any (v : Value) (l : List Int) (x : Int) (w : World) (hR : Reads w v l) (hB : Byt l) (hl : l.length ≤ 140737488351232) (hT : Tab w) :
    Calls Tryd.prog 23 #[v, .int .i64 x] w fun en w' => ∃ cs, en = .returned (.tuple #[.agg cs.toArray, .int .i64 (topR (subR l) ⟨false, [], ⟨0, [], [], []⟩⟩ l x).2.1, .int .i64 (topR (subR l) ⟨false, [], ⟨0, [], [], []⟩⟩ l x).2.2]) ∧ SubC w.heap.size w' cs (topR (subR l) ⟨false, [], ⟨0, [], [], []⟩⟩ l x).1 ∧ Grew w w' := by
  have C : Hid (∀ w1, Grew w w1 → Calls Tryd.prog 72 #[v, .int .i64 x, .func (.func 73) #[] #[]] w1 fun en w' => ∃ cs, en = .returned (.tuple #[.agg cs.toArray, .int .i64 (topR (subR l) ⟨false, [], ⟨0, [], [], []⟩⟩ l x).2.1, .int .i64 (topR (subR l) ⟨false, [], ⟨0, [], [], []⟩⟩ l x).2.2]) ∧ SubC w1.heap.size w' cs (topR (subR l) ⟨false, [], ⟨0, [], [], []⟩⟩ l x).1 ∧ Grew w1 w') := fun w1 g => readSx_any v l x w1 (g.reads hR) hB hl (hT.grew g)
  obtain ⟨sa0, cap, rfl⟩ := hR.len
  clear hR hT hB
  generalize topR (subR l) ⟨false, [], ⟨0, [], [], []⟩⟩ l x = X at *
  obtain ⟨x, pl, e⟩ := X
  simp only at C ⊢
  go_enter Tryd.func23, Tryd.ntmps23
  go_wp2_with fail
  refine (C.out _ ((Grew.refl w).alloc _)).mono ?_
  rintro en w1 ⟨cs, rfl, c2, g1⟩
  have hN := (g1.turn []).other (heap_alloc_last _ _) (by simp)
  have HN : Hid (w1.heap[w.heap.size]? = some (.cells #[.bool false, .slice none 0 0, .int .i64 0, .slice none 0 0, .slice none 0 0, .slice none 0 0] 63 (0, 0))) := hN
  have nc0 := cell_of hN 0
  have z0_ := free_of hN 0
  have nc1 := cell_of hN 1
  have z1_ := free_of hN 1
  have nc2 := cell_of hN 2
  have z2_ := free_of hN 2
  have nc3 := cell_of hN 3
  have z3_ := free_of hN 3
  have nc4 := cell_of hN 4
  have z4_ := free_of hN 4
  have nc5 := cell_of hN 5
  have z5_ := free_of hN 5
  simp at nc0 nc1 nc2 nc3 nc4 nc5
  have G1 : Hid (Grew w w1) := ((Grew.refl w).alloc _).trans g1
  replace c2 : SubC w.heap.size w1 cs x := c2.low (by simp)
  have HC0 := c2
  obtain ⟨sv, pv, rv, fv, hcs, z1, z2, z3, z4⟩ := c2
  obtain ⟨sa, sc, e1⟩ := row_one z1
  obtain ⟨pa, pc, e2⟩ := row_one z2
  obtain ⟨ra, rc, e3⟩ := row_one z3
  obtain ⟨fa, fc, e4⟩ := row_one z4
  subst e1
  subst e2
  subst e3
  subst e4
  subst hcs
  have HC : Hid (SubC w.heap.size w1 [.bool x.final_, .slice sa x.supers.length sc, .int .i64 x.comp.kind, .slice pa x.comp.params.length pc, .slice ra x.comp.results.length rc, .slice fa x.comp.fields.length fc] x) := HC0
  clear hN g1 HC0 z1 z2 z3 z4
  go_wp2_with fail
  refine bodyPost_ret (v := .tuple #[.agg #[.bool x.final_, .slice sa x.supers.length sc, .int .i64 x.comp.kind, .slice pa x.comp.params.length pc, .slice ra x.comp.results.length rc, .slice fa x.comp.fields.length fc], .int .i64 pl, .int .i64 e]) (by simp [results, Tryd.results23, go_sem, nc0, nc1, nc2, nc3, nc4, nc5]) rfl ?_
  have hNT : ∀ (e : TypeId), 63 ≠ e → ∀ y ∈ [w.heap.size], NoT w1 y e := fun e he y hy => by simp at hy; subst hy; exact NoT.of HN.out he
  exact ⟨[.bool x.final_, .slice sa x.supers.length sc, .int .i64 x.comp.kind, .slice pa x.comp.params.length pc, .slice ra x.comp.results.length rc, .slice fa x.comp.fields.length fc], rfl, HC.out.turn (((((((Turn.refl [w.heap.size] w1).set (p := ⟨w.heap.size, 0, none⟩) (Or.inl (by simp)) _).set (p := ⟨w.heap.size, 1, none⟩) (Or.inl (by simp)) _).set (p := ⟨w.heap.size, 2, none⟩) (Or.inl (by simp)) _).set (p := ⟨w.heap.size, 3, none⟩) (Or.inl (by simp)) _).set (p := ⟨w.heap.size, 4, none⟩) (Or.inl (by simp)) _).set (p := ⟨w.heap.size, 5, none⟩) (Or.inl (by simp)) _) (hNT 3 (by decide)) (hNT 29 (by decide)) (hNT 48 (by decide)), ((((((G1.out.set (p := ⟨w.heap.size, 0, none⟩) (by simp) _).set (p := ⟨w.heap.size, 1, none⟩) (by simp) _).set (p := ⟨w.heap.size, 2, none⟩) (by simp) _).set (p := ⟨w.heap.size, 3, none⟩) (by simp) _).set (p := ⟨w.heap.size, 4, none⟩) (by simp) _).set (p := ⟨w.heap.size, 5, none⟩) (by simp) _)⟩
end Go.Proofs.YtgdhocdbcgmokaaDoor
