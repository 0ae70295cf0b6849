/-
  The walks of readAt at lists of value types, and of ValTypes; no statement is proved here.
-/
import Derived.Test.YtohapnninjdlfaaGreatDoorTopV
namespace Go.Proofs.YtohapnninjdlfaaGreatDoor
open Go.RowKit
set_option linter.unusedVariables false
set_option linter.unusedSimpArgs false
set_option linter.constructorNameAsVariable false

set_option maxRecDepth 100000 in
set_option maxHeartbeats 1000000 in
theorem caughtB (bA bE : Nat) (p e x y : Int) (older : List PanicEntry) (w : World) (hA : w.heap[bA]? = some (ic x 3)) (hE : w.heap[bE]? = some (ic y 37)) (hne : bE ≠ bA) :
    CallsD Tryz.prog 123 #[.pointer (some ⟨bA, 0, none⟩), .pointer (some ⟨bE, 0, none⟩)] (.panicking ({ v := .iface 175 (.agg #[.int .i64 p, .int .i64 e]), recovered := false } :: older)) w fun en u' w' =>
      en = .returned (.tuple #[]) ∧ u' = .panicking ({ v := .iface 175 (.agg #[.int .i64 p, .int .i64 e]), recovered := true } :: older) ∧ Turn [bA, bE] w w' ∧ w'.heap[bA]? = some (ic p 3) ∧ w'.heap[bE]? = some (ic e 37) := by
  have c0 := cell_of hA 0
  have c1 := cell_of hE 0
  have z0 := free_of hA 0
  have z1 := free_of hE 0
  simp at c0 c1
  have HA : Hid (w.heap[bA]? = some (ic x 3)) := hA
  have HE : Hid (w.heap[bE]? = some (ic y 37)) := hE
  have lA := lt_of_obj hA
  have lE := lt_of_obj hE
  clear hA hE
  refine callsD_of_wpS Tryz.func123 rfl fun c₀ cs hu => ?_
  apply wpS_seq
  apply wpS_region
  simp [wpOpsS, go_sem, recoverD, hu, Tryz.ntmps123, Exit.thenS]
  refine wpS_of_wp ?_
  rw [show (#[Value.pointer (some { block := bA, off := 0 }), Value.pointer (some { block := bE, off := 0 })] ++
          ((Array.replicate 11 undef).setIfInBounds 2 (Value.iface 175 (Value.agg #[Value.int IntKind.i64 p, Value.int IntKind.i64 e]))).setIfInBounds 0 (Value.iface 175 (Value.agg #[Value.int IntKind.i64 p, Value.int IntKind.i64 e])) : Array Value) = #[Value.pointer (some { block := bA, off := 0 }), Value.pointer (some { block := bE, off := 0 }), Value.iface 175 (Value.agg #[Value.int IntKind.i64 p, Value.int IntKind.i64 e]), undef, Value.iface 175 (Value.agg #[Value.int IntKind.i64 p, Value.int IntKind.i64 e]), undef, undef, undef, undef, undef, undef, undef, undef] from rfl]
  clear hu
  have ha := assertF
  go_wp2_with fail
  go_region
  all_goals
    go_wp2_with fail
    simp [bodyPostS, results, Tryz.results123]
    refine ⟨?_, ?_, ?_⟩
    · exact ((((Turn.refl [bA, bE] w).set (p := ⟨bA, 0, none⟩) (Or.inl (by simp)) _).set (p := ⟨bE, 0, none⟩) (Or.inl (by simp)) _).alloc _).drew
    · exact heap_alloc (heap_other (o := ic p 3) (p := ⟨bE, 0, none⟩) (by rw [heap_set HA.out]; rfl) (show bA ≠ bE from hne.symm) _) _
    · exact heap_alloc (o := ic e 37) ((heap_set (heap_other (p := ⟨bA, 0, none⟩) HE.out (show bE ≠ bA from hne) _) 0 _).trans rfl) _
theorem idleB (bA bE : Nat) (w : World) :
    CallsD Tryz.prog 123 #[.pointer (some ⟨bA, 0, none⟩), .pointer (some ⟨bE, 0, none⟩)] .returning w fun en u' w' => en = .returned (.tuple #[]) ∧ u' = .returning ∧ w' = w := by
  refine callsD_of_wpS Tryz.func123 rfl fun c₀ cs hu => ?_
  apply wpS_seq
  apply wpS_region
  simp [wpOpsS, go_sem, recoverD, hu, Tryz.ntmps123, Exit.thenS]
  refine wpS_of_wp ?_
  rw [show (#[Value.pointer (some { block := bA, off := 0 }), Value.pointer (some { block := bE, off := 0 })] ++
          ((Array.replicate 11 undef).setIfInBounds 2 Value.nilIface).setIfInBounds 0 Value.nilIface : Array Value) = #[Value.pointer (some { block := bA, off := 0 }), Value.pointer (some { block := bE, off := 0 }), .nilIface, undef, .nilIface, undef, undef, undef, undef, undef, undef, undef, undef] from rfl]
  go_wp2
  cases c₀
  simp_all [bodyPostS, results, Tryz.results123]
def ansB (x : BK × Int × Int) : Value := .tuple #[x.1.v, .int .i64 x.2.1, .int .i64 x.2.2]
set_option maxRecDepth 100000 in
set_option maxHeartbeats 1000000 in
theorem readAtB_any (v : Value) (l : List Int) (x : Int) (w : World) (hR : Reads w v l) (hB : Byt l) (hl : l.length ≤ 140737488351232) (hT : Tab w) :
    Calls Tryz.prog 98 #[v, .int .i64 x, .func (.func 99) #[] #[]] w fun en w' => en = .returned (ansB (topR (blockR l) ⟨0, ⟨0, false, 0⟩⟩ l x)) ∧ Grew w w' := by
  have hmf : ∀ (fn : Fn) (first cap : Array Value) (w : World), (Instr.makeFunc fn first cap).run Tryz.prog w = .ok (.func fn first cap) w := fun _ _ _ _ => rfl
  obtain ⟨sa, cap, rfl⟩ := hR.len
  by_cases hin : 0 ≤ x ∧ x ≤ l.length
  · obtain ⟨p, rfl⟩ : ∃ p : Nat, x = p := ⟨x.toNat, by omega⟩
    have hp : p ≤ l.length := by omega
    have d1 : decide ((p : Int) < 0) = false := by simp
    have d2 : decide ((l.length : Int) < (p : Int)) = false := by simp; omega
    have HR : Hid (Reads w (.slice sa l.length cap) l) := hR
    have HB : Hid (Byt l) := hB
    have HT : Hid (Tab w) := hT
    have hpos := hT.pos
    obtain ⟨X, hX⟩ : ∃ X, X = topR (blockR l) ⟨0, ⟨0, false, 0⟩⟩ l (p : Int) := ⟨_, rfl⟩
    rw [← hX]
    rw [topR_in hp] at hX
    clear hR hB hT hin
    go_enter_defers Tryz.func98, Tryz.ntmps98
    go_wp2_with fail
    generalize hW : ((((w.alloc (Obj.cells #[Value.int IntKind.i64 0, Value.int IntKind.i64 0, Value.bool false, Value.int IntKind.i64 0] 30)).alloc (Obj.cells #[Value.int IntKind.i64 0] 3)).alloc (Obj.cells #[Value.int IntKind.i64 0] 37)).alloc (Obj.cells #[Value.slice sa l.length cap, Value.int IntKind.i64 ↑p] 177)) = W
    have G0 : Hid (Grew w W) := by rw [← hW]; exact ((((Grew.refl w).alloc _).alloc _).alloc _).alloc _
    obtain ⟨A0, P0, E0, o0⟩ : Hid (W.heap[w.heap.size]? = some (.cells #[.int .i64 0, .int .i64 0, .bool false, .int .i64 0] 30 (0, 0))) ∧ Hid (W.heap[w.heap.size + 1]? = some (ic 0 3)) ∧ Hid (W.heap[w.heap.size + 1 + 1]? = some (ic 0 37)) ∧ W.heap[w.heap.size + 1 + 1 + 1]? = some (cur (.slice sa l.length cap) p) := by
      rw [← hW]
      exact heap_four _ _ _ _ _
    have U0 : Hid (CU W (w.heap.size + 1 + 1 + 1) (.slice sa l.length cap) l p) := ⟨o0, G0.out.reads HR.out, HB.out, hl, hp, HT.out.grew G0.out, by omega⟩
    clear hW o0
    have V := blockType_any U0.out
    cases hv : blockR l p with
    | error y =>
      obtain ⟨f, e⟩ := y
      rw [hv] at V hX
      have HX : Hid (X = (⟨0, ⟨0, false, 0⟩⟩, (f : Int), (e : Int))) := hX
      clear hv hX
      refine V.mono ?_
      rintro en w2 ⟨rfl, t2⟩
      have g2 : Grew w w2 := t2.grew G0.out (by intro y hy; simp at hy; omega)
      have T2 : Hid (Turn [w.heap.size + 1 + 1 + 1] W w2) := t2
      have P3 := t2.other P0.out (by first | (simp; done) | (simp; omega))
      have E3 := t2.other E0.out (by first | (simp; done) | (simp; omega))
      have A3 := t2.other A0.out (by simp; omega)
      clear V t2
      unfold flt
      go_wp2_with fail
      refine leaves_cons (f := 123) (args := #[.pointer (some ⟨w.heap.size + 1, 0, none⟩), .pointer (some ⟨w.heap.size + 1 + 1, 0, none⟩)]) (by simp) (by simp [go_sem]) ?_
      refine (caughtB _ _ f e 0 0 [] _ P3 E3 (by omega)).mono ?_
      rintro en u' w4 ⟨rfl, rfl, t4, p4, e4⟩
      have g4 : Grew w w4 := t4.grew g2 (by intro y hy; simp at hy; omega)
      have b0 := cell_of p4 0
      have c0 := cell_of e4 0
      simp [ic] at b0 c0
      have A4 := t4.other A3 (by simp; omega)
      have a0 := cell_of A4 0
      have a1 := cell_of A4 1
      have a2 := cell_of A4 2
      have a3 := cell_of A4 3
      simp at a0 a1 a2 a3
      simp [Leaves, settle, results, Tryz.results98, go_sem, b0, c0, a0, a1, a2, a3]
      rw [HX.out]
      exact ⟨rfl, g4⟩
    | ok y =>
      obtain ⟨⟨t, ⟨n, nul, hpt⟩⟩, q⟩ := y
      rw [hv] at V hX
      have HX : Hid (X = (⟨t, ⟨n, nul, hpt⟩⟩, (q : Int), 0)) := hX
      clear hv hX
      refine V.mono ?_
      rintro en w2 ⟨rfl, t2, u2⟩
      have G2 : Hid (Grew w w2) := t2.grew G0.out (by intro y hy; simp at hy; omega)
      have P3 : Hid (w2.heap[w.heap.size + 1]? = some (ic 0 3)) := t2.other P0.out (by first | (simp; done) | (simp; omega))
      have E3 : Hid (w2.heap[w.heap.size + 1 + 1]? = some (ic 0 37)) := t2.other E0.out (by first | (simp; done) | (simp; omega))
      have u1 := u2.c1
      have UC : Hid (w2.heap[w.heap.size + 1 + 1 + 1]? = some (cur (.slice sa l.length cap) q)) := u2.obj
      have A3 : Hid (w2.heap[w.heap.size]? = some (.cells #[.int .i64 0, .int .i64 0, .bool false, .int .i64 0] 30 (0, 0))) := t2.other A0.out (by simp; omega)
      have hlt : w.heap.size + 1 + 1 + 1 < w2.heap.size := u2.lt
      clear V t2 u2 P0 E0 U0 G0 A0
      unfold BK.v
      go_wp2_with fail
      generalize hw3 : w2.alloc (Obj.cells #[Value.int IntKind.i64 t, Value.int IntKind.i64 n, Value.bool nul, Value.int IntKind.i64 hpt] 30) = w3
      have G3 : Hid (Grew w2 w3) := by rw [← hw3]; exact (Grew.refl w2).alloc _
      have D3 := (show w3.heap[w2.heap.size]? = some (.cells #[Value.int IntKind.i64 t, Value.int IntKind.i64 n, Value.bool nul, Value.int IntKind.i64 hpt] 30 (0, 0)) by rw [← hw3]; exact heap_alloc_last _ _)
      have P4 : Hid (w3.heap[w.heap.size + 1]? = some (ic 0 3)) := (G3.out.turn []).other P3.out (by simp)
      have E4 : Hid (w3.heap[w.heap.size + 1 + 1]? = some (ic 0 37)) := (G3.out.turn []).other E3.out (by simp)
      have A4 : Hid (w3.heap[w.heap.size]? = some (.cells #[.int .i64 0, .int .i64 0, .bool false, .int .i64 0] 30 (0, 0))) := (G3.out.turn []).other A3.out (by simp)
      have UC4 := (G3.out.turn []).other UC.out (by simp)
      have u4 := cell_of UC4 1
      simp at u4
      have d0 := cell_of D3 0
      have d1 := cell_of D3 1
      have d2 := cell_of D3 2
      have d3 := cell_of D3 3
      simp at d0 d1 d2 d3
      clear hw3 u1 UC4
      have b0 := cell_of P4.out 0
      have c0 := cell_of E4.out 0
      have y3 := free_of P4.out 0
      have y4 := free_of E4.out 0
      simp [ic] at b0 c0
      have a0 := cell_of A4.out 0
      have x0 := free_of A4.out 0
      have a1 := cell_of A4.out 1
      have x1 := free_of A4.out 1
      have a2 := cell_of A4.out 2
      have x2 := free_of A4.out 2
      have a3 := cell_of A4.out 3
      have x3 := free_of A4.out 3
      simp at a0 a1 a2 a3
      go_region
      all_goals
        go_wp2_with fail
        refine leaves_cons (f := 123) (args := #[.pointer (some ⟨w.heap.size + 1, 0, none⟩), .pointer (some ⟨w.heap.size + 1 + 1, 0, none⟩)]) (by simp) (by simp [go_sem]) ?_
        refine (idleB _ _ _).mono ?_
        rintro en u' w5 ⟨rfl, rfl, rfl⟩
        simp [Leaves, settle, results, Tryz.results98, go_sem, b0, c0, a0, a1, a2, a3]
        rw [HX.out]
        exact ⟨rfl, (((((((G2.out.trans G3.out).set (p := ⟨w.heap.size, 0, none⟩) (by simp) _).set (p := ⟨w.heap.size, 1, none⟩) (by simp) _).set (p := ⟨w.heap.size, 2, none⟩) (by simp) _).set (p := ⟨w.heap.size, 3, none⟩) (by simp) _).set (p := ⟨w.heap.size + 1, 0, none⟩) (by first | (simp; done) | (simp; omega)) _).set (p := ⟨w.heap.size + 1 + 1, 0, none⟩) (by first | (simp; done) | (simp; omega)) _).drew⟩
  · rw [topR_out hin]
    by_cases h0 : x < 0
    · have d1 : decide (x < 0) = true := by simpa using h0
      clear hR hB hT hin
      go_enter_defers Tryz.func98, Tryz.ntmps98
      go_wp2_with fail
      simp [bodyPostD, Leaves, settle, results, Tryz.results98, go_sem]
      exact ⟨rfl, (((Grew.refl w).alloc _).alloc _).alloc _⟩
    · have d1 : decide (x < 0) = false := by simpa using h0
      have d2 : decide ((l.length : Int) < x) = true := by simp; omega
      clear hR hB hT hin
      go_enter_defers Tryz.func98, Tryz.ntmps98
      go_wp2_with fail
      simp [bodyPostD, Leaves, settle, results, Tryz.results98, go_sem]
      exact ⟨rfl, (((Grew.refl w).alloc _).alloc _).alloc _⟩
set_option maxRecDepth 100000 in
set_option maxHeartbeats 1000000 in
theorem topB_any (v : Value) (l : List Int) (x : Int) (w : World) (hR : Reads w v l) (hB : Byt l) (hl : l.length ≤ 140737488351232) (hT : Tab w) :
    Calls Tryz.prog 69 #[v, .int .i64 x] w fun en w' => en = .returned (ansB (topR (blockR l) ⟨0, ⟨0, false, 0⟩⟩ l x)) ∧ Grew w w' := by
  have C : Hid (∀ w1, Grew w w1 → Calls Tryz.prog 98 #[v, .int .i64 x, .func (.func 99) #[] #[]] w1 fun en w' => en = .returned (ansB (topR (blockR l) ⟨0, ⟨0, false, 0⟩⟩ l x)) ∧ Grew w1 w') := fun w1 g => readAtB_any v l x w1 (g.reads hR) hB hl (hT.grew g)
  obtain ⟨sa, cap, rfl⟩ := hR.len
  clear hR hT hB
  generalize topR (blockR l) ⟨0, ⟨0, false, 0⟩⟩ l x = X at *
  obtain ⟨⟨t, ⟨n, nul, hpt⟩⟩, pl, e⟩ := X
  unfold ansB BK.v at *
  simp only at C ⊢
  go_enter Tryz.func69, Tryz.ntmps69
  go_wp2_with fail
  refine (C.out _ ((Grew.refl w).alloc _)).mono ?_
  rintro en w1 ⟨rfl, g1⟩
  have hN := (g1.turn []).other (heap_alloc_last _ _) (by simp)
  have c0 := cell_of hN 0
  have z0 := free_of hN 0
  have c1 := cell_of hN 1
  have z1 := free_of hN 1
  have c2 := cell_of hN 2
  have z2 := free_of hN 2
  have c3 := cell_of hN 3
  have z3 := free_of hN 3
  simp at c0 c1 c2 c3
  have G1 : Hid (Grew w w1) := ((Grew.refl w).alloc _).trans g1
  clear hN g1
  go_wp2_with fail
  refine bodyPost_ret (v := .tuple #[BK.v ⟨t, ⟨n, nul, hpt⟩⟩, .int .i64 pl, .int .i64 e]) (by simp [results, Tryz.results69, go_sem, BK.v, c0, c1, c2, c3]) rfl ?_
  exact ⟨rfl, ((((G1.out.set (p := ⟨w.heap.size, 0, none⟩) (by simp) _).set (p := ⟨w.heap.size, 1, none⟩) (by simp) _).set (p := ⟨w.heap.size, 2, none⟩) (by simp) _).set (p := ⟨w.heap.size, 3, none⟩) (by simp) _)⟩
end Go.Proofs.YtohapnninjdlfaaGreatDoor

namespace Go.Proofs.YtohapnninjdlfaaGreatDoor
open Go.RowKit
set_option linter.unusedVariables false
set_option linter.unusedSimpArgs false
set_option linter.constructorNameAsVariable false

set_option maxRecDepth 100000 in
set_option maxHeartbeats 1000000 in
theorem caughtH (bA bE : Nat) (p e x y : Int) (older : List PanicEntry) (w : World) (hA : w.heap[bA]? = some (ic x 3)) (hE : w.heap[bE]? = some (ic y 37)) (hne : bE ≠ bA) :
    CallsD Tryz.prog 131 #[.pointer (some ⟨bA, 0, none⟩), .pointer (some ⟨bE, 0, none⟩)] (.panicking ({ v := .iface 175 (.agg #[.int .i64 p, .int .i64 e]), recovered := false } :: older)) w fun en u' w' =>
      en = .returned (.tuple #[]) ∧ u' = .panicking ({ v := .iface 175 (.agg #[.int .i64 p, .int .i64 e]), recovered := true } :: older) ∧ Turn [bA, bE] w w' ∧ w'.heap[bA]? = some (ic p 3) ∧ w'.heap[bE]? = some (ic e 37) := by
  have c0 := cell_of hA 0
  have c1 := cell_of hE 0
  have z0 := free_of hA 0
  have z1 := free_of hE 0
  simp at c0 c1
  have HA : Hid (w.heap[bA]? = some (ic x 3)) := hA
  have HE : Hid (w.heap[bE]? = some (ic y 37)) := hE
  have lA := lt_of_obj hA
  have lE := lt_of_obj hE
  clear hA hE
  refine callsD_of_wpS Tryz.func131 rfl fun c₀ cs hu => ?_
  apply wpS_seq
  apply wpS_region
  simp [wpOpsS, go_sem, recoverD, hu, Tryz.ntmps131, Exit.thenS]
  refine wpS_of_wp ?_
  rw [show (#[Value.pointer (some { block := bA, off := 0 }), Value.pointer (some { block := bE, off := 0 })] ++
          ((Array.replicate 11 undef).setIfInBounds 2 (Value.iface 175 (Value.agg #[Value.int IntKind.i64 p, Value.int IntKind.i64 e]))).setIfInBounds 0 (Value.iface 175 (Value.agg #[Value.int IntKind.i64 p, Value.int IntKind.i64 e])) : Array Value) = #[Value.pointer (some { block := bA, off := 0 }), Value.pointer (some { block := bE, off := 0 }), Value.iface 175 (Value.agg #[Value.int IntKind.i64 p, Value.int IntKind.i64 e]), undef, Value.iface 175 (Value.agg #[Value.int IntKind.i64 p, Value.int IntKind.i64 e]), undef, undef, undef, undef, undef, undef, undef, undef] from rfl]
  clear hu
  have ha := assertF
  go_wp2_with fail
  go_region
  all_goals
    go_wp2_with fail
    simp [bodyPostS, results, Tryz.results131]
    refine ⟨?_, ?_, ?_⟩
    · exact ((((Turn.refl [bA, bE] w).set (p := ⟨bA, 0, none⟩) (Or.inl (by simp)) _).set (p := ⟨bE, 0, none⟩) (Or.inl (by simp)) _).alloc _).drew
    · exact heap_alloc (heap_other (o := ic p 3) (p := ⟨bE, 0, none⟩) (by rw [heap_set HA.out]; rfl) (show bA ≠ bE from hne.symm) _) _
    · exact heap_alloc (o := ic e 37) ((heap_set (heap_other (p := ⟨bA, 0, none⟩) HE.out (show bE ≠ bA from hne) _) 0 _).trans rfl) _
theorem idleH (bA bE : Nat) (w : World) :
    CallsD Tryz.prog 131 #[.pointer (some ⟨bA, 0, none⟩), .pointer (some ⟨bE, 0, none⟩)] .returning w fun en u' w' => en = .returned (.tuple #[]) ∧ u' = .returning ∧ w' = w := by
  refine callsD_of_wpS Tryz.func131 rfl fun c₀ cs hu => ?_
  apply wpS_seq
  apply wpS_region
  simp [wpOpsS, go_sem, recoverD, hu, Tryz.ntmps131, Exit.thenS]
  refine wpS_of_wp ?_
  rw [show (#[Value.pointer (some { block := bA, off := 0 }), Value.pointer (some { block := bE, off := 0 })] ++
          ((Array.replicate 11 undef).setIfInBounds 2 Value.nilIface).setIfInBounds 0 Value.nilIface : Array Value) = #[Value.pointer (some { block := bA, off := 0 }), Value.pointer (some { block := bE, off := 0 }), .nilIface, undef, .nilIface, undef, undef, undef, undef, undef, undef, undef, undef] from rfl]
  go_wp2
  cases c₀
  simp_all [bodyPostS, results, Tryz.results131]
def ansH (x : Int × Int × Int) : Value := .tuple #[.int .i64 x.1, .int .i64 x.2.1, .int .i64 x.2.2]
set_option maxRecDepth 100000 in
set_option maxHeartbeats 1000000 in
theorem readAtH_any (v : Value) (l : List Int) (x : Int) (w : World) (hR : Reads w v l) (hB : Byt l) (hl : l.length ≤ 140737488351232) (hT : Tab w) :
    Calls Tryz.prog 113 #[v, .int .i64 x, .func (.func 114) #[] #[]] w fun en w' => en = .returned (ansH (topR (heapR l) 0 l x)) ∧ Grew w w' := by
  have hmf : ∀ (fn : Fn) (first cap : Array Value) (w : World), (Instr.makeFunc fn first cap).run Tryz.prog w = .ok (.func fn first cap) w := fun _ _ _ _ => rfl
  obtain ⟨sa, cap, rfl⟩ := hR.len
  by_cases hin : 0 ≤ x ∧ x ≤ l.length
  · obtain ⟨p, rfl⟩ : ∃ p : Nat, x = p := ⟨x.toNat, by omega⟩
    have hp : p ≤ l.length := by omega
    have d1 : decide ((p : Int) < 0) = false := by simp
    have d2 : decide ((l.length : Int) < (p : Int)) = false := by simp; omega
    have HR : Hid (Reads w (.slice sa l.length cap) l) := hR
    have HB : Hid (Byt l) := hB
    have HT : Hid (Tab w) := hT
    have hpos := hT.pos
    obtain ⟨X, hX⟩ : ∃ X, X = topR (heapR l) 0 l (p : Int) := ⟨_, rfl⟩
    rw [← hX]
    rw [topR_in hp] at hX
    clear hR hB hT hin
    go_enter_defers Tryz.func113, Tryz.ntmps113
    go_wp2_with fail
    generalize hW : (((w.alloc (Obj.cells #[Value.int IntKind.i64 0] 3)).alloc (Obj.cells #[Value.int IntKind.i64 0] 37)).alloc (Obj.cells #[Value.slice sa l.length cap, Value.int IntKind.i64 ↑p] 177)) = W
    have G0 : Hid (Grew w W) := by rw [← hW]; exact (((Grew.refl w).alloc _).alloc _).alloc _
    obtain ⟨P0, E0, o0⟩ : Hid (W.heap[w.heap.size]? = some (ic 0 3)) ∧ Hid (W.heap[w.heap.size + 1]? = some (ic 0 37)) ∧ W.heap[w.heap.size + 1 + 1]? = some (cur (.slice sa l.length cap) p) := by
      rw [← hW]
      exact heap_three _ _ _ _
    have U0 : Hid (CU W (w.heap.size + 1 + 1) (.slice sa l.length cap) l p) := ⟨o0, G0.out.reads HR.out, HB.out, hl, hp, HT.out.grew G0.out, by omega⟩
    clear hW o0
    have V := heapType_any U0.out
    cases hv : heapR l p with
    | error y =>
      obtain ⟨f, e⟩ := y
      rw [hv] at V hX
      have HX : Hid (X = (0, (f : Int), (e : Int))) := hX
      clear hv hX
      refine V.mono ?_
      rintro en w2 ⟨rfl, t2⟩
      have g2 : Grew w w2 := t2.grew G0.out (by intro y hy; simp at hy; omega)
      have T2 : Hid (Turn [w.heap.size + 1 + 1] W w2) := t2
      have P3 := t2.other P0.out (by first | (simp; done) | (simp; omega))
      have E3 := t2.other E0.out (by first | (simp; done) | (simp; omega))
      clear V t2
      unfold flt
      go_wp2_with fail
      refine leaves_cons (f := 131) (args := #[.pointer (some ⟨w.heap.size, 0, none⟩), .pointer (some ⟨w.heap.size + 1, 0, none⟩)]) (by simp) (by simp [go_sem]) ?_
      refine (caughtH _ _ f e 0 0 [] _ P3 E3 (by omega)).mono ?_
      rintro en u' w4 ⟨rfl, rfl, t4, p4, e4⟩
      have g4 : Grew w w4 := t4.grew g2 (by intro y hy; simp at hy; omega)
      have b0 := cell_of p4 0
      have c0 := cell_of e4 0
      simp [ic] at b0 c0
      simp [Leaves, settle, results, Tryz.results113, go_sem, b0, c0]
      rw [HX.out]
      exact ⟨rfl, g4⟩
    | ok y =>
      obtain ⟨n, q⟩ := y
      rw [hv] at V hX
      have HX : Hid (X = (n, (q : Int), 0)) := hX
      clear hv hX
      refine V.mono ?_
      rintro en w2 ⟨rfl, t2, u2⟩
      have G2 : Hid (Grew w w2) := t2.grew G0.out (by intro y hy; simp at hy; omega)
      have P3 : Hid (w2.heap[w.heap.size]? = some (ic 0 3)) := t2.other P0.out (by first | (simp; done) | (simp; omega))
      have E3 : Hid (w2.heap[w.heap.size + 1]? = some (ic 0 37)) := t2.other E0.out (by first | (simp; done) | (simp; omega))
      have u1 := u2.c1
      have hlt : w.heap.size + 1 + 1 < w2.heap.size := u2.lt
      clear V t2 u2 P0 E0 U0 G0
      skip
      have b0 := cell_of P3.out 0
      have c0 := cell_of E3.out 0
      have y3 := free_of P3.out 0
      have y4 := free_of E3.out 0
      simp [ic] at b0 c0
      go_wp2_with fail
      go_region
      all_goals
        go_wp2_with fail
        refine leaves_cons (f := 131) (args := #[.pointer (some ⟨w.heap.size, 0, none⟩), .pointer (some ⟨w.heap.size + 1, 0, none⟩)]) (by simp) (by simp [go_sem]) ?_
        refine (idleH _ _ _).mono ?_
        rintro en u' w5 ⟨rfl, rfl, rfl⟩
        simp [Leaves, settle, results, Tryz.results113, go_sem, b0, c0]
        rw [HX.out]
        exact ⟨rfl, ((G2.out.set (p := ⟨w.heap.size, 0, none⟩) (by first | (simp; done) | (simp; omega)) _).set (p := ⟨w.heap.size + 1, 0, none⟩) (by first | (simp; done) | (simp; omega)) _).drew⟩
  · rw [topR_out hin]
    by_cases h0 : x < 0
    · have d1 : decide (x < 0) = true := by simpa using h0
      clear hR hB hT hin
      go_enter_defers Tryz.func113, Tryz.ntmps113
      go_wp2_with fail
      simp [bodyPostD, Leaves, settle, results, Tryz.results113, go_sem]
      exact ⟨rfl, ((Grew.refl w).alloc _).alloc _⟩
    · have d1 : decide (x < 0) = false := by simpa using h0
      have d2 : decide ((l.length : Int) < x) = true := by simp; omega
      clear hR hB hT hin
      go_enter_defers Tryz.func113, Tryz.ntmps113
      go_wp2_with fail
      simp [bodyPostD, Leaves, settle, results, Tryz.results113, go_sem]
      exact ⟨rfl, ((Grew.refl w).alloc _).alloc _⟩
set_option maxRecDepth 100000 in
set_option maxHeartbeats 1000000 in
theorem topH_any (v : Value) (l : List Int) (x : Int) (w : World) (hR : Reads w v l) (hB : Byt l) (hl : l.length ≤ 140737488351232) (hT : Tab w) :
    Calls Tryz.prog 85 #[v, .int .i64 x] w fun en w' => en = .returned (ansH (topR (heapR l) 0 l x)) ∧ Grew w w' := by
  have C : Hid (∀ w1, Grew w w1 → Calls Tryz.prog 113 #[v, .int .i64 x, .func (.func 114) #[] #[]] w1 fun en w' => en = .returned (ansH (topR (heapR l) 0 l x)) ∧ Grew w1 w') := fun w1 g => readAtH_any v l x w1 (g.reads hR) hB hl (hT.grew g)
  obtain ⟨sa, cap, rfl⟩ := hR.len
  clear hR hT hB
  generalize topR (heapR l) 0 l x = X at *
  obtain ⟨a, pl, e⟩ := X
  unfold ansH at *
  simp only at C ⊢
  go_enter Tryz.func85, Tryz.ntmps85
  go_wp2_with fail
  refine (C.out _ (Grew.refl w)).mono ?_
  rintro en w1 ⟨rfl, g1⟩
  have G1 : Hid (Grew w w1) := g1
  clear g1
  go_wp2_with fail
  go_ret3
  exact ⟨rfl, G1.out⟩
end Go.Proofs.YtohapnninjdlfaaGreatDoor

namespace Go.Proofs.YtohapnninjdlfaaGreatDoor
open Go.RowKit
set_option linter.unusedVariables false
set_option linter.unusedSimpArgs false
set_option linter.constructorNameAsVariable false

set_option maxRecDepth 100000 in
set_option maxHeartbeats 1000000 in
theorem caughtL (bA bE : Nat) (p e x y : Int) (older : List PanicEntry) (w : World) (hA : w.heap[bA]? = some (ic x 3)) (hE : w.heap[bE]? = some (ic y 37)) (hne : bE ≠ bA) :
    CallsD Tryz.prog 129 #[.pointer (some ⟨bA, 0, none⟩), .pointer (some ⟨bE, 0, none⟩)] (.panicking ({ v := .iface 175 (.agg #[.int .i64 p, .int .i64 e]), recovered := false } :: older)) w fun en u' w' =>
      en = .returned (.tuple #[]) ∧ u' = .panicking ({ v := .iface 175 (.agg #[.int .i64 p, .int .i64 e]), recovered := true } :: older) ∧ Turn [bA, bE] w w' ∧ w'.heap[bA]? = some (ic p 3) ∧ w'.heap[bE]? = some (ic e 37) := by
  have c0 := cell_of hA 0
  have c1 := cell_of hE 0
  have z0 := free_of hA 0
  have z1 := free_of hE 0
  simp at c0 c1
  have HA : Hid (w.heap[bA]? = some (ic x 3)) := hA
  have HE : Hid (w.heap[bE]? = some (ic y 37)) := hE
  have lA := lt_of_obj hA
  have lE := lt_of_obj hE
  clear hA hE
  refine callsD_of_wpS Tryz.func129 rfl fun c₀ cs hu => ?_
  apply wpS_seq
  apply wpS_region
  simp [wpOpsS, go_sem, recoverD, hu, Tryz.ntmps129, Exit.thenS]
  refine wpS_of_wp ?_
  rw [show (#[Value.pointer (some { block := bA, off := 0 }), Value.pointer (some { block := bE, off := 0 })] ++
          ((Array.replicate 11 undef).setIfInBounds 2 (Value.iface 175 (Value.agg #[Value.int IntKind.i64 p, Value.int IntKind.i64 e]))).setIfInBounds 0 (Value.iface 175 (Value.agg #[Value.int IntKind.i64 p, Value.int IntKind.i64 e])) : Array Value) = #[Value.pointer (some { block := bA, off := 0 }), Value.pointer (some { block := bE, off := 0 }), Value.iface 175 (Value.agg #[Value.int IntKind.i64 p, Value.int IntKind.i64 e]), undef, Value.iface 175 (Value.agg #[Value.int IntKind.i64 p, Value.int IntKind.i64 e]), undef, undef, undef, undef, undef, undef, undef, undef] from rfl]
  clear hu
  have ha := assertF
  go_wp2_with fail
  go_region
  all_goals
    go_wp2_with fail
    simp [bodyPostS, results, Tryz.results129]
    refine ⟨?_, ?_, ?_⟩
    · exact ((((Turn.refl [bA, bE] w).set (p := ⟨bA, 0, none⟩) (Or.inl (by simp)) _).set (p := ⟨bE, 0, none⟩) (Or.inl (by simp)) _).alloc _).drew
    · exact heap_alloc (heap_other (o := ic p 3) (p := ⟨bE, 0, none⟩) (by rw [heap_set HA.out]; rfl) (show bA ≠ bE from hne.symm) _) _
    · exact heap_alloc (o := ic e 37) ((heap_set (heap_other (p := ⟨bA, 0, none⟩) HE.out (show bE ≠ bA from hne) _) 0 _).trans rfl) _
theorem idleL (bA bE : Nat) (w : World) :
    CallsD Tryz.prog 129 #[.pointer (some ⟨bA, 0, none⟩), .pointer (some ⟨bE, 0, none⟩)] .returning w fun en u' w' => en = .returned (.tuple #[]) ∧ u' = .returning ∧ w' = w := by
  refine callsD_of_wpS Tryz.func129 rfl fun c₀ cs hu => ?_
  apply wpS_seq
  apply wpS_region
  simp [wpOpsS, go_sem, recoverD, hu, Tryz.ntmps129, Exit.thenS]
  refine wpS_of_wp ?_
  rw [show (#[Value.pointer (some { block := bA, off := 0 }), Value.pointer (some { block := bE, off := 0 })] ++
          ((Array.replicate 11 undef).setIfInBounds 2 Value.nilIface).setIfInBounds 0 Value.nilIface : Array Value) = #[Value.pointer (some { block := bA, off := 0 }), Value.pointer (some { block := bE, off := 0 }), .nilIface, undef, .nilIface, undef, undef, undef, undef, undef, undef, undef, undef] from rfl]
  go_wp2
  cases c₀
  simp_all [bodyPostS, results, Tryz.results129]
set_option maxRecDepth 100000 in
set_option maxHeartbeats 1000000 in
theorem readAtL_any (v : Value) (l : List Int) (x : Int) (w : World) (hR : Reads w v l) (hB : Byt l) (hl : l.length ≤ 140737488351232) (hT : Tab w) :
    Calls Tryz.prog 100 #[v, .int .i64 x, .func (.func 101) #[] #[]] w fun en w' => ∃ rv, en = .returned (.tuple #[rv, .int .i64 (topR (valsR l) [] l x).2.1, .int .i64 (topR (valsR l) [] l x).2.2]) ∧ RowV w.heap.size w' rv (topR (valsR l) [] l x).1 ∧ Grew w w' := by
  have hmf : ∀ (fn : Fn) (first cap : Array Value) (w : World), (Instr.makeFunc fn first cap).run Tryz.prog w = .ok (.func fn first cap) w := fun _ _ _ _ => rfl
  obtain ⟨sa, cap, rfl⟩ := hR.len
  by_cases hin : 0 ≤ x ∧ x ≤ l.length
  · obtain ⟨p, rfl⟩ : ∃ p : Nat, x = p := ⟨x.toNat, by omega⟩
    have hp : p ≤ l.length := by omega
    have d1 : decide ((p : Int) < 0) = false := by simp
    have d2 : decide ((l.length : Int) < (p : Int)) = false := by simp; omega
    have HR : Hid (Reads w (.slice sa l.length cap) l) := hR
    have HB : Hid (Byt l) := hB
    have HT : Hid (Tab w) := hT
    have hpos := hT.pos
    obtain ⟨X, hX⟩ : ∃ X, X = topR (valsR l) [] l (p : Int) := ⟨_, rfl⟩
    rw [← hX]
    rw [topR_in hp] at hX
    clear hR hB hT hin
    go_enter_defers Tryz.func100, Tryz.ntmps100
    go_wp2_with fail
    generalize hW : (((w.alloc (Obj.cells #[Value.int IntKind.i64 0] 3)).alloc (Obj.cells #[Value.int IntKind.i64 0] 37)).alloc (Obj.cells #[Value.slice sa l.length cap, Value.int IntKind.i64 ↑p] 177)) = W
    have G0 : Hid (Grew w W) := by rw [← hW]; exact (((Grew.refl w).alloc _).alloc _).alloc _
    obtain ⟨P0, E0, o0⟩ : Hid (W.heap[w.heap.size]? = some (ic 0 3)) ∧ Hid (W.heap[w.heap.size + 1]? = some (ic 0 37)) ∧ W.heap[w.heap.size + 1 + 1]? = some (cur (.slice sa l.length cap) p) := by
      rw [← hW]
      exact heap_three _ _ _ _
    have U0 : Hid (CU W (w.heap.size + 1 + 1) (.slice sa l.length cap) l p) := ⟨o0, G0.out.reads HR.out, HB.out, hl, hp, HT.out.grew G0.out, by omega⟩
    clear hW o0
    have V := valTypes_any U0.out
    cases hv : valsR l p with
    | error y =>
      obtain ⟨f, e⟩ := y
      rw [hv] at V hX
      have HX : Hid (X = ([], (f : Int), (e : Int))) := hX
      clear hv hX
      refine V.mono ?_
      rintro en w2 ⟨rfl, t2⟩
      have g2 : Grew w w2 := t2.grew G0.out (by intro y hy; simp at hy; omega)
      have T2 : Hid (Turn [w.heap.size + 1 + 1] W w2) := t2
      have P3 := t2.other P0.out (by first | (simp; done) | (simp; omega))
      have E3 := t2.other E0.out (by first | (simp; done) | (simp; omega))
      clear V t2
      unfold flt
      go_wp2_with fail
      refine leaves_cons (f := 129) (args := #[.pointer (some ⟨w.heap.size, 0, none⟩), .pointer (some ⟨w.heap.size + 1, 0, none⟩)]) (by simp) (by simp [go_sem]) ?_
      refine (caughtL _ _ f e 0 0 [] _ P3 E3 (by omega)).mono ?_
      rintro en u' w4 ⟨rfl, rfl, t4, p4, e4⟩
      have g4 : Grew w w4 := t4.grew g2 (by intro y hy; simp at hy; omega)
      have b0 := cell_of p4 0
      have c0 := cell_of e4 0
      simp [ic] at b0 c0
      simp [Leaves, settle, results, Tryz.results100, go_sem, b0, c0]
      rw [HX.out]
      exact ⟨_, by first | rfl | exact ⟨rfl, rfl, rfl⟩, RowV.nil _ _, g4⟩
    | ok y =>
      obtain ⟨xs, q⟩ := y
      rw [hv] at V hX
      have HX : Hid (X = (xs, (q : Int), 0)) := hX
      clear hv hX
      refine V.mono ?_
      rintro en w2 ⟨rv, rfl, rw2, t2, u2⟩
      have G2 : Hid (Grew w w2) := t2.grew G0.out (by intro y hy; simp at hy; omega)
      have P3 : Hid (w2.heap[w.heap.size]? = some (ic 0 3)) := t2.other P0.out (by first | (simp; done) | (simp; omega))
      have E3 : Hid (w2.heap[w.heap.size + 1]? = some (ic 0 37)) := t2.other E0.out (by first | (simp; done) | (simp; omega))
      have u1 := u2.c1
      have RW : Hid (RowV w.heap.size w2 rv xs) := row_low rw2 G0.out.2
      obtain ⟨ra, rc, hrv⟩ := row_one rw2
      subst hrv
      have hNT : ∀ y ∈ [w.heap.size, w.heap.size + 1], NoT w2 y 28 := by
        intro y hy
        simp at hy
        rcases hy with rfl | rfl
        · exact NoT.of (t := 3) P3.out (by decide)
        · exact NoT.of (t := 37) E3.out (by decide)
      clear rw2
      have hlt : w.heap.size + 1 + 1 < w2.heap.size := u2.lt
      clear V t2 u2 P0 E0 U0 G0
      skip
      have b0 := cell_of P3.out 0
      have c0 := cell_of E3.out 0
      have y3 := free_of P3.out 0
      have y4 := free_of E3.out 0
      simp [ic] at b0 c0
      go_wp2_with fail
      go_region
      all_goals
        go_wp2_with fail
        refine leaves_cons (f := 129) (args := #[.pointer (some ⟨w.heap.size, 0, none⟩), .pointer (some ⟨w.heap.size + 1, 0, none⟩)]) (by simp) (by simp [go_sem]) ?_
        refine (idleL _ _ _).mono ?_
        rintro en u' w5 ⟨rfl, rfl, rfl⟩
        simp [Leaves, settle, results, Tryz.results100, go_sem, b0, c0]
        rw [HX.out]
        exact ⟨_, by first | rfl | exact ⟨rfl, rfl, rfl⟩, row_turn RW.out (((Turn.refl [w.heap.size, w.heap.size + 1] w2).set (p := ⟨w.heap.size, 0, none⟩) (Or.inl (by simp)) _).set (p := ⟨w.heap.size + 1, 0, none⟩) (Or.inl (by simp)) _).drew hNT, ((G2.out.set (p := ⟨w.heap.size, 0, none⟩) (by first | (simp; done) | (simp; omega)) _).set (p := ⟨w.heap.size + 1, 0, none⟩) (by first | (simp; done) | (simp; omega)) _).drew⟩
  · rw [topR_out hin]
    by_cases h0 : x < 0
    · have d1 : decide (x < 0) = true := by simpa using h0
      clear hR hB hT hin
      go_enter_defers Tryz.func100, Tryz.ntmps100
      go_wp2_with fail
      simp [bodyPostD, Leaves, settle, results, Tryz.results100, go_sem]
      exact ⟨RowV.nil _ _, ((Grew.refl w).alloc _).alloc _⟩
    · have d1 : decide (x < 0) = false := by simpa using h0
      have d2 : decide ((l.length : Int) < x) = true := by simp; omega
      clear hR hB hT hin
      go_enter_defers Tryz.func100, Tryz.ntmps100
      go_wp2_with fail
      simp [bodyPostD, Leaves, settle, results, Tryz.results100, go_sem]
      exact ⟨RowV.nil _ _, ((Grew.refl w).alloc _).alloc _⟩
set_option maxRecDepth 100000 in
set_option maxHeartbeats 1000000 in
theorem topL_any (v : Value) (l : List Int) (x : Int) (w : World) (hR : Reads w v l) (hB : Byt l) (hl : l.length ≤ 140737488351232) (hT : Tab w) :
    Calls Tryz.prog 74 #[v, .int .i64 x] w fun en w' => ∃ rv, en = .returned (.tuple #[rv, .int .i64 (topR (valsR l) [] l x).2.1, .int .i64 (topR (valsR l) [] l x).2.2]) ∧ RowV w.heap.size w' rv (topR (valsR l) [] l x).1 ∧ Grew w w' := by
  have C : Hid (∀ w1, Grew w w1 → Calls Tryz.prog 100 #[v, .int .i64 x, .func (.func 101) #[] #[]] w1 fun en w' => ∃ rv, en = .returned (.tuple #[rv, .int .i64 (topR (valsR l) [] l x).2.1, .int .i64 (topR (valsR l) [] l x).2.2]) ∧ RowV w1.heap.size w' rv (topR (valsR l) [] l x).1 ∧ Grew w1 w') := fun w1 g => readAtL_any v l x w1 (g.reads hR) hB hl (hT.grew g)
  obtain ⟨sa, cap, rfl⟩ := hR.len
  clear hR hT hB
  generalize topR (valsR l) [] l x = X at *
  obtain ⟨a, pl, e⟩ := X
  simp only at C ⊢
  go_enter Tryz.func74, Tryz.ntmps74
  go_wp2_with fail
  refine (C.out _ (Grew.refl w)).mono ?_
  rintro en w1 ⟨rv, rfl, r1, g1⟩
  have G1 : Hid (Grew w w1) := g1
  have R1 : Hid (RowV w.heap.size w1 rv a) := r1
  obtain ⟨ra, rc, hrv⟩ := row_one r1
  subst hrv
  clear g1 r1
  go_wp2_with fail
  go_ret3
  exact ⟨_, rfl, R1.out, G1.out⟩
end Go.Proofs.YtohapnninjdlfaaGreatDoor
