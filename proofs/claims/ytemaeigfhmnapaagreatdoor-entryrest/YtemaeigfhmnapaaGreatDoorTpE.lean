/-
  The walks of readAt at Export, and of Export; no statement is proved here.
-/
import Derived.Test.YtemaeigfhmnapaaGreatDoorTopV
import Derived.Test.YtemaeigfhmnapaaGreatDoorCurI
namespace Go.Proofs.YtemaeigfhmnapaaGreatDoor
open Go.RowKit
set_option linter.unusedVariables false
set_option linter.unusedSimpArgs false
set_option linter.constructorNameAsVariable false

def E0_ : EP := ⟨[], 0, 0⟩
set_option maxRecDepth 100000 in
set_option maxHeartbeats 1000000 in
theorem caughtEp (bA bE : Nat) (p e x y : Int) (older : List PanicEntry) (w : World) (hA : w.heap[bA]? = some (ic x 3)) (hE : w.heap[bE]? = some (ic y 26)) (hne : bE ≠ bA) :
    CallsD Tryz.prog 60 #[.pointer (some ⟨bA, 0, none⟩), .pointer (some ⟨bE, 0, none⟩)] (.panicking ({ v := .iface 99 (.agg #[.int .i64 p, .int .i64 e]), recovered := false } :: older)) w fun en u' w' =>
      en = .returned (.tuple #[]) ∧ u' = .panicking ({ v := .iface 99 (.agg #[.int .i64 p, .int .i64 e]), recovered := true } :: older) ∧ Turn [bA, bE] w w' ∧ w'.heap[bA]? = some (ic p 3) ∧ w'.heap[bE]? = some (ic e 26) := by
  have c0 := cell_of hA 0
  have c1 := cell_of hE 0
  have z0 := free_of hA 0
  have z1 := free_of hE 0
  simp at c0 c1
  have HA : Hid (w.heap[bA]? = some (ic x 3)) := hA
  have HE : Hid (w.heap[bE]? = some (ic y 26)) := hE
  have lA := lt_of_obj hA
  have lE := lt_of_obj hE
  clear hA hE
  refine callsD_of_wpS Tryz.func60 rfl fun c₀ cs hu => ?_
  apply wpS_seq
  apply wpS_region
  simp [wpOpsS, go_sem, recoverD, hu, Tryz.ntmps60, Exit.thenS]
  refine wpS_of_wp ?_
  rw [show (#[Value.pointer (some { block := bA, off := 0 }), Value.pointer (some { block := bE, off := 0 })] ++
          ((Array.replicate 11 undef).setIfInBounds 2 (Value.iface 99 (Value.agg #[Value.int IntKind.i64 p, Value.int IntKind.i64 e]))).setIfInBounds 0 (Value.iface 99 (Value.agg #[Value.int IntKind.i64 p, Value.int IntKind.i64 e])) : Array Value) = #[Value.pointer (some { block := bA, off := 0 }), Value.pointer (some { block := bE, off := 0 }), Value.iface 99 (Value.agg #[Value.int IntKind.i64 p, Value.int IntKind.i64 e]), undef, Value.iface 99 (Value.agg #[Value.int IntKind.i64 p, Value.int IntKind.i64 e]), undef, undef, undef, undef, undef, undef, undef, undef] from rfl]
  clear hu
  have ha := assertF
  go_wp2_with fail
  go_region
  all_goals
    go_wp2_with fail
    simp [bodyPostS, results, Tryz.results60]
    refine ⟨?_, ?_, ?_⟩
    · exact ((((Turn.refl [bA, bE] w).set (p := ⟨bA, 0, none⟩) (Or.inl (by simp)) _).set (p := ⟨bE, 0, none⟩) (Or.inl (by simp)) _).alloc _).drew
    · exact heap_alloc (heap_other (o := ic p 3) (p := ⟨bE, 0, none⟩) (by rw [heap_set HA.out]; rfl) (show bA ≠ bE from hne.symm) _) _
    · exact heap_alloc (o := ic e 26) ((heap_set (heap_other (p := ⟨bA, 0, none⟩) HE.out (show bE ≠ bA from hne) _) 0 _).trans rfl) _
theorem idleEp (bA bE : Nat) (w : World) :
    CallsD Tryz.prog 60 #[.pointer (some ⟨bA, 0, none⟩), .pointer (some ⟨bE, 0, none⟩)] .returning w fun en u' w' => en = .returned (.tuple #[]) ∧ u' = .returning ∧ w' = w := by
  refine callsD_of_wpS Tryz.func60 rfl fun c₀ cs hu => ?_
  apply wpS_seq
  apply wpS_region
  simp [wpOpsS, go_sem, recoverD, hu, Tryz.ntmps60, Exit.thenS]
  refine wpS_of_wp ?_
  rw [show (#[Value.pointer (some { block := bA, off := 0 }), Value.pointer (some { block := bE, off := 0 })] ++
          ((Array.replicate 11 undef).setIfInBounds 2 Value.nilIface).setIfInBounds 0 Value.nilIface : Array Value) = #[Value.pointer (some { block := bA, off := 0 }), Value.pointer (some { block := bE, off := 0 }), .nilIface, undef, .nilIface, undef, undef, undef, undef, undef, undef, undef, undef] from rfl]
  go_wp2
  cases c₀
  simp_all [bodyPostS, results, Tryz.results60]
def ansEp (x : EP × Int × Int) : Value := .tuple #[x.1.v, .int .i64 x.2.1, .int .i64 x.2.2]
set_option maxRecDepth 100000 in
set_option maxHeartbeats 1000000 in
theorem readAtEp_any (v : Value) (l : List Int) (x : Int) (w : World) (hR : Reads w v l) (hB : Byt l) (hl : l.length ≤ 140737488351232) (hT : Tab w) :
    Calls Tryz.prog 36 #[v, .int .i64 x, .func (.func 37) #[] #[]] w fun en w' => en = .returned (ansEp (topR (expR l) E0_ l x)) ∧ Grew w w' := by
  have hmf : ∀ (fn : Fn) (first cap : Array Value) (w : World), (Instr.makeFunc fn first cap).run Tryz.prog w = .ok (.func fn first cap) w := fun _ _ _ _ => rfl
  obtain ⟨sa, cap, rfl⟩ := hR.len
  by_cases hin : 0 ≤ x ∧ x ≤ l.length
  · obtain ⟨p, rfl⟩ : ∃ p : Nat, x = p := ⟨x.toNat, by omega⟩
    have hp : p ≤ l.length := by omega
    have d1 : decide ((p : Int) < 0) = false := by simp
    have d2 : decide ((l.length : Int) < (p : Int)) = false := by simp; omega
    have HR : Hid (Reads w (.slice sa l.length cap) l) := hR
    have HB : Hid (Byt l) := hB
    have HT : Hid (Tab w) := hT
    have hpos := hT.pos
    obtain ⟨X, hX⟩ : ∃ X, X = topR (expR l) E0_ l (p : Int) := ⟨_, rfl⟩
    rw [← hX]
    rw [topR_in hp] at hX
    clear hR hB hT hin
    go_enter_defers Tryz.func36, Tryz.ntmps36
    go_wp2_with fail
    generalize hW : ((((w.alloc (Obj.cells #[Value.string ⟨#[]⟩, Value.int IntKind.i64 0, Value.int IntKind.u32 0] 59)).alloc (Obj.cells #[Value.int IntKind.i64 0] 3)).alloc (Obj.cells #[Value.int IntKind.i64 0] 26)).alloc (Obj.cells #[Value.slice sa l.length cap, Value.int IntKind.i64 ↑p] 101)) = W
    have G0 : Hid (Grew w W) := by rw [← hW]; exact ((((Grew.refl w).alloc _).alloc _).alloc _).alloc _
    obtain ⟨A0, P0, E0, o0⟩ : Hid (W.heap[w.heap.size]? = some (.cells #[.string ⟨#[]⟩, .int .i64 0, .int .u32 0] 59 (0, 0))) ∧ Hid (W.heap[w.heap.size + 1]? = some (ic 0 3)) ∧ Hid (W.heap[w.heap.size + 1 + 1]? = some (ic 0 26)) ∧ W.heap[w.heap.size + 1 + 1 + 1]? = some (cur (.slice sa l.length cap) p) := by
      rw [← hW]
      exact heap_four _ _ _ _ _
    have U0 : Hid (CU W (w.heap.size + 1 + 1 + 1) (.slice sa l.length cap) l p) := ⟨o0, G0.out.reads HR.out, HB.out, hl, hp, HT.out.grew G0.out, by omega⟩
    clear hW o0
    have V := exportEntry_any U0.out
    cases hv : expR l p with
    | error y =>
      obtain ⟨f, e⟩ := y
      rw [hv] at V hX
      have HX : Hid (X = (E0_, (f : Int), (e : Int))) := hX
      clear hv hX
      refine V.mono ?_
      rintro en w2 ⟨rfl, t2⟩
      have g2 : Grew w w2 := t2.grew G0.out (by intro y hy; simp at hy; omega)
      have T2 : Hid (Turn [w.heap.size + 1 + 1 + 1] W w2) := t2
      have P3 := t2.other P0.out (by first | (simp; done) | (simp; omega))
      have E3 := t2.other E0.out (by first | (simp; done) | (simp; omega))
      have A3 := t2.other A0.out (by simp; omega)
      clear V t2
      unfold flt
      go_wp2_with fail
      refine leaves_cons (f := 60) (args := #[.pointer (some ⟨w.heap.size + 1, 0, none⟩), .pointer (some ⟨w.heap.size + 1 + 1, 0, none⟩)]) (by simp) (by simp [go_sem]) ?_
      refine (caughtEp _ _ f e 0 0 [] _ P3 E3 (by omega)).mono ?_
      rintro en u' w4 ⟨rfl, rfl, t4, p4, e4⟩
      have g4 : Grew w w4 := t4.grew g2 (by intro y hy; simp at hy; omega)
      have b0 := cell_of p4 0
      have c0 := cell_of e4 0
      simp [ic] at b0 c0
      have A4 := t4.other A3 (by simp; omega)
      have a0 := cell_of A4 0
      have a1 := cell_of A4 1
      have a2 := cell_of A4 2
      simp at a0 a1 a2
      simp [Leaves, settle, results, Tryz.results36, go_sem, b0, c0, a0, a1, a2]
      rw [HX.out]
      exact ⟨rfl, g4⟩
    | ok y =>
      obtain ⟨⟨na, k, a⟩, q⟩ := y
      rw [hv] at V hX
      have HX : Hid (X = (⟨na, k, a⟩, (q : Int), 0)) := hX
      clear hv hX
      refine V.mono ?_
      rintro en w2 ⟨rfl, t2, u2⟩
      have G2 : Hid (Grew w w2) := t2.grew G0.out (by intro y hy; simp at hy; omega)
      have P3 : Hid (w2.heap[w.heap.size + 1]? = some (ic 0 3)) := t2.other P0.out (by first | (simp; done) | (simp; omega))
      have E3 : Hid (w2.heap[w.heap.size + 1 + 1]? = some (ic 0 26)) := t2.other E0.out (by first | (simp; done) | (simp; omega))
      have u1 := u2.c1
      have UC : Hid (w2.heap[w.heap.size + 1 + 1 + 1]? = some (cur (.slice sa l.length cap) q)) := u2.obj
      have A3 : Hid (w2.heap[w.heap.size]? = some (.cells #[.string ⟨#[]⟩, .int .i64 0, .int .u32 0] 59 (0, 0))) := t2.other A0.out (by simp; omega)
      have hlt : w.heap.size + 1 + 1 + 1 < w2.heap.size := u2.lt
      clear V t2 u2 P0 E0 U0 G0 A0
      unfold EP.v
      go_wp2_with fail
      generalize hw3 : w2.alloc (Obj.cells #[Value.string (strOfNums na), Value.int IntKind.i64 k, Value.int IntKind.u32 a] 59) = w3
      have G3 : Hid (Grew w2 w3) := by rw [← hw3]; exact (Grew.refl w2).alloc _
      have D3 := (show w3.heap[w2.heap.size]? = some (.cells #[Value.string (strOfNums na), Value.int IntKind.i64 k, Value.int IntKind.u32 a] 59 (0, 0)) by rw [← hw3]; exact heap_alloc_last _ _)
      have P4 : Hid (w3.heap[w.heap.size + 1]? = some (ic 0 3)) := (G3.out.turn []).other P3.out (by simp)
      have E4 : Hid (w3.heap[w.heap.size + 1 + 1]? = some (ic 0 26)) := (G3.out.turn []).other E3.out (by simp)
      have A4 : Hid (w3.heap[w.heap.size]? = some (.cells #[.string ⟨#[]⟩, .int .i64 0, .int .u32 0] 59 (0, 0))) := (G3.out.turn []).other A3.out (by simp)
      have UC4 := (G3.out.turn []).other UC.out (by simp)
      have u4 := cell_of UC4 1
      simp at u4
      have d0 := cell_of D3 0
      have d1 := cell_of D3 1
      have d2 := cell_of D3 2
      simp at d0 d1 d2
      clear hw3 u1 UC4
      have b0 := cell_of P4.out 0
      have c0 := cell_of E4.out 0
      have y3 := free_of P4.out 0
      have y4 := free_of E4.out 0
      simp [ic] at b0 c0
      have a0 := cell_of A4.out 0
      have x0 := free_of A4.out 0
      have a1 := cell_of A4.out 1
      have x1 := free_of A4.out 1
      have a2 := cell_of A4.out 2
      have x2 := free_of A4.out 2
      simp at a0 a1 a2
      go_region
      all_goals
        go_wp2_with fail
        refine leaves_cons (f := 60) (args := #[.pointer (some ⟨w.heap.size + 1, 0, none⟩), .pointer (some ⟨w.heap.size + 1 + 1, 0, none⟩)]) (by simp) (by simp [go_sem]) ?_
        refine (idleEp _ _ _).mono ?_
        rintro en u' w5 ⟨rfl, rfl, rfl⟩
        simp [Leaves, settle, results, Tryz.results36, go_sem, b0, c0, a0, a1, a2]
        rw [HX.out]
        exact ⟨rfl, ((((((G2.out.trans G3.out).set (p := ⟨w.heap.size, 0, none⟩) (by simp) _).set (p := ⟨w.heap.size, 1, none⟩) (by simp) _).set (p := ⟨w.heap.size, 2, none⟩) (by simp) _).set (p := ⟨w.heap.size + 1, 0, none⟩) (by first | (simp; done) | (simp; omega)) _).set (p := ⟨w.heap.size + 1 + 1, 0, none⟩) (by first | (simp; done) | (simp; omega)) _).drew⟩
  · rw [topR_out hin]
    by_cases h0 : x < 0
    · have d1 : decide (x < 0) = true := by simpa using h0
      clear hR hB hT hin
      go_enter_defers Tryz.func36, Tryz.ntmps36
      go_wp2_with fail
      simp [bodyPostD, Leaves, settle, results, Tryz.results36, go_sem]
      exact ⟨rfl, (((Grew.refl w).alloc _).alloc _).alloc _⟩
    · have d1 : decide (x < 0) = false := by simpa using h0
      have d2 : decide ((l.length : Int) < x) = true := by simp; omega
      clear hR hB hT hin
      go_enter_defers Tryz.func36, Tryz.ntmps36
      go_wp2_with fail
      simp [bodyPostD, Leaves, settle, results, Tryz.results36, go_sem]
      exact ⟨rfl, (((Grew.refl w).alloc _).alloc _).alloc _⟩
set_option maxRecDepth 100000 in
set_option maxHeartbeats 1000000 in
theorem topEp_any (v : Value) (l : List Int) (x : Int) (w : World) (hR : Reads w v l) (hB : Byt l) (hl : l.length ≤ 140737488351232) (hT : Tab w) :
    Calls Tryz.prog 14 #[v, .int .i64 x] w fun en w' => en = .returned (ansEp (topR (expR l) E0_ l x)) ∧ Grew w w' := by
  have C : Hid (∀ w1, Grew w w1 → Calls Tryz.prog 36 #[v, .int .i64 x, .func (.func 37) #[] #[]] w1 fun en w' => en = .returned (ansEp (topR (expR l) E0_ l x)) ∧ Grew w1 w') := fun w1 g => readAtEp_any v l x w1 (g.reads hR) hB hl (hT.grew g)
  obtain ⟨sa, cap, rfl⟩ := hR.len
  clear hR hT hB
  generalize topR (expR l) E0_ l x = X at *
  obtain ⟨⟨na, k, a⟩, pl, e⟩ := X
  unfold ansEp EP.v at *
  simp only at C ⊢
  go_enter Tryz.func14, Tryz.ntmps14
  go_wp2_with fail
  refine (C.out _ ((Grew.refl w).alloc _)).mono ?_
  rintro en w1 ⟨rfl, g1⟩
  have hN := (g1.turn []).other (heap_alloc_last _ _) (by simp)
  have c0 := cell_of hN 0
  have z0 := free_of hN 0
  have c1 := cell_of hN 1
  have z1 := free_of hN 1
  have c2 := cell_of hN 2
  have z2 := free_of hN 2
  simp at c0 c1 c2
  have G1 : Hid (Grew w w1) := ((Grew.refl w).alloc _).trans g1
  clear hN g1
  go_wp2_with fail
  refine bodyPost_ret (v := .tuple #[EP.v ⟨na, k, a⟩, .int .i64 pl, .int .i64 e]) (by simp [results, Tryz.results14, go_sem, EP.v, c0, c1, c2]) rfl ?_
  exact ⟨rfl, (((G1.out.set (p := ⟨w.heap.size, 0, none⟩) (by simp) _).set (p := ⟨w.heap.size, 1, none⟩) (by simp) _).set (p := ⟨w.heap.size, 2, none⟩) (by simp) _)⟩
end Go.Proofs.YtemaeigfhmnapaaGreatDoor
