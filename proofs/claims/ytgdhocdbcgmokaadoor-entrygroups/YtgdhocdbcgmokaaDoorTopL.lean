/-
  The walks of readAt at lists of value types, and of ValTypes; no statement is proved here.
-/
import Derived.Test.YtgdhocdbcgmokaaDoorTopV
namespace Go.Proofs.YtgdhocdbcgmokaaDoor
open Go.RowKit
set_option linter.unusedVariables false
set_option linter.unusedSimpArgs false
set_option linter.constructorNameAsVariable false

set_option maxRecDepth 100000 in
set_option maxHeartbeats 1000000 in
theorem caughtL (bA bE : Nat) (p e x y : Int) (older : List PanicEntry) (w : World) (hA : w.heap[bA]? = some (ic x 3)) (hE : w.heap[bE]? = some (ic y 23)) (hne : bE ≠ bA) :
    CallsD Tryd.prog 124 #[.pointer (some ⟨bA, 0, none⟩), .pointer (some ⟨bE, 0, none⟩)] (.panicking ({ v := .iface 186 (.agg #[.int .i64 p, .int .i64 e]), recovered := false } :: older)) w fun en u' w' =>
      en = .returned (.tuple #[]) ∧ u' = .panicking ({ v := .iface 186 (.agg #[.int .i64 p, .int .i64 e]), recovered := true } :: older) ∧ Turn [bA, bE] w w' ∧ w'.heap[bA]? = some (ic p 3) ∧ w'.heap[bE]? = some (ic e 23) := by
  have c0 := cell_of hA 0
  have c1 := cell_of hE 0
  have z0 := free_of hA 0
  have z1 := free_of hE 0
  simp at c0 c1
  have HA : Hid (w.heap[bA]? = some (ic x 3)) := hA
  have HE : Hid (w.heap[bE]? = some (ic y 23)) := hE
  have lA := lt_of_obj hA
  have lE := lt_of_obj hE
  clear hA hE
  refine callsD_of_wpS Tryd.func124 rfl fun c₀ cs hu => ?_
  apply wpS_seq
  apply wpS_region
  simp [wpOpsS, go_sem, recoverD, hu, Tryd.ntmps124, Exit.thenS]
  refine wpS_of_wp ?_
  rw [show (#[Value.pointer (some { block := bA, off := 0 }), Value.pointer (some { block := bE, off := 0 })] ++
          ((Array.replicate 11 undef).setIfInBounds 2 (Value.iface 186 (Value.agg #[Value.int IntKind.i64 p, Value.int IntKind.i64 e]))).setIfInBounds 0 (Value.iface 186 (Value.agg #[Value.int IntKind.i64 p, Value.int IntKind.i64 e])) : Array Value) = #[Value.pointer (some { block := bA, off := 0 }), Value.pointer (some { block := bE, off := 0 }), Value.iface 186 (Value.agg #[Value.int IntKind.i64 p, Value.int IntKind.i64 e]), undef, Value.iface 186 (Value.agg #[Value.int IntKind.i64 p, Value.int IntKind.i64 e]), undef, undef, undef, undef, undef, undef, undef, undef] from rfl]
  clear hu
  have ha := assertF
  go_wp2_with fail
  go_region
  all_goals
    go_wp2_with fail
    simp [bodyPostS, results, Tryd.results124]
    refine ⟨?_, ?_, ?_⟩
    · exact ((((Turn.refl [bA, bE] w).set (p := ⟨bA, 0, none⟩) (Or.inl (by simp)) _).set (p := ⟨bE, 0, none⟩) (Or.inl (by simp)) _).alloc _).drew
    · exact heap_alloc (heap_other (o := ic p 3) (p := ⟨bE, 0, none⟩) (by rw [heap_set HA.out]; rfl) (show bA ≠ bE from hne.symm) _) _
    · exact heap_alloc (o := ic e 23) ((heap_set (heap_other (p := ⟨bA, 0, none⟩) HE.out (show bE ≠ bA from hne) _) 0 _).trans rfl) _
theorem idleL (bA bE : Nat) (w : World) :
    CallsD Tryd.prog 124 #[.pointer (some ⟨bA, 0, none⟩), .pointer (some ⟨bE, 0, none⟩)] .returning w fun en u' w' => en = .returned (.tuple #[]) ∧ u' = .returning ∧ w' = w := by
  refine callsD_of_wpS Tryd.func124 rfl fun c₀ cs hu => ?_
  apply wpS_seq
  apply wpS_region
  simp [wpOpsS, go_sem, recoverD, hu, Tryd.ntmps124, Exit.thenS]
  refine wpS_of_wp ?_
  rw [show (#[Value.pointer (some { block := bA, off := 0 }), Value.pointer (some { block := bE, off := 0 })] ++
          ((Array.replicate 11 undef).setIfInBounds 2 Value.nilIface).setIfInBounds 0 Value.nilIface : Array Value) = #[Value.pointer (some { block := bA, off := 0 }), Value.pointer (some { block := bE, off := 0 }), .nilIface, undef, .nilIface, undef, undef, undef, undef, undef, undef, undef, undef] from rfl]
  go_wp2
  cases c₀
  simp_all [bodyPostS, results, Tryd.results124]
set_option maxRecDepth 100000 in
set_option maxHeartbeats 1000000 in
theorem readAtL_any (v : Value) (l : List Int) (x : Int) (w : World) (hR : Reads w v l) (hB : Byt l) (hl : l.length ≤ 140737488351232) (hT : Tab w) :
    Calls Tryd.prog 61 #[v, .int .i64 x, .func (.func 62) #[] #[]] w fun en w' => ∃ rv, en = .returned (.tuple #[rv, .int .i64 (topR (valsR l) [] l x).2.1, .int .i64 (topR (valsR l) [] l x).2.2]) ∧ RowV w.heap.size w' rv (topR (valsR l) [] l x).1 ∧ Grew w w' := by
  have hmf : ∀ (fn : Fn) (first cap : Array Value) (w : World), (Instr.makeFunc fn first cap).run Tryd.prog w = .ok (.func fn first cap) w := fun _ _ _ _ => rfl
  obtain ⟨sa, cap, rfl⟩ := hR.len
  by_cases hin : 0 ≤ x ∧ x ≤ l.length
  · obtain ⟨p, rfl⟩ : ∃ p : Nat, x = p := ⟨x.toNat, by omega⟩
    have hp : p ≤ l.length := by omega
    have d1 : decide ((p : Int) < 0) = false := by simp
    have d2 : decide ((l.length : Int) < (p : Int)) = false := by simp; omega
    have HR : Hid (Reads w (.slice sa l.length cap) l) := hR
    have HB : Hid (Byt l) := hB
    have HT : Hid (Tab w) := hT
    have hpos := hT.pos
    obtain ⟨X, hX⟩ : ∃ X, X = topR (valsR l) [] l (p : Int) := ⟨_, rfl⟩
    rw [← hX]
    rw [topR_in hp] at hX
    clear hR hB hT hin
    go_enter_defers Tryd.func61, Tryd.ntmps61
    go_wp2_with fail
    generalize hW : (((w.alloc (Obj.cells #[Value.int IntKind.i64 0] 3)).alloc (Obj.cells #[Value.int IntKind.i64 0] 23)).alloc (Obj.cells #[Value.slice sa l.length cap, Value.int IntKind.i64 ↑p] 188)) = W
    have G0 : Hid (Grew w W) := by rw [← hW]; exact (((Grew.refl w).alloc _).alloc _).alloc _
    obtain ⟨P0, E0, o0⟩ : Hid (W.heap[w.heap.size]? = some (ic 0 3)) ∧ Hid (W.heap[w.heap.size + 1]? = some (ic 0 23)) ∧ W.heap[w.heap.size + 1 + 1]? = some (cur (.slice sa l.length cap) p) := by
      rw [← hW]
      exact heap_three _ _ _ _
    have U0 : Hid (CU W (w.heap.size + 1 + 1) (.slice sa l.length cap) l p) := ⟨o0, G0.out.reads HR.out, HB.out, hl, hp, HT.out.grew G0.out, by omega⟩
    clear hW o0
    have V := valTypes_any U0.out
    cases hv : valsR l p with
    | error y =>
      obtain ⟨f, e⟩ := y
      rw [hv] at V hX
      have HX : Hid (X = ([], (f : Int), (e : Int))) := hX
      clear hv hX
      refine V.mono ?_
      rintro en w2 ⟨rfl, t2⟩
      have g2 : Grew w w2 := t2.grew G0.out (by intro y hy; simp at hy; omega)
      have T2 : Hid (Turn [w.heap.size + 1 + 1] W w2) := t2
      have P3 := t2.other P0.out (by first | (simp; done) | (simp; omega))
      have E3 := t2.other E0.out (by first | (simp; done) | (simp; omega))
      clear V t2
      unfold flt
      go_wp2_with fail
      refine leaves_cons (f := 124) (args := #[.pointer (some ⟨w.heap.size, 0, none⟩), .pointer (some ⟨w.heap.size + 1, 0, none⟩)]) (by simp) (by simp [go_sem]) ?_
      refine (caughtL _ _ f e 0 0 [] _ P3 E3 (by omega)).mono ?_
      rintro en u' w4 ⟨rfl, rfl, t4, p4, e4⟩
      have g4 : Grew w w4 := t4.grew g2 (by intro y hy; simp at hy; omega)
      have b0 := cell_of p4 0
      have c0 := cell_of e4 0
      simp [ic] at b0 c0
      simp [Leaves, settle, results, Tryd.results61, go_sem, b0, c0]
      rw [HX.out]
      exact ⟨_, by first | rfl | exact ⟨rfl, rfl, rfl⟩, RowV.nil _ _, g4⟩
    | ok y =>
      obtain ⟨xs, q⟩ := y
      rw [hv] at V hX
      have HX : Hid (X = (xs, (q : Int), 0)) := hX
      clear hv hX
      refine V.mono ?_
      rintro en w2 ⟨rv, rfl, rw2, t2, u2⟩
      have G2 : Hid (Grew w w2) := t2.grew G0.out (by intro y hy; simp at hy; omega)
      have P3 : Hid (w2.heap[w.heap.size]? = some (ic 0 3)) := t2.other P0.out (by first | (simp; done) | (simp; omega))
      have E3 : Hid (w2.heap[w.heap.size + 1]? = some (ic 0 23)) := t2.other E0.out (by first | (simp; done) | (simp; omega))
      have u1 := u2.c1
      have RW : Hid (RowV w.heap.size w2 rv xs) := row_low rw2 G0.out.2
      obtain ⟨ra, rc, hrv⟩ := row_one rw2
      subst hrv
      have hNT : ∀ y ∈ [w.heap.size, w.heap.size + 1], NoT w2 y 29 := by
        intro y hy
        simp at hy
        rcases hy with rfl | rfl
        · exact NoT.of (t := 3) P3.out (by decide)
        · exact NoT.of (t := 23) E3.out (by decide)
      clear rw2
      have hlt : w.heap.size + 1 + 1 < w2.heap.size := u2.lt
      clear V t2 u2 P0 E0 U0 G0
      skip
      have b0 := cell_of P3.out 0
      have c0 := cell_of E3.out 0
      have y3 := free_of P3.out 0
      have y4 := free_of E3.out 0
      simp [ic] at b0 c0
      go_wp2_with fail
      go_region
      all_goals
        go_wp2_with fail
        refine leaves_cons (f := 124) (args := #[.pointer (some ⟨w.heap.size, 0, none⟩), .pointer (some ⟨w.heap.size + 1, 0, none⟩)]) (by simp) (by simp [go_sem]) ?_
        refine (idleL _ _ _).mono ?_
        rintro en u' w5 ⟨rfl, rfl, rfl⟩
        simp [Leaves, settle, results, Tryd.results61, go_sem, b0, c0]
        rw [HX.out]
        exact ⟨_, by first | rfl | exact ⟨rfl, rfl, rfl⟩, row_turn RW.out (((Turn.refl [w.heap.size, w.heap.size + 1] w2).set (p := ⟨w.heap.size, 0, none⟩) (Or.inl (by simp)) _).set (p := ⟨w.heap.size + 1, 0, none⟩) (Or.inl (by simp)) _).drew hNT, ((G2.out.set (p := ⟨w.heap.size, 0, none⟩) (by first | (simp; done) | (simp; omega)) _).set (p := ⟨w.heap.size + 1, 0, none⟩) (by first | (simp; done) | (simp; omega)) _).drew⟩
  · rw [topR_out hin]
    by_cases h0 : x < 0
    · have d1 : decide (x < 0) = true := by simpa using h0
      clear hR hB hT hin
      go_enter_defers Tryd.func61, Tryd.ntmps61
      go_wp2_with fail
      simp [bodyPostD, Leaves, settle, results, Tryd.results61, go_sem]
      exact ⟨RowV.nil _ _, ((Grew.refl w).alloc _).alloc _⟩
    · have d1 : decide (x < 0) = false := by simpa using h0
      have d2 : decide ((l.length : Int) < x) = true := by simp; omega
      clear hR hB hT hin
      go_enter_defers Tryd.func61, Tryd.ntmps61
      go_wp2_with fail
      simp [bodyPostD, Leaves, settle, results, Tryd.results61, go_sem]
      exact ⟨RowV.nil _ _, ((Grew.refl w).alloc _).alloc _⟩
set_option maxRecDepth 100000 in
set_option maxHeartbeats 1000000 in
theorem topL_any (v : Value) (l : List Int) (x : Int) (w : World) (hR : Reads w v l) (hB : Byt l) (hl : l.length ≤ 140737488351232) (hT : Tab w) :
    Calls Tryd.prog 15 #[v, .int .i64 x] w fun en w' => ∃ rv, en = .returned (.tuple #[rv, .int .i64 (topR (valsR l) [] l x).2.1, .int .i64 (topR (valsR l) [] l x).2.2]) ∧ RowV w.heap.size w' rv (topR (valsR l) [] l x).1 ∧ Grew w w' := by
  have C : Hid (∀ w1, Grew w w1 → Calls Tryd.prog 61 #[v, .int .i64 x, .func (.func 62) #[] #[]] w1 fun en w' => ∃ rv, en = .returned (.tuple #[rv, .int .i64 (topR (valsR l) [] l x).2.1, .int .i64 (topR (valsR l) [] l x).2.2]) ∧ RowV w1.heap.size w' rv (topR (valsR l) [] l x).1 ∧ Grew w1 w') := fun w1 g => readAtL_any v l x w1 (g.reads hR) hB hl (hT.grew g)
  obtain ⟨sa, cap, rfl⟩ := hR.len
  clear hR hT hB
  generalize topR (valsR l) [] l x = X at *
  obtain ⟨a, pl, e⟩ := X
  simp only at C ⊢
  go_enter Tryd.func15, Tryd.ntmps15
  go_wp2_with fail
  refine (C.out _ (Grew.refl w)).mono ?_
  rintro en w1 ⟨rv, rfl, r1, g1⟩
  have G1 : Hid (Grew w w1) := g1
  have R1 : Hid (RowV w.heap.size w1 rv a) := r1
  obtain ⟨ra, rc, hrv⟩ := row_one r1
  subst hrv
  clear g1 r1
  go_wp2_with fail
  go_ret3
  exact ⟨_, rfl, R1.out, G1.out⟩
end Go.Proofs.YtgdhocdbcgmokaaDoor
