/-
  The document's calls at a place: heap types, value types, references; no statement is proved here.
-/
import Derived.Test.YtemaeigfhmnapaaGreatDoorTopV
import Derived.Test.YtemaeigfhmnapaaGreatDoorDFl2
namespace Go.Proofs.YtemaeigfhmnapaaGreatDoor
open Go.RowKit
set_option linter.unusedVariables false
set_option linter.unusedSimpArgs false
set_option linter.constructorNameAsVariable false

set_option maxRecDepth 100000 in
set_option maxHeartbeats 1000000 in
theorem caughtH (bA bE : Nat) (p e x y : Int) (older : List PanicEntry) (w : World) (hA : w.heap[bA]? = some (ic x 3)) (hE : w.heap[bE]? = some (ic y 26)) (hne : bE ≠ bA) :
    CallsD Tryz.prog 52 #[.pointer (some ⟨bA, 0, none⟩), .pointer (some ⟨bE, 0, none⟩)] (.panicking ({ v := .iface 99 (.agg #[.int .i64 p, .int .i64 e]), recovered := false } :: older)) w fun en u' w' =>
      en = .returned (.tuple #[]) ∧ u' = .panicking ({ v := .iface 99 (.agg #[.int .i64 p, .int .i64 e]), recovered := true } :: older) ∧ Turn [bA, bE] w w' ∧ w'.heap[bA]? = some (ic p 3) ∧ w'.heap[bE]? = some (ic e 26) := by
  have c0 := cell_of hA 0
  have c1 := cell_of hE 0
  have z0 := free_of hA 0
  have z1 := free_of hE 0
  simp at c0 c1
  have HA : Hid (w.heap[bA]? = some (ic x 3)) := hA
  have HE : Hid (w.heap[bE]? = some (ic y 26)) := hE
  have lA := lt_of_obj hA
  have lE := lt_of_obj hE
  clear hA hE
  refine callsD_of_wpS Tryz.func52 rfl fun c₀ cs hu => ?_
  apply wpS_seq
  apply wpS_region
  simp [wpOpsS, go_sem, recoverD, hu, Tryz.ntmps52, Exit.thenS]
  refine wpS_of_wp ?_
  rw [show (#[Value.pointer (some { block := bA, off := 0 }), Value.pointer (some { block := bE, off := 0 })] ++
          ((Array.replicate 11 undef).setIfInBounds 2 (Value.iface 99 (Value.agg #[Value.int IntKind.i64 p, Value.int IntKind.i64 e]))).setIfInBounds 0 (Value.iface 99 (Value.agg #[Value.int IntKind.i64 p, Value.int IntKind.i64 e])) : Array Value) = #[Value.pointer (some { block := bA, off := 0 }), Value.pointer (some { block := bE, off := 0 }), Value.iface 99 (Value.agg #[Value.int IntKind.i64 p, Value.int IntKind.i64 e]), undef, Value.iface 99 (Value.agg #[Value.int IntKind.i64 p, Value.int IntKind.i64 e]), undef, undef, undef, undef, undef, undef, undef, undef] from rfl]
  clear hu
  have ha := assertF
  go_wp2_with fail
  go_region
  all_goals
    go_wp2_with fail
    simp [bodyPostS, results, Tryz.results52]
    refine ⟨?_, ?_, ?_⟩
    · exact ((((Turn.refl [bA, bE] w).set (p := ⟨bA, 0, none⟩) (Or.inl (by simp)) _).set (p := ⟨bE, 0, none⟩) (Or.inl (by simp)) _).alloc _).drew
    · exact heap_alloc (heap_other (o := ic p 3) (p := ⟨bE, 0, none⟩) (by rw [heap_set HA.out]; rfl) (show bA ≠ bE from hne.symm) _) _
    · exact heap_alloc (o := ic e 26) ((heap_set (heap_other (p := ⟨bA, 0, none⟩) HE.out (show bE ≠ bA from hne) _) 0 _).trans rfl) _
theorem idleH (bA bE : Nat) (w : World) :
    CallsD Tryz.prog 52 #[.pointer (some ⟨bA, 0, none⟩), .pointer (some ⟨bE, 0, none⟩)] .returning w fun en u' w' => en = .returned (.tuple #[]) ∧ u' = .returning ∧ w' = w := by
  refine callsD_of_wpS Tryz.func52 rfl fun c₀ cs hu => ?_
  apply wpS_seq
  apply wpS_region
  simp [wpOpsS, go_sem, recoverD, hu, Tryz.ntmps52, Exit.thenS]
  refine wpS_of_wp ?_
  rw [show (#[Value.pointer (some { block := bA, off := 0 }), Value.pointer (some { block := bE, off := 0 })] ++
          ((Array.replicate 11 undef).setIfInBounds 2 Value.nilIface).setIfInBounds 0 Value.nilIface : Array Value) = #[Value.pointer (some { block := bA, off := 0 }), Value.pointer (some { block := bE, off := 0 }), .nilIface, undef, .nilIface, undef, undef, undef, undef, undef, undef, undef, undef] from rfl]
  go_wp2
  cases c₀
  simp_all [bodyPostS, results, Tryz.results52]
def ansH (x : Int × Int × Int) : Value := .tuple #[.int .i64 x.1, .int .i64 x.2.1, .int .i64 x.2.2]
set_option maxRecDepth 100000 in
set_option maxHeartbeats 1000000 in
theorem readAtH_any (v : Value) (l : List Int) (x : Int) (w : World) (hR : Reads w v l) (hB : Byt l) (hl : l.length ≤ 140737488351232) (hT : Tab w) :
    Calls Tryz.prog 28 #[v, .int .i64 x, .func (.func 70) #[] #[]] w fun en w' => en = .returned (ansH (topR (heapR l) 0 l x)) ∧ Grew w w' := by
  have hmf : ∀ (fn : Fn) (first cap : Array Value) (w : World), (Instr.makeFunc fn first cap).run Tryz.prog w = .ok (.func fn first cap) w := fun _ _ _ _ => rfl
  obtain ⟨sa, cap, rfl⟩ := hR.len
  by_cases hin : 0 ≤ x ∧ x ≤ l.length
  · obtain ⟨p, rfl⟩ : ∃ p : Nat, x = p := ⟨x.toNat, by omega⟩
    have hp : p ≤ l.length := by omega
    have d1 : decide ((p : Int) < 0) = false := by simp
    have d2 : decide ((l.length : Int) < (p : Int)) = false := by simp; omega
    have HR : Hid (Reads w (.slice sa l.length cap) l) := hR
    have HB : Hid (Byt l) := hB
    have HT : Hid (Tab w) := hT
    have hpos := hT.pos
    obtain ⟨X, hX⟩ : ∃ X, X = topR (heapR l) 0 l (p : Int) := ⟨_, rfl⟩
    rw [← hX]
    rw [topR_in hp] at hX
    clear hR hB hT hin
    go_enter_defers Tryz.func28, Tryz.ntmps28
    go_wp2_with fail
    generalize hW : (((w.alloc (Obj.cells #[Value.int IntKind.i64 0] 3)).alloc (Obj.cells #[Value.int IntKind.i64 0] 26)).alloc (Obj.cells #[Value.slice sa l.length cap, Value.int IntKind.i64 ↑p] 101)) = W
    have G0 : Hid (Grew w W) := by rw [← hW]; exact (((Grew.refl w).alloc _).alloc _).alloc _
    obtain ⟨P0, E0, o0⟩ : Hid (W.heap[w.heap.size]? = some (ic 0 3)) ∧ Hid (W.heap[w.heap.size + 1]? = some (ic 0 26)) ∧ W.heap[w.heap.size + 1 + 1]? = some (cur (.slice sa l.length cap) p) := by
      rw [← hW]
      exact heap_three _ _ _ _
    have U0 : Hid (CU W (w.heap.size + 1 + 1) (.slice sa l.length cap) l p) := ⟨o0, G0.out.reads HR.out, HB.out, hl, hp, HT.out.grew G0.out, by omega⟩
    clear hW o0
    have V := heapType_any U0.out
    cases hv : heapR l p with
    | error y =>
      obtain ⟨f, e⟩ := y
      rw [hv] at V hX
      have HX : Hid (X = (0, (f : Int), (e : Int))) := hX
      clear hv hX
      refine V.mono ?_
      rintro en w2 ⟨rfl, t2⟩
      have g2 : Grew w w2 := t2.grew G0.out (by intro y hy; simp at hy; omega)
      have T2 : Hid (Turn [w.heap.size + 1 + 1] W w2) := t2
      have P3 := t2.other P0.out (by first | (simp; done) | (simp; omega))
      have E3 := t2.other E0.out (by first | (simp; done) | (simp; omega))
      clear V t2
      unfold flt
      go_wp2_with fail
      refine leaves_cons (f := 52) (args := #[.pointer (some ⟨w.heap.size, 0, none⟩), .pointer (some ⟨w.heap.size + 1, 0, none⟩)]) (by simp) (by simp [go_sem]) ?_
      refine (caughtH _ _ f e 0 0 [] _ P3 E3 (by omega)).mono ?_
      rintro en u' w4 ⟨rfl, rfl, t4, p4, e4⟩
      have g4 : Grew w w4 := t4.grew g2 (by intro y hy; simp at hy; omega)
      have b0 := cell_of p4 0
      have c0 := cell_of e4 0
      simp [ic] at b0 c0
      simp [Leaves, settle, results, Tryz.results28, go_sem, b0, c0]
      rw [HX.out]
      exact ⟨rfl, g4⟩
    | ok y =>
      obtain ⟨n, q⟩ := y
      rw [hv] at V hX
      have HX : Hid (X = (n, (q : Int), 0)) := hX
      clear hv hX
      refine V.mono ?_
      rintro en w2 ⟨rfl, t2, u2⟩
      have G2 : Hid (Grew w w2) := t2.grew G0.out (by intro y hy; simp at hy; omega)
      have P3 : Hid (w2.heap[w.heap.size]? = some (ic 0 3)) := t2.other P0.out (by first | (simp; done) | (simp; omega))
      have E3 : Hid (w2.heap[w.heap.size + 1]? = some (ic 0 26)) := t2.other E0.out (by first | (simp; done) | (simp; omega))
      have u1 := u2.c1
      have hlt : w.heap.size + 1 + 1 < w2.heap.size := u2.lt
      clear V t2 u2 P0 E0 U0 G0
      skip
      have b0 := cell_of P3.out 0
      have c0 := cell_of E3.out 0
      have y3 := free_of P3.out 0
      have y4 := free_of E3.out 0
      simp [ic] at b0 c0
      go_wp2_with fail
      go_region
      all_goals
        go_wp2_with fail
        refine leaves_cons (f := 52) (args := #[.pointer (some ⟨w.heap.size, 0, none⟩), .pointer (some ⟨w.heap.size + 1, 0, none⟩)]) (by simp) (by simp [go_sem]) ?_
        refine (idleH _ _ _).mono ?_
        rintro en u' w5 ⟨rfl, rfl, rfl⟩
        simp [Leaves, settle, results, Tryz.results28, go_sem, b0, c0]
        rw [HX.out]
        exact ⟨rfl, ((G2.out.set (p := ⟨w.heap.size, 0, none⟩) (by first | (simp; done) | (simp; omega)) _).set (p := ⟨w.heap.size + 1, 0, none⟩) (by first | (simp; done) | (simp; omega)) _).drew⟩
  · rw [topR_out hin]
    by_cases h0 : x < 0
    · have d1 : decide (x < 0) = true := by simpa using h0
      clear hR hB hT hin
      go_enter_defers Tryz.func28, Tryz.ntmps28
      go_wp2_with fail
      simp [bodyPostD, Leaves, settle, results, Tryz.results28, go_sem]
      exact ⟨rfl, ((Grew.refl w).alloc _).alloc _⟩
    · have d1 : decide (x < 0) = false := by simpa using h0
      have d2 : decide ((l.length : Int) < x) = true := by simp; omega
      clear hR hB hT hin
      go_enter_defers Tryz.func28, Tryz.ntmps28
      go_wp2_with fail
      simp [bodyPostD, Leaves, settle, results, Tryz.results28, go_sem]
      exact ⟨rfl, ((Grew.refl w).alloc _).alloc _⟩
end Go.Proofs.YtemaeigfhmnapaaGreatDoor

namespace Go.Proofs.YtemaeigfhmnapaaGreatDoor
open Go.RowKit
set_option linter.unusedVariables false
set_option linter.unusedSimpArgs false
set_option linter.constructorNameAsVariable false

def ansB (x : BK × Int × Int) : Value := .tuple #[x.1.v, .int .i64 x.2.1, .int .i64 x.2.2]
end Go.Proofs.YtemaeigfhmnapaaGreatDoor

namespace Go.Proofs.YtemaeigfhmnapaaGreatDoor
open Go.RowKit
set_option linter.unusedVariables false
set_option linter.unusedSimpArgs false
set_option linter.constructorNameAsVariable false

end Go.Proofs.YtemaeigfhmnapaaGreatDoor

namespace Go.Proofs.YtemaeigfhmnapaaGreatDoor
open Go.RowKit
set_option linter.unusedVariables false
set_option linter.unusedSimpArgs false
set_option linter.constructorNameAsVariable false

set_option maxRecDepth 100000 in
set_option maxHeartbeats 1000000 in
theorem begin_any (v : Value) (l : List Int) (x : Int) (w : World) (hR : Reads w v l) :
    Calls Tryz.prog 19 #[v, .int .i64 x] w fun en w' => en = .returned (.tuple #[.pointer (some ⟨w.heap.size, 0, none⟩), .bool (decide (0 ≤ x ∧ x ≤ l.length))]) ∧ w' = w.alloc (.cells #[v, .int .i64 x, .int .i64 0, .int .i64 0] 86) := by
  obtain ⟨sa, cap, rfl⟩ := hR.len
  clear hR
  by_cases h0 : 0 ≤ x
  · have d0 : decide (0 ≤ x) = true := by simpa using h0
    by_cases h1 : x ≤ l.length
    · have d1 : decide (x ≤ (l.length : Int)) = true := by simpa using h1
      rw [show decide (0 ≤ x ∧ x ≤ (l.length : Int)) = true by simp; omega]
      go_enter Tryz.func19, Tryz.ntmps19
      go_wp2_with fail
      go_ret2
      exact ⟨rfl, rfl⟩
    · have d1 : decide (x ≤ (l.length : Int)) = false := by simpa using h1
      rw [show decide (0 ≤ x ∧ x ≤ (l.length : Int)) = false by simp; omega]
      go_enter Tryz.func19, Tryz.ntmps19
      go_wp2_with fail
      go_ret2
      exact ⟨rfl, rfl⟩
  · have d0 : decide (0 ≤ x) = false := by simpa using h0
    rw [show decide (0 ≤ x ∧ x ≤ (l.length : Int)) = false by simp; omega]
    go_enter Tryz.func19, Tryz.ntmps19
    go_wp2_with fail
    go_ret2
    exact ⟨rfl, rfl⟩
def endV : Except (Nat × Nat) Nat → Int × Int
  | .ok p => (p, 0)
  | .error (f, e) => (f, e)
set_option maxRecDepth 100000 in
set_option maxHeartbeats 1000000 in
theorem end_any {w : World} {b : Nat} {v : Value} {l : List Int} {st : Except (Nat × Nat) Nat} (h : DR w b v l st) :
    Calls Tryz.prog 21 #[.pointer (some ⟨b, 0, none⟩)] w fun en w' => en = .returned (.tuple #[.int .i64 (endV st).1, .int .i64 (endV st).2]) ∧ Grew w w' := by
  cases st with
  | ok p =>
    have c1 := cell_of h.st.1 1
    have c3 := cell_of h.st.1 3
    simp at c1 c3
    clear h
    go_enter Tryz.func21, Tryz.ntmps21
    go_wp2_with fail
    go_ret2
    exact ⟨rfl, Grew.refl _⟩
  | error x =>
    obtain ⟨f, e⟩ := x
    obtain ⟨a, ho, _, he⟩ := h.st
    have c2 := cell_of ho 2
    have c3 := cell_of ho 3
    simp at c2 c3
    have d : ((e : Int) != 0) = true := by simp; exact he
    clear h ho
    go_enter Tryz.func21, Tryz.ntmps21
    go_wp2_with fail
    go_quiet (fail)
    go_wp2_with fail
    go_ret2
    exact ⟨rfl, (Grew.refl w).drewN _⟩
theorem dvalF_any {w : World} {b : Nat} {v : Value} {l : List Int} {st : Except (Nat × Nat) Nat} (h : DR w b v l st) :
    Calls Tryz.prog 47 #[.pointer (some ⟨b, 0, none⟩), .bool false, .bool false] w (DAns VT.v b v l w (runR (refR l) st)) := by
  have := dval_any false false h
  rwa [show valD false false l = refR l from funext (valD_ref l h.byt)] at this
theorem DAnsV.er {b : Nat} {v : Value} {l : List Int} {w : World} {r : RS (List VT)} {f e : Nat} {n : FuncId} {args : Array Value} (h : Calls Tryz.prog n args w (DAnsV b v l w r)) (hr : r = .error (f, e)) : Calls Tryz.prog n args w fun en w' => ∃ rv x, en = .returned rv ∧ RowV w.heap.size w' rv x ∧ FinD b v l w w' (.error (f, e)) := by subst hr; exact h
theorem DAnsV.ok {b : Nat} {v : Value} {l : List Int} {w : World} {r : RS (List VT)} {x : List VT} {q : Nat} {n : FuncId} {args : Array Value} (h : Calls Tryz.prog n args w (DAnsV b v l w r)) (hr : r = .ok (x, q)) : Calls Tryz.prog n args w fun en w' => ∃ rv, en = .returned rv ∧ RowV w.heap.size w' rv x ∧ FinD b v l w w' (.ok q) := by subst hr; exact h
end Go.Proofs.YtemaeigfhmnapaaGreatDoor
