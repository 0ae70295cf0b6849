/-
  The walks of readAt at groups, and of the call over it; no statement is proved here.
-/
import Derived.Test.YtchehejjdinifaaGreatDoorGrpS
import Derived.Test.YtchehejjdinifaaGreatDoorTopV
namespace Go.Proofs.YtchehejjdinifaaGreatDoor
open Go.RowKit
set_option linter.unusedVariables false
set_option linter.unusedSimpArgs false
set_option linter.constructorNameAsVariable false

/- Rows that lie from B on stay where only blocks below B turn. -/
theorem row_turnB {w w' : World} {B : Nat} {e : TypeId} {k : Nat} {v : Value} {n : Nat} {cs : List Value} {S : List Nat} (h : w.ownsRow B e k v n cs) (t : Turn S w w') (hS : ∀ x ∈ S, x < B) : w'.ownsRow B e k v n cs := by
  obtain ⟨h1, h2 | ⟨g, cap, cur, hv, hB, hg, h3⟩⟩ := h
  · exact ⟨h1, Or.inl h2⟩
  · exact ⟨h1, Or.inr ⟨g, cap, cur, hv, hB, t.other hg (fun hx => by have := hS g hx; omega), h3⟩⟩
theorem CompC.turnB {B : Nat} {w w' : World} {cs : List Value} {x : CT} {S : List Nat} (h : CompC B w cs x) (t : Turn S w w') (hS : ∀ x ∈ S, x < B) : CompC B w' cs x := by
  obtain ⟨pv, rv, fv, e, a2, a3, a4⟩ := h
  exact ⟨pv, rv, fv, e, row_turnB a2 t hS, row_turnB a3 t hS, row_turnB a4 t hS⟩
theorem SubC.turnB {B : Nat} {w w' : World} {cs : List Value} {x : SB} {S : List Nat} (h : SubC B w cs x) (t : Turn S w w') (hS : ∀ x ∈ S, x < B) : SubC B w' cs x := by
  obtain ⟨sv, pv, rv, fv, e, a1, a2, a3, a4⟩ := h
  exact ⟨sv, pv, rv, fv, e, row_turnB a1 t hS, row_turnB a2 t hS, row_turnB a3 t hS, row_turnB a4 t hS⟩
theorem RecC.turnB {B : Nat} {w w' : World} {cs : List Value} {x : RT} {S : List Nat} (h : RecC B w cs x) (t : Turn S w w') (hS : ∀ x ∈ S, x < B) : RecC B w' cs x := by
  obtain ⟨tv, e, ds, a, b⟩ := h
  exact ⟨tv, e, ds, row_turnB a t hS, fun i x hx => (b i x hx).turnB t hS⟩
theorem RecC.low {B B' : Nat} {w : World} {cs : List Value} {x : RT} (h : RecC B w cs x) (hb : B' ≤ B) : RecC B' w cs x := by
  obtain ⟨tv, e, a⟩ := h
  exact ⟨tv, e, a.low hb⟩
end Go.Proofs.YtchehejjdinifaaGreatDoor

namespace Go.Proofs.YtchehejjdinifaaGreatDoor
open Go.RowKit
set_option linter.unusedVariables false
set_option linter.unusedSimpArgs false
set_option linter.constructorNameAsVariable false

set_option maxRecDepth 100000 in
set_option maxHeartbeats 1000000 in
theorem caughtRx (bA bE : Nat) (p e x y : Int) (older : List PanicEntry) (w : World) (hA : w.heap[bA]? = some (ic x 3)) (hE : w.heap[bE]? = some (ic y 39)) (hne : bE ≠ bA) :
    CallsD Tryz.prog 24 #[.pointer (some ⟨bA, 0, none⟩), .pointer (some ⟨bE, 0, none⟩)] (.panicking ({ v := .iface 74 (.agg #[.int .i64 p, .int .i64 e]), recovered := false } :: older)) w fun en u' w' =>
      en = .returned (.tuple #[]) ∧ u' = .panicking ({ v := .iface 74 (.agg #[.int .i64 p, .int .i64 e]), recovered := true } :: older) ∧ Turn [bA, bE] w w' ∧ w'.heap[bA]? = some (ic p 3) ∧ w'.heap[bE]? = some (ic e 39) := by
  have c0 := cell_of hA 0
  have c1 := cell_of hE 0
  have z0 := free_of hA 0
  have z1 := free_of hE 0
  simp at c0 c1
  have HA : Hid (w.heap[bA]? = some (ic x 3)) := hA
  have HE : Hid (w.heap[bE]? = some (ic y 39)) := hE
  have lA := lt_of_obj hA
  have lE := lt_of_obj hE
  clear hA hE
  refine callsD_of_wpS Tryz.func24 rfl fun c₀ cs hu => ?_
  apply wpS_seq
  apply wpS_region
  simp [wpOpsS, go_sem, recoverD, hu, Tryz.ntmps24, Exit.thenS]
  refine wpS_of_wp ?_
  rw [show (#[Value.pointer (some { block := bA, off := 0 }), Value.pointer (some { block := bE, off := 0 })] ++
          ((Array.replicate 11 undef).setIfInBounds 2 (Value.iface 74 (Value.agg #[Value.int IntKind.i64 p, Value.int IntKind.i64 e]))).setIfInBounds 0 (Value.iface 74 (Value.agg #[Value.int IntKind.i64 p, Value.int IntKind.i64 e])) : Array Value) = #[Value.pointer (some { block := bA, off := 0 }), Value.pointer (some { block := bE, off := 0 }), Value.iface 74 (Value.agg #[Value.int IntKind.i64 p, Value.int IntKind.i64 e]), undef, Value.iface 74 (Value.agg #[Value.int IntKind.i64 p, Value.int IntKind.i64 e]), undef, undef, undef, undef, undef, undef, undef, undef] from rfl]
  clear hu
  have ha := assertF
  go_wp2_with fail
  go_region
  all_goals
    go_wp2_with fail
    simp [bodyPostS, results, Tryz.results24]
    refine ⟨?_, ?_, ?_⟩
    · exact ((((Turn.refl [bA, bE] w).set (p := ⟨bA, 0, none⟩) (Or.inl (by simp)) _).set (p := ⟨bE, 0, none⟩) (Or.inl (by simp)) _).alloc _).drew
    · exact heap_alloc (heap_other (o := ic p 3) (p := ⟨bE, 0, none⟩) (by rw [heap_set HA.out]; rfl) (show bA ≠ bE from hne.symm) _) _
    · exact heap_alloc (o := ic e 39) ((heap_set (heap_other (p := ⟨bA, 0, none⟩) HE.out (show bE ≠ bA from hne) _) 0 _).trans rfl) _
theorem idleRx (bA bE : Nat) (w : World) :
    CallsD Tryz.prog 24 #[.pointer (some ⟨bA, 0, none⟩), .pointer (some ⟨bE, 0, none⟩)] .returning w fun en u' w' => en = .returned (.tuple #[]) ∧ u' = .returning ∧ w' = w := by
  refine callsD_of_wpS Tryz.func24 rfl fun c₀ cs hu => ?_
  apply wpS_seq
  apply wpS_region
  simp [wpOpsS, go_sem, recoverD, hu, Tryz.ntmps24, Exit.thenS]
  refine wpS_of_wp ?_
  rw [show (#[Value.pointer (some { block := bA, off := 0 }), Value.pointer (some { block := bE, off := 0 })] ++
          ((Array.replicate 11 undef).setIfInBounds 2 Value.nilIface).setIfInBounds 0 Value.nilIface : Array Value) = #[Value.pointer (some { block := bA, off := 0 }), Value.pointer (some { block := bE, off := 0 }), .nilIface, undef, .nilIface, undef, undef, undef, undef, undef, undef, undef, undef] from rfl]
  go_wp2
  cases c₀
  simp_all [bodyPostS, results, Tryz.results24]
set_option maxRecDepth 100000 in
set_option maxHeartbeats 1000000 in
theorem readRx_any (v : Value) (l : List Int) (x : Int) (w : World) (hR : Reads w v l) (hB : Byt l) (hl : l.length ≤ 140737488351232) (hT : Tab w) :
    Calls Tryz.prog 12 #[v, .int .i64 x, .func (.func 13) #[] #[]] w fun en w' => ∃ cs, en = .returned (.tuple #[.agg cs.toArray, .int .i64 (topR (recR l) ⟨[], false⟩ l x).2.1, .int .i64 (topR (recR l) ⟨[], false⟩ l x).2.2]) ∧ RecC w.heap.size w' cs (topR (recR l) ⟨[], false⟩ l x).1 ∧ Grew w w' := by
  have hmf : ∀ (fn : Fn) (first cap : Array Value) (w : World), (Instr.makeFunc fn first cap).run Tryz.prog w = .ok (.func fn first cap) w := fun _ _ _ _ => rfl
  obtain ⟨sa0, cap, rfl⟩ := hR.len
  by_cases hin : 0 ≤ x ∧ x ≤ l.length
  · obtain ⟨p, rfl⟩ : ∃ p : Nat, x = p := ⟨x.toNat, by omega⟩
    have hp : p ≤ l.length := by omega
    have d1 : decide ((p : Int) < 0) = false := by simp
    have d2 : decide ((l.length : Int) < (p : Int)) = false := by simp; omega
    have HR : Hid (Reads w (.slice sa0 l.length cap) l) := hR
    have HB : Hid (Byt l) := hB
    have HT : Hid (Tab w) := hT
    have hpos := hT.pos
    obtain ⟨X, hX⟩ : ∃ X, X = topR (recR l) ⟨[], false⟩ l (p : Int) := ⟨_, rfl⟩
    rw [← hX]
    rw [topR_in hp] at hX
    clear hR hB hT hin
    go_enter_defers Tryz.func12, Tryz.ntmps12
    go_wp2_with fail
    generalize hW : ((((w.alloc (Obj.cells #[Value.slice none 0 0, Value.bool false] 24)).alloc (Obj.cells #[Value.int IntKind.i64 0] 3)).alloc (Obj.cells #[Value.int IntKind.i64 0] 39)).alloc (Obj.cells #[Value.slice sa0 l.length cap, Value.int IntKind.i64 ↑p] 82)) = W
    have G0 : Hid (Grew w W) := by rw [← hW]; exact ((((Grew.refl w).alloc _).alloc _).alloc _).alloc _
    obtain ⟨A0, P0, E0, o0⟩ : Hid (W.heap[w.heap.size]? = some (.cells #[.slice none 0 0, .bool false] 24 (0, 0))) ∧ Hid (W.heap[w.heap.size + 1]? = some (ic 0 3)) ∧ Hid (W.heap[w.heap.size + 1 + 1]? = some (ic 0 39)) ∧ W.heap[w.heap.size + 1 + 1 + 1]? = some (cur (.slice sa0 l.length cap) p) := by
      rw [← hW]
      exact heap_four _ _ _ _ _
    have U0 : Hid (CU W (w.heap.size + 1 + 1 + 1) (.slice sa0 l.length cap) l p) := ⟨o0, G0.out.reads HR.out, HB.out, hl, hp, HT.out.grew G0.out, by omega⟩
    clear hW o0
    have V := recType_any U0.out
    cases hv : recR l p with
    | error y =>
      obtain ⟨f, e⟩ := y
      rw [hv] at hX
      have HX : Hid (X = (⟨[], false⟩, (f : Int), (e : Int))) := hX
      refine (AnsX.er V hv).mono ?_
      clear hX V
      rintro en w2 ⟨rfl, t2⟩
      have g2 : Grew w w2 := t2.grew G0.out (by intro y hy; simp at hy; omega)
      have P3 := t2.other P0.out (by first | (simp; done) | (simp; omega))
      have E3 := t2.other E0.out (by first | (simp; done) | (simp; omega))
      have A3 := t2.other A0.out (by simp; omega)
      clear t2 hv
      unfold flt
      go_wp2_with fail
      refine leaves_cons (f := 24) (args := #[.pointer (some ⟨w.heap.size + 1, 0, none⟩), .pointer (some ⟨w.heap.size + 1 + 1, 0, none⟩)]) (by simp) (by simp [go_sem]) ?_
      refine (caughtRx _ _ f e 0 0 [] _ P3 E3 (by omega)).mono ?_
      rintro en u' w4 ⟨rfl, rfl, t4, p4, e4⟩
      have g4 : Grew w w4 := t4.grew g2 (by intro y hy; simp at hy; omega)
      have b0 := cell_of p4 0
      have c0 := cell_of e4 0
      simp [ic] at b0 c0
      have A4 := t4.other A3 (by simp; omega)
      have a0 := cell_of A4 0
      have a1 := cell_of A4 1
      simp at a0 a1
      simp [Leaves, settle, results, Tryz.results12, go_sem, b0, c0, a0, a1]
      rw [HX.out]
      exact ⟨[.slice none 0 0, .bool false], by first | rfl | exact ⟨rfl, rfl, rfl⟩, ⟨_, rfl, SubsQ.nil _ _⟩, g4⟩
    | ok y =>
      obtain ⟨x, q⟩ := y
      rw [hv] at hX
      have HX : Hid (X = (x, (q : Int), 0)) := hX
      refine (AnsX.ok V hv).mono ?_
      clear hX V hv
      rintro en w2 ⟨cs, rfl, c2, t2, u2⟩
      have G2 : Hid (Grew w w2) := t2.grew G0.out (by intro y hy; simp at hy; omega)
      have P3 : Hid (w2.heap[w.heap.size + 1]? = some (ic 0 3)) := t2.other P0.out (by first | (simp; done) | (simp; omega))
      have E3 : Hid (w2.heap[w.heap.size + 1 + 1]? = some (ic 0 39)) := t2.other E0.out (by first | (simp; done) | (simp; omega))
      have UC : Hid (w2.heap[w.heap.size + 1 + 1 + 1]? = some (cur (.slice sa0 l.length cap) q)) := u2.obj
      have A3 : Hid (w2.heap[w.heap.size]? = some (.cells #[.slice none 0 0, .bool false] 24 (0, 0))) := t2.other A0.out (by simp; omega)
      have hlt : w.heap.size + 1 + 1 + 1 < w2.heap.size := u2.lt
      have HC0 := c2
      have hWl : w.heap.size + 1 + 1 + 1 < W.heap.size := U0.out.lt
      have hWg : w.heap.size ≤ W.heap.size := G0.out.2
      obtain ⟨tv, hcs, z1⟩ := c2
      obtain ⟨ta, tc, e1⟩ := z1.one
      subst e1
      subst hcs
      have HC : Hid (RecC W.heap.size w2 [.slice ta x.types.length tc, .bool x.explicit] x) := HC0
      clear t2 u2 P0 E0 U0 G0 A0 HC0 z1
      go_wp2_with fail
      generalize hw3 : w2.alloc (Obj.cells #[.slice ta x.types.length tc, .bool x.explicit] 24) = w3
      have G3 : Hid (Grew w2 w3) := by rw [← hw3]; exact (Grew.refl w2).alloc _
      have D3 := (show w3.heap[w2.heap.size]? = some (.cells #[.slice ta x.types.length tc, .bool x.explicit] 24 (0, 0)) by rw [← hw3]; exact heap_alloc_last _ _)
      have P4 : Hid (w3.heap[w.heap.size + 1]? = some (ic 0 3)) := (G3.out.turn []).other P3.out (by simp)
      have E4 : Hid (w3.heap[w.heap.size + 1 + 1]? = some (ic 0 39)) := (G3.out.turn []).other E3.out (by simp)
      have A4 : Hid (w3.heap[w.heap.size]? = some (.cells #[.slice none 0 0, .bool false] 24 (0, 0))) := (G3.out.turn []).other A3.out (by simp)
      have UC4 := (G3.out.turn []).other UC.out (by simp)
      have u4 := cell_of UC4 1
      simp at u4
      have d0 := cell_of D3 0
      have d1 := cell_of D3 1
      simp at d0 d1
      clear hw3 UC4
      have b0 := cell_of P4.out 0
      have c0 := cell_of E4.out 0
      have y3 := free_of P4.out 0
      have y4 := free_of E4.out 0
      simp [ic] at b0 c0
      have a0 := cell_of A4.out 0
      have x0 := free_of A4.out 0
      have a1 := cell_of A4.out 1
      have x1 := free_of A4.out 1
      simp at a0 a1
      have hC3 : RecC W.heap.size w3 [.slice ta x.types.length tc, .bool x.explicit] x := HC.out.turnB (G3.out.turn []) (by simp)
      have HC3 : Hid (RecC W.heap.size w3 [.slice ta x.types.length tc, .bool x.explicit] x) := hC3
      have hlow : ∀ y ∈ [w.heap.size, w.heap.size + 1, w.heap.size + 1 + 1], y < W.heap.size := by
        intro y hy
        simp at hy
        omega
      clear hC3
      go_region
      all_goals
        go_wp2_with fail
        refine leaves_cons (f := 24) (args := #[.pointer (some ⟨w.heap.size + 1, 0, none⟩), .pointer (some ⟨w.heap.size + 1 + 1, 0, none⟩)]) (by simp) (by simp [go_sem]) ?_
        refine (idleRx _ _ _).mono ?_
        rintro en u' w5 ⟨rfl, rfl, rfl⟩
        simp [Leaves, settle, results, Tryz.results12, go_sem, b0, c0, a0, a1]
        rw [HX.out]
        exact ⟨[.slice ta x.types.length tc, .bool x.explicit], by first | rfl | exact ⟨rfl, rfl, rfl⟩, (HC3.out.turnB (((((Turn.refl [w.heap.size, w.heap.size + 1, w.heap.size + 1 + 1] w3).set (p := ⟨w.heap.size, 0, none⟩) (Or.inl (by simp)) _).set (p := ⟨w.heap.size, 1, none⟩) (Or.inl (by simp)) _).set (p := ⟨w.heap.size + 1, 0, none⟩) (Or.inl (by simp)) _).set (p := ⟨w.heap.size + 1 + 1, 0, none⟩) (Or.inl (by simp)) _).drew hlow).low hWg, (((((G2.out.trans G3.out).set (p := ⟨w.heap.size, 0, none⟩) (by simp) _).set (p := ⟨w.heap.size, 1, none⟩) (by simp) _).set (p := ⟨w.heap.size + 1, 0, none⟩) (by first | (simp; done) | (simp; omega)) _).set (p := ⟨w.heap.size + 1 + 1, 0, none⟩) (by first | (simp; done) | (simp; omega)) _).drew⟩
  · rw [topR_out hin]
    by_cases h0 : x < 0
    · have d1 : decide (x < 0) = true := by simpa using h0
      clear hR hB hT hin
      go_enter_defers Tryz.func12, Tryz.ntmps12
      go_wp2_with fail
      simp [bodyPostD, Leaves, settle, results, Tryz.results12, go_sem]
      exact ⟨⟨_, rfl, SubsQ.nil _ _⟩, (((Grew.refl w).alloc _).alloc _).alloc _⟩
    · have d1 : decide (x < 0) = false := by simpa using h0
      have d2 : decide ((l.length : Int) < x) = true := by simp; omega
      clear hR hB hT hin
      go_enter_defers Tryz.func12, Tryz.ntmps12
      go_wp2_with fail
      simp [bodyPostD, Leaves, settle, results, Tryz.results12, go_sem]
      exact ⟨⟨_, rfl, SubsQ.nil _ _⟩, (((Grew.refl w).alloc _).alloc _).alloc _⟩
set_option maxRecDepth 100000 in
set_option maxHeartbeats 1000000 in
theorem topRx_any (v : Value) (l : List Int) (x : Int) (w : World) (hR : Reads w v l) (hB : Byt l) (hl : l.length ≤ 140737488351232) (hT : Tab w) :
    Calls Tryz.prog 5 #[v, .int .i64 x] w fun en w' => ∃ cs, en = .returned (.tuple #[.agg cs.toArray, .int .i64 (topR (recR l) ⟨[], false⟩ l x).2.1, .int .i64 (topR (recR l) ⟨[], false⟩ l x).2.2]) ∧ RecC w.heap.size w' cs (topR (recR l) ⟨[], false⟩ l x).1 ∧ Grew w w' := by
  have C : Hid (∀ w1, Grew w w1 → Calls Tryz.prog 12 #[v, .int .i64 x, .func (.func 13) #[] #[]] w1 fun en w' => ∃ cs, en = .returned (.tuple #[.agg cs.toArray, .int .i64 (topR (recR l) ⟨[], false⟩ l x).2.1, .int .i64 (topR (recR l) ⟨[], false⟩ l x).2.2]) ∧ RecC w1.heap.size w' cs (topR (recR l) ⟨[], false⟩ l x).1 ∧ Grew w1 w') := fun w1 g => readRx_any v l x w1 (g.reads hR) hB hl (hT.grew g)
  obtain ⟨sa0, cap, rfl⟩ := hR.len
  clear hR hT hB
  generalize topR (recR l) ⟨[], false⟩ l x = X at *
  obtain ⟨x, pl, e⟩ := X
  simp only at C ⊢
  go_enter Tryz.func5, Tryz.ntmps5
  go_wp2_with fail
  refine (C.out _ ((Grew.refl w).alloc _)).mono ?_
  rintro en w1 ⟨cs, rfl, c2, g1⟩
  have hN := (g1.turn []).other (heap_alloc_last _ _) (by simp)
  have HN : Hid (w1.heap[w.heap.size]? = some (.cells #[.slice none 0 0, .bool false] 24 (0, 0))) := hN
  have nc0 := cell_of hN 0
  have z0_ := free_of hN 0
  have nc1 := cell_of hN 1
  have z1_ := free_of hN 1
  simp at nc0 nc1
  have G1 : Hid (Grew w w1) := ((Grew.refl w).alloc _).trans g1
  replace c2 : RecC w.heap.size w1 cs x := c2.low (by simp)
  have HC0 := c2
  obtain ⟨tv, hcs, z1⟩ := c2
  obtain ⟨ta, tc, e1⟩ := z1.one
  subst e1
  subst hcs
  have HC : Hid (RecC w.heap.size w1 [.slice ta x.types.length tc, .bool x.explicit] x) := HC0
  clear hN g1 HC0 z1
  go_wp2_with fail
  refine bodyPost_ret (v := .tuple #[.agg #[.slice ta x.types.length tc, .bool x.explicit], .int .i64 pl, .int .i64 e]) (by simp [results, Tryz.results5, go_sem, nc0, nc1]) rfl ?_
  have hNT : ∀ (e : TypeId), 24 ≠ e → ∀ y ∈ [w.heap.size], NoT w1 y e := fun e he y hy => by simp at hy; subst hy; exact NoT.of HN.out he
  exact ⟨[.slice ta x.types.length tc, .bool x.explicit], rfl, HC.out.turn (((Turn.refl [w.heap.size] w1).set (p := ⟨w.heap.size, 0, none⟩) (Or.inl (by simp)) _).set (p := ⟨w.heap.size, 1, none⟩) (Or.inl (by simp)) _) (hNT 65 (by decide)) (hNT 3 (by decide)) (hNT 26 (by decide)) (hNT 107 (by decide)), ((G1.out.set (p := ⟨w.heap.size, 0, none⟩) (by simp) _).set (p := ⟨w.heap.size, 1, none⟩) (by simp) _)⟩
end Go.Proofs.YtchehejjdinifaaGreatDoor
