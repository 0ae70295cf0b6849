/-
  The walk of parsed at value types, of the deferred function that recovers, and of Parse; no statement is proved here.
-/
import Derived.Test.YtmcljnohdknpoaaDoorVal
import Derived.Defers
import Derived.Recover
namespace Go.Proofs.YtmcljnohdknpoaaDoor
open Go.RowKit
set_option linter.unusedVariables false
set_option linter.unusedSimpArgs false
set_option linter.constructorNameAsVariable false

theorem assertF (v : Value) (w : World) : (Instr.typeAssert (.iface 67 v) 20 67 false).run Tryd.prog w = .ok v w := by kernel_rfl
theorem fieldF (n : Int) (w : World) : (Instr.field 67 (.agg #[.int .i64 n]) 0).run Tryd.prog w = .ok (.int .i64 n) w := by kernel_rfl
def ic (n : Int) (t : TypeId) : Obj := .cells #[.int .i64 n] t (0, 0)
set_option maxRecDepth 100000 in
theorem caughtV (bA bE p : Nat) (x y : Int) (older : List PanicEntry) (w : World) (hA : w.heap[bA]? = some (ic x 3)) (hE : w.heap[bE]? = some (ic y 24)) (hne : bE ≠ bA) :
    CallsD Tryd.prog 35 #[.pointer (some ⟨bA, 0, none⟩), .pointer (some ⟨bE, 0, none⟩)] (.panicking ({ v := .iface 67 (.agg #[.int .i64 (p : Int)]), recovered := false } :: older)) w fun en u' w' =>
      en = .returned (.tuple #[]) ∧ u' = .panicking ({ v := .iface 67 (.agg #[.int .i64 (p : Int)]), recovered := true } :: older) ∧ w' = (w.setCell ⟨bA, 0, none⟩ (.int .i64 (p : Int))).setCell ⟨bE, 0, none⟩ (.int .i64 4) := by
  have c0 := cell_of hA 0
  have c1 := cell_of hE 0
  have z0 := free_of hA 0
  have z1 := free_of hE 0
  simp at c0 c1
  clear hA hE
  refine callsD_of_wpS Tryd.func35 rfl fun c₀ cs hu => ?_
  apply wpS_seq
  apply wpS_region
  simp [wpOpsS, go_sem, recoverD, hu, Tryd.ntmps35, Exit.thenS]
  refine wpS_of_wp ?_
  rw [show (#[Value.pointer (some { block := bA, off := 0 }), Value.pointer (some { block := bE, off := 0 })] ++
          ((Array.replicate 7 undef).setIfInBounds 1
                (Value.iface 67 (Value.agg #[Value.int IntKind.i64 (p : Int)]))).setIfInBounds
            0 (Value.iface 67 (Value.agg #[Value.int IntKind.i64 (p : Int)])) : Array Value) = #[Value.pointer (some { block := bA, off := 0 }), Value.pointer (some { block := bE, off := 0 }), Value.iface 67 (Value.agg #[Value.int IntKind.i64 (p : Int)]), Value.iface 67 (Value.agg #[Value.int IntKind.i64 (p : Int)]), undef, undef, undef, undef, undef] from rfl]
  clear hu
  have ha := assertF
  have hf := fieldF
  go_wp2
  simp [bodyPostS, results, Tryd.results35]
theorem idleV (bA bE : Nat) (w : World) :
    CallsD Tryd.prog 35 #[.pointer (some ⟨bA, 0, none⟩), .pointer (some ⟨bE, 0, none⟩)] .returning w fun en u' w' => en = .returned (.tuple #[]) ∧ u' = .returning ∧ w' = w := by
  refine callsD_of_wpS Tryd.func35 rfl fun c₀ cs hu => ?_
  apply wpS_seq
  apply wpS_region
  simp [wpOpsS, go_sem, recoverD, hu, Tryd.ntmps35, Exit.thenS]
  refine wpS_of_wp ?_
  rw [show (#[Value.pointer (some { block := bA, off := 0 }), Value.pointer (some { block := bE, off := 0 })] ++
          ((Array.replicate 7 undef).setIfInBounds 1 Value.nilIface).setIfInBounds 0 Value.nilIface : Array Value) = #[Value.pointer (some { block := bA, off := 0 }), Value.pointer (some { block := bE, off := 0 }), .nilIface, .nilIface, undef, undef, undef, undef, undef] from rfl]
  go_wp2
  cases c₀
  simp_all [bodyPostS, results, Tryd.results35]
def zvt : Value := vt 0 false 0
def VF : Value := .func (.func 22) #[] #[]
set_option maxRecDepth 100000 in
theorem parsedV_long (s : ByteArray) (w : World) (h : 65536 < s.size) (hm : s.size ≤ 140737488355328) :
    Calls Tryd.prog 21 #[.string s, VF] w fun en w' => en = .returned (.tuple #[zvt, .int .i64 0, .int .i64 2]) ∧ Grew w w' := by
  unfold VF
  have hd : decide ((65536 : Int) < (s.size : Int)) = true := by simp; omega
  go_enter_defers Tryd.func21, Tryd.ntmps21
  go_wp2_with fail
  simp [bodyPostD, Leaves, settle, results, Tryd.results21, go_sem]
  exact ⟨rfl, (((Grew.refl w).alloc _).alloc _).alloc _⟩
def parseS (s : ByteArray) : VT × Nat × Nat := match valS s (skp s 0) with
  | .error f => (⟨0, false, 0⟩, f, 4)
  | .ok (v, q) => if tk s q = ⟨#[]⟩ then (v, 0, 0) else (⟨0, false, 0⟩, q, 4)
def pv (x : VT × Nat × Nat) : Value := .tuple #[x.1.v, .int .i64 (x.2.1 : Int), .int .i64 (x.2.2 : Int)]
theorem Env.six {w : World} (h : Env w) : 5 < w.heap.size := by
  obtain ⟨te, pe, hc⟩ := h.rng
  unfold World.var? at hc
  rw [rng_named] at hc
  simp only [Option.bind_some] at hc
  rcases Nat.lt_or_ge 5 w.heap.size with h' | h'
  · exact h'
  · rw [Array.getElem?_eq_none h'] at hc
    cases hc
theorem heap_four (w : World) (o1 o2 o3 o4 : Obj) : ((((w.alloc o1).alloc o2).alloc o3).alloc o4).heap[w.heap.size]? = some o1 ∧ ((((w.alloc o1).alloc o2).alloc o3).alloc o4).heap[w.heap.size + 1]? = some o2 ∧ ((((w.alloc o1).alloc o2).alloc o3).alloc o4).heap[w.heap.size + 1 + 1]? = some o3 ∧ ((((w.alloc o1).alloc o2).alloc o3).alloc o4).heap[w.heap.size + 1 + 1 + 1]? = some o4 := by
  have h1 : (w.alloc o1).heap.size = w.heap.size + 1 := by simp
  have h2 : ((w.alloc o1).alloc o2).heap.size = w.heap.size + 1 + 1 := by simp
  have h3 : (((w.alloc o1).alloc o2).alloc o3).heap.size = w.heap.size + 1 + 1 + 1 := by simp
  refine ⟨heap_alloc (heap_alloc (heap_alloc (heap_alloc_last _ _) _) _) _, ?_, ?_, ?_⟩
  · rw [← h1]
    exact heap_alloc (heap_alloc (heap_alloc_last _ _) _) _
  · rw [← h2]
    exact heap_alloc (heap_alloc_last _ _) _
  · rw [← h3]
    exact heap_alloc_last _ _
def zv : Obj := .cells #[.int .i64 0, .bool false, .int .i64 0] 23 (0, 0)
set_option maxRecDepth 100000 in
set_option maxHeartbeats 2000000 in
theorem parsedV_any (s : ByteArray) (w : World) (hs : s.size ≤ 65536) (he : Env w) :
    Calls Tryd.prog 21 #[.string s, VF] w fun en w' => en = .returned (pv (parseS s)) ∧ Grew w w' := by
  have hmf : ∀ (fn : Fn) (first cap : Array Value) (w : World), (Instr.makeFunc fn first cap).run Tryd.prog w = .ok (.func fn first cap) w := fun _ _ _ _ => rfl
  have h6 := he.six
  have HE : Hid (Env w) := he
  unfold VF
  have hd : decide ((65536 : Int) < (s.size : Int)) = false := by simp; omega
  obtain ⟨R, hR⟩ : ∃ R, R = parseS s := ⟨_, rfl⟩
  rw [← hR]
  have HR : Hid (R = parseS s) := hR
  clear hR he
  go_enter_defers Tryd.func21, Tryd.ntmps21
  go_wp2_with fail
  generalize hW : ((((w.alloc (Obj.cells #[Value.int IntKind.i64 0, Value.bool false, Value.int IntKind.i64 0] 23)).alloc
              (Obj.cells #[Value.int IntKind.i64 0] 3)).alloc
          (Obj.cells #[Value.int IntKind.i64 0] 24)).alloc
      (Obj.cells #[Value.string s, Value.string { data := #[] }, Value.int IntKind.i64 0] 69)) = W
  have G0 : Hid (Grew w W) := by rw [← hW]; exact ((((Grew.refl w).alloc _).alloc _).alloc _).alloc _
  obtain ⟨A0, B0, C0, D0⟩ : Hid (W.heap[w.heap.size]? = some zv) ∧ Hid (W.heap[w.heap.size + 1]? = some (ic 0 3)) ∧ Hid (W.heap[w.heap.size + 1 + 1]? = some (ic 0 24)) ∧ Hid (W.heap[w.heap.size + 1 + 1 + 1]? = some (rdr s ⟨#[]⟩ 0)) := by
    rw [← hW]
    exact heap_four _ _ _ _ _
  clear hW
  refine (step_any _ s ⟨#[]⟩ 0 W D0.out (Nat.zero_le _) hs).mono ?_
  rintro en w1 ⟨rfl, t1, r1⟩
  have hz : skp s (0 + ByteArray.size { data := #[] }) = skp s 0 := rfl
  rw [hz] at r1
  have T1 : Hid (Turn [w.heap.size + 1 + 1 + 1] W w1) := t1
  have V := val_any r1 hs ((HE.out.grew G0.out).turn t1 (by intro g hg; simp at hg; omega)) (by omega)
  clear t1 r1 hz D0
  go_wp2_with fail
  refine V.mono ?_
  intro en w2 A2
  clear V
  unfold parseS at HR
  cases hv : valS s (skp s 0) with
  | error f =>
    rw [hv] at A2 HR
    obtain ⟨rfl, t2⟩ := A2
    have T2 : Hid (Turn [w.heap.size + 1 + 1 + 1] W w2) := T1.out.trans t2
    have A3 := T2.out.other A0.out (by simp; omega)
    have B3 := T2.out.other B0.out (by simp)
    have C3 := T2.out.other C0.out (by simp)
    have g3 : Grew w w2 := T2.out.grew G0.out (by intro x hx; simp at hx; omega)
    have a0 := cell_of A3 0
    have a1 := cell_of A3 1
    have a2 := cell_of A3 2
    have b0 := cell_of B3 0
    have c0 := cell_of C3 0
    simp at a0 a1 a2 b0 c0
    clear t2 hv
    unfold flt
    go_wp2_with fail
    refine leaves_cons (f := 35) (args := #[.pointer (some ⟨w.heap.size + 1, 0, none⟩), .pointer (some ⟨w.heap.size + 1 + 1, 0, none⟩)]) (by simp) (by simp [go_sem]) ?_
    refine (caughtV _ _ f 0 0 [] _ B3 C3 (by omega)).mono ?_
    rintro en u' w4 ⟨rfl, rfl, rfl⟩
    simp [Leaves, settle, results, Tryd.results21, go_sem, a0, a1, a2, b0, c0]
    refine ⟨by rw [HR.out]; rfl, ?_⟩
    exact (g3.set (p := ⟨w.heap.size + 1, 0, none⟩) (by simp) _).set (p := ⟨w.heap.size + 1 + 1, 0, none⟩) (by simp; omega) _
  | ok x =>
    obtain ⟨⟨n, nul, h⟩, q⟩ := x
    rw [hv] at A2 HR
    obtain ⟨rfl, t2, r2⟩ := A2
    have T2 : Hid (Turn [w.heap.size + 1 + 1 + 1] W w2) := T1.out.trans t2
    have G2 : Hid (Grew w w2) := T2.out.grew G0.out (by intro x hx; simp at hx; omega)
    have R2 : Hid (RD w2 (w.heap.size + 1 + 1 + 1) s q) := r2
    have A3 : Hid (w2.heap[w.heap.size]? = some zv) := T2.out.other A0.out (by simp; omega)
    have B3 : Hid (w2.heap[w.heap.size + 1]? = some (ic 0 3)) := T2.out.other B0.out (by simp)
    have C3 : Hid (w2.heap[w.heap.size + 1 + 1]? = some (ic 0 24)) := T2.out.other C0.out (by simp)
    have hbl : w.heap.size + 1 + 1 + 1 < w2.heap.size := lt_of_obj r2.1
    clear t2 r2 hv A0 B0 C0 T1 G0
    unfold VT.v vt
    go_wp2_with fail
    generalize hw3 : w2.alloc (.cells #[.int .i64 n, .bool nul, .int .i64 h] 23) = w3
    have G3 : Hid (Grew w2 w3) := by rw [← hw3]; exact (Grew.refl w2).alloc _
    have D3 : Hid (w3.heap[w2.heap.size]? = some (.cells #[.int .i64 n, .bool nul, .int .i64 h] 23 (0, 0))) := by rw [← hw3]; exact heap_alloc_last _ _
    clear hw3
    by_cases hq : tk s q = ⟨#[]⟩
    · refine (take_yes (R2.out.grew G3.out) hs ⟨#[]⟩ hq).mono ?_
      rintro en w4 ⟨rfl, t4, r4⟩
      have T4 : Hid (Turn [w.heap.size + 1 + 1 + 1] w2 w4) := (G3.out.turn _).trans t4
      have G4 : Hid (Grew w w4) := T4.out.grew G2.out (by intro x hx; simp at hx; omega)
      have A4 := T4.out.other A3.out (by simp; omega)
      have B4 := T4.out.other B3.out (by simp)
      have C4 := T4.out.other C3.out (by simp)
      have D4 := t4.other D3.out (by simp; omega)
      have a0 := cell_of A4 0
      have a1 := cell_of A4 1
      have a2 := cell_of A4 2
      have y0 := free_of A4 0
      have y1 := free_of A4 1
      have y2 := free_of A4 2
      have b0 := cell_of B4 0
      have c0 := cell_of C4 0
      have y3 := free_of B4 0
      have y4 := free_of C4 0
      have d0 := cell_of D4 0
      have d1 := cell_of D4 1
      have d2 := cell_of D4 2
      simp at a0 a1 a2 b0 c0 d0 d1 d2
      clear t4 r4 A4 B4 C4 D4 T4
      go_wp2_with fail
      refine leaves_cons (f := 35) (args := #[.pointer (some ⟨w.heap.size + 1, 0, none⟩), .pointer (some ⟨w.heap.size + 1 + 1, 0, none⟩)]) (by simp) (by simp [go_sem]) ?_
      refine (idleV _ _ _).mono ?_
      rintro en u' w5 ⟨rfl, rfl, rfl⟩
      simp [Leaves, settle, results, Tryd.results21, go_sem, a0, a1, a2, b0, c0]
      refine ⟨by rw [HR.out, if_pos hq]; rfl, ?_⟩
      exact ((((G4.out.set (p := ⟨w.heap.size, 0, none⟩) (by simp) _).set (p := ⟨w.heap.size, 1, none⟩) (by simp) _).set (p := ⟨w.heap.size, 2, none⟩) (by simp) _).set (p := ⟨w.heap.size + 1, 0, none⟩) (by simp) _).set (p := ⟨w.heap.size + 1 + 1, 0, none⟩) (by simp; omega) _
    · refine (take_no (R2.out.grew G3.out) ⟨#[]⟩ hq).mono ?_
      rintro en w4 ⟨rfl, h4⟩
      obtain rfl := h4.symm
      have A4 := (G3.out.turn []).other A3.out (by simp)
      have B4 := (G3.out.turn []).other B3.out (by simp)
      have C4 := (G3.out.turn []).other C3.out (by simp)
      have a0 := cell_of A4 0
      have a1 := cell_of A4 1
      have a2 := cell_of A4 2
      have b0 := cell_of B4 0
      have c0 := cell_of C4 0
      simp at a0 a1 a2 b0 c0
      unfold flt
      go_wp2_with fail
      refine leaves_cons (f := 35) (args := #[.pointer (some ⟨w.heap.size + 1, 0, none⟩), .pointer (some ⟨w.heap.size + 1 + 1, 0, none⟩)]) (by simp) (by simp [go_sem]) ?_
      refine (caughtV _ _ q 0 0 [] _ B4 C4 (by omega)).mono ?_
      rintro en u' w5 ⟨rfl, rfl, rfl⟩
      simp [Leaves, settle, results, Tryd.results21, go_sem, a0, a1, a2, b0, c0]
      refine ⟨by rw [HR.out, if_neg hq]; rfl, ?_⟩
      exact ((G2.out.trans G3.out).set (p := ⟨w.heap.size + 1, 0, none⟩) (by simp) _).set (p := ⟨w.heap.size + 1 + 1, 0, none⟩) (by simp; omega) _
/- What Parse answers. -/
def parseA (s : ByteArray) : VT × Nat × Nat := if 65536 < s.size then (⟨0, false, 0⟩, 0, 2) else parseS s
set_option maxRecDepth 100000 in
theorem parse_any (s : ByteArray) (w : World) (hm : s.size ≤ 140737488355328) (he : Env w) :
    Calls Tryd.prog 6 #[.string s] w fun en w' => en = .returned (pv (parseA s)) ∧ Grew w w' := by
  have C : Hid (∀ w1, Grew w w1 → Calls Tryd.prog 21 #[.string s, .func (.func 22) #[] #[]] w1 fun en w' => en = .returned (pv (parseA s)) ∧ Grew w1 w') := by
    intro w1 g
    unfold parseA
    split
    · rename_i h
      exact parsedV_long s w1 h hm
    · rename_i h
      exact parsedV_any s w1 (by omega) (he.grew g)
  generalize parseA s = R at *
  obtain ⟨⟨n, nul, h⟩, at_, e⟩ := R
  clear he
  unfold pv VT.v vt at *
  go_enter Tryd.func6, Tryd.ntmps6
  go_wp2_with fail
  refine (C.out _ ((Grew.refl w).alloc _)).mono ?_
  rintro en w1 ⟨rfl, g1⟩
  have hN := (g1.turn []).other (heap_alloc_last _ _) (by simp)
  have c0 := cell_of hN 0
  have c1 := cell_of hN 1
  have c2 := cell_of hN 2
  have z0 := free_of hN 0
  have z1 := free_of hN 1
  have z2 := free_of hN 2
  simp at c0 c1 c2
  have G1 : Hid (Grew w w1) := ((Grew.refl w).alloc _).trans g1
  clear hN g1
  go_wp2_with fail
  refine bodyPost_ret (v := .tuple #[vt n nul h, .int .i64 at_, .int .i64 e]) (by simp [results, Tryd.results6, go_sem, vt, c0, c1, c2]) rfl ?_
  exact ⟨rfl, ((G1.out.set (p := ⟨w.heap.size, 0, none⟩) (by simp) _).set (p := ⟨w.heap.size, 1, none⟩) (by simp) _).set (p := ⟨w.heap.size, 2, none⟩) (by simp) _⟩
end Go.Proofs.YtmcljnohdknpoaaDoor
