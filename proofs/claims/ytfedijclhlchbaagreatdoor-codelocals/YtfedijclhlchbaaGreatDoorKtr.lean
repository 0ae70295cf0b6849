/-
  Code's trying, readAt and Locals; no statement is proved here.
-/
import Derived.Test.YtfedijclhlchbaaGreatDoorKlo
namespace Go.Proofs.YtfedijclhlchbaaGreatDoor
open Go.RowKit
set_option linter.unusedVariables false
set_option linter.unusedSimpArgs false
set_option linter.constructorNameAsVariable false

theorem assertK (v : Value) (w : World) : (Instr.typeAssert (.iface 69 v) 20 69 false).run Tryz.prog w = .ok v w := by kernel_rfl
set_option maxRecDepth 100000 in
set_option maxHeartbeats 1000000 in
theorem caughtK (bA bE : Nat) (p e x y : Int) (older : List PanicEntry) (w : World) (hA : w.heap[bA]? = some (ic x 3)) (hE : w.heap[bE]? = some (ic y 24)) (hne : bE ≠ bA) :
    CallsD Tryz.prog 26 #[.pointer (some ⟨bA, 0, none⟩), .pointer (some ⟨bE, 0, none⟩)] (.panicking ({ v := .iface 69 (.agg #[.int .i64 p, .int .i64 e]), recovered := false } :: older)) w fun en u' w' =>
      en = .returned (.tuple #[]) ∧ u' = .panicking ({ v := .iface 69 (.agg #[.int .i64 p, .int .i64 e]), recovered := true } :: older) ∧ Turn [bA, bE] w w' ∧ w'.heap[bA]? = some (ic p 3) ∧ w'.heap[bE]? = some (ic e 24) := by
  have c0 := cell_of hA 0
  have c1 := cell_of hE 0
  have z0 := free_of hA 0
  have z1 := free_of hE 0
  simp at c0 c1
  have HA : Hid (w.heap[bA]? = some (ic x 3)) := hA
  have HE : Hid (w.heap[bE]? = some (ic y 24)) := hE
  have lA := lt_of_obj hA
  have lE := lt_of_obj hE
  clear hA hE
  refine callsD_of_wpS Tryz.func26 rfl fun c₀ cs hu => ?_
  apply wpS_seq
  apply wpS_region
  simp [wpOpsS, go_sem, recoverD, hu, Tryz.ntmps26, Exit.thenS]
  refine wpS_of_wp ?_
  rw [show (#[Value.pointer (some { block := bA, off := 0 }), Value.pointer (some { block := bE, off := 0 })] ++
          ((Array.replicate 11 undef).setIfInBounds 2 (Value.iface 69 (Value.agg #[Value.int IntKind.i64 p, Value.int IntKind.i64 e]))).setIfInBounds 0 (Value.iface 69 (Value.agg #[Value.int IntKind.i64 p, Value.int IntKind.i64 e])) : Array Value) = #[Value.pointer (some { block := bA, off := 0 }), Value.pointer (some { block := bE, off := 0 }), Value.iface 69 (Value.agg #[Value.int IntKind.i64 p, Value.int IntKind.i64 e]), undef, Value.iface 69 (Value.agg #[Value.int IntKind.i64 p, Value.int IntKind.i64 e]), undef, undef, undef, undef, undef, undef, undef, undef] from rfl]
  clear hu
  have ha := assertK
  go_wp2_with fail
  go_region
  all_goals
    go_wp2_with fail
    simp [bodyPostS, results, Tryz.results26]
    refine ⟨?_, ?_, ?_⟩
    · exact ((((Turn.refl [bA, bE] w).set (p := ⟨bA, 0, none⟩) (Or.inl (by simp)) _).set (p := ⟨bE, 0, none⟩) (Or.inl (by simp)) _).alloc _).drew
    · exact heap_alloc (heap_other (o := ic p 3) (p := ⟨bE, 0, none⟩) (by rw [heap_set HA.out]; rfl) (show bA ≠ bE from hne.symm) _) _
    · exact heap_alloc (o := ic e 24) ((heap_set (heap_other (p := ⟨bA, 0, none⟩) HE.out (show bE ≠ bA from hne) _) 0 _).trans rfl) _
theorem idleK (bA bE : Nat) (w : World) :
    CallsD Tryz.prog 26 #[.pointer (some ⟨bA, 0, none⟩), .pointer (some ⟨bE, 0, none⟩)] .returning w fun en u' w' => en = .returned (.tuple #[]) ∧ u' = .returning ∧ w' = w := by
  refine callsD_of_wpS Tryz.func26 rfl fun c₀ cs hu => ?_
  apply wpS_seq
  apply wpS_region
  simp [wpOpsS, go_sem, recoverD, hu, Tryz.ntmps26, Exit.thenS]
  refine wpS_of_wp ?_
  rw [show (#[Value.pointer (some { block := bA, off := 0 }), Value.pointer (some { block := bE, off := 0 })] ++
          ((Array.replicate 11 undef).setIfInBounds 2 Value.nilIface).setIfInBounds 0 Value.nilIface : Array Value) = #[Value.pointer (some { block := bA, off := 0 }), Value.pointer (some { block := bE, off := 0 }), .nilIface, undef, .nilIface, undef, undef, undef, undef, undef, undef, undef, undef] from rfl]
  go_wp2
  cases c₀
  simp_all [bodyPostS, results, Tryz.results26]
/- What a reading of runs answers beside its place. -/
def TopK (X : List LC × Int × Int) (w : World) (en : Ending) (w' : World) : Prop := ∃ rv, en = .returned (.tuple #[rv, .int .i64 X.2.1, .int .i64 X.2.2]) ∧ RowL w.heap.size w' rv X.1 ∧ Grew w w'
def topOf (r : RS (List LC)) : List LC × Int × Int := match r with
  | .ok (a, q) => (a, (q : Int), 0)
  | .error (f, e) => ([], (f : Int), (e : Int))
/- What the reading handed on answers. -/
def CloK (r : RS (List LC)) (w : World) (en : Ending) (w' : World) : Prop := match r with
  | .ok (x, q) => ∃ rv, en = .returned (.tuple #[rv, .int .i64 (q : Int)]) ∧ RowL w.heap.size w' rv x ∧ Grew w w'
  | .error (f, e) => en = .panicked (fltK f e) ∧ Grew w w'
set_option maxRecDepth 100000 in
set_option maxHeartbeats 1000000 in
theorem closL_any {w : World} {v : Value} {l : List Int} {p b1 b2 b3 : Nat} (hR : Reads w v l) (hB : Byt l) (hl : l.length ≤ 140737488351232) (hT : Tab w) (hp : p ≤ l.length)
    (h1 : w.cell? ⟨b1, 0, none⟩ = some v) (h2 : w.cell? ⟨b2, 0, none⟩ = some (.int .i64 (p : Int))) (h3 : w.cell? ⟨b3, 0, none⟩ = some (.func (.func 11) #[] #[])) :
    Calls Tryz.prog 17 #[.pointer (some ⟨b1, 0, none⟩), .pointer (some ⟨b2, 0, none⟩), .pointer (some ⟨b3, 0, none⟩)] w (CloK (localsR l p) w) := by
  obtain ⟨sa, cap, rfl⟩ := hR.len
  have hpos := hT.pos
  have o0 := heap_alloc_last w (curK (.slice sa l.length cap) p)
  have G0 : Hid (Grew w (w.alloc (curK (.slice sa l.length cap) p))) := (Grew.refl w).alloc _
  have U0 : KU (w.alloc (curK (.slice sa l.length cap) p)) w.heap.size (.slice sa l.length cap) l p := ⟨o0, G0.out.reads hR, hB, hl, hp, hT.grew G0.out, by omega⟩
  have V := locals_any U0
  have hn1 : ¬ (b1 = w.heap.size) := by have := block_lt_of_cell h1; simp at this; omega
  have hn3 : ¬ (b3 = w.heap.size) := by have := block_lt_of_cell h3; simp at this; omega
  clear hR hB hT U0 o0
  have z3 : (w.alloc (curK (.slice sa l.length cap) p)).cell? ⟨b3, 0, none⟩ = some (.func (.func 11) #[] #[]) := cell_grew h3 G0.out
  unfold curK at *
  cases hx : localsR l p with
  | error y =>
    obtain ⟨f, e⟩ := y
    rw [hx] at V
    clear hx
    go_enter Tryz.func17, Tryz.ntmps17
    go_wp2_with fail
    refine V.mono ?_
    rintro en w2 ⟨rfl, t2⟩
    have g2 : Hid (Grew w w2) := t2.grew G0.out (by intro y hy; simp at hy; omega)
    clear V t2
    go_wp2_with fail
    exact ⟨rfl, rfl, g2.out⟩
  | ok y =>
    obtain ⟨x, q⟩ := y
    rw [hx] at V
    clear hx
    go_enter Tryz.func17, Tryz.ntmps17
    go_wp2_with fail
    refine V.mono ?_
    rintro en w2 ⟨rv, rfl, r2, t2, u2⟩
    have g2 : Hid (Grew w w2) := t2.grew G0.out (by intro y hy; simp at hy; omega)
    have R2 : Hid (RowL w.heap.size w2 rv x) := row_low r2 (by simp)
    obtain ⟨aa, cc, hv⟩ := row_one r2
    subst hv
    have c1 := u2.c1
    clear V t2 u2 r2
    go_wp2_with fail
    go_region
    all_goals
      go_wp2_with fail
      refine bodyPost_ret (v := .tuple #[.slice aa x.length cc, .int .i64 (q : Int)]) (by simp [results, Tryz.results17, go_sem]) rfl ?_
      exact ⟨_, rfl, (show RowL w.heap.size _ _ _ from row_turn R2.out (((Grew.refl w2).drew).turn []) (by simp)), g2.out.drew⟩
set_option maxRecDepth 100000 in
set_option maxHeartbeats 1000000 in
theorem tryL_any {w : World} {r : RS (List LC)} {p1 p2 p3 : Value}
    (hC : ∀ X, Grew w X → Calls Tryz.prog 17 #[p1, p2, p3] X (CloK r X)) :
    Calls Tryz.prog 16 #[.func (.func 17) #[] #[p1, p2, p3]] w (TopK (topOf r) w) := by
  have hmf : ∀ (fn : Fn) (first cap : Array Value) (w : World), (Instr.makeFunc fn first cap).run Tryz.prog w = .ok (.func fn first cap) w := fun _ _ _ _ => rfl
  obtain ⟨W, hW⟩ : ∃ W, ((w.alloc (Obj.cells #[Value.int IntKind.i64 0] 3)).alloc (Obj.cells #[Value.int IntKind.i64 0] 24)) = W := ⟨_, rfl⟩
  have G0 : Hid (Grew w W) := by rw [← hW]; exact ((Grew.refl w).alloc _).alloc _
  have P0 : Hid (W.heap[w.heap.size]? = some (ic 0 3)) := by rw [← hW]; exact heap_alloc (heap_alloc_last _ _) _
  have E0 : Hid (W.heap[w.heap.size + 1]? = some (ic 0 24)) := by
    rw [← hW]
    have := heap_alloc_last (w.alloc (Obj.cells #[Value.int IntKind.i64 0] 3)) (Obj.cells #[Value.int IntKind.i64 0] 24)
    rwa [alloc_size] at this
  have V := hC W G0.out
  clear hC
  cases r with
  | error y =>
    obtain ⟨f, e⟩ := y
    simp only [topOf]
    go_enter_defers Tryz.func16, Tryz.ntmps16
    go_wp2_with fail
    clear hW
    refine V.mono ?_
    rintro en w2 ⟨rfl, g2⟩
    have G2 : Grew w w2 := G0.out.trans g2
    have P3 := (g2.turn []).other P0.out (by simp)
    have E3 := (g2.turn []).other E0.out (by simp)
    clear V g2
    unfold fltK
    go_wp2_with fail
    refine leaves_cons (f := 26) (args := #[.pointer (some ⟨w.heap.size, 0, none⟩), .pointer (some ⟨w.heap.size + 1, 0, none⟩)]) (by simp) (by simp [go_sem]) ?_
    refine (caughtK _ _ f e 0 0 [] _ P3 E3 (by omega)).mono ?_
    rintro en u' w4 ⟨rfl, rfl, t4, p4, e4⟩
    have g4 : Grew w w4 := t4.grew G2 (by intro y hy; simp at hy; omega)
    have b0 := cell_of p4 0
    have c0 := cell_of e4 0
    simp [ic] at b0 c0
    simp [Leaves, settle, results, Tryz.results16, go_sem, b0, c0]
    exact ⟨_, rfl, RowL.nil _ _, g4⟩
  | ok y =>
    obtain ⟨x, q⟩ := y
    simp only [topOf]
    go_enter_defers Tryz.func16, Tryz.ntmps16
    go_wp2_with fail
    clear hW
    refine V.mono ?_
    rintro en w2 ⟨rv, rfl, r2, g2⟩
    have G2 : Hid (Grew w w2) := G0.out.trans g2
    have R2 : Hid (RowL w.heap.size w2 rv x) := row_low r2 G0.out.2
    obtain ⟨aa, cc, hv⟩ := row_one r2
    subst hv
    have P3 : Hid (w2.heap[w.heap.size]? = some (ic 0 3)) := (g2.turn []).other P0.out (by simp)
    have E3 : Hid (w2.heap[w.heap.size + 1]? = some (ic 0 24)) := (g2.turn []).other E0.out (by simp)
    have b0 := cell_of P3.out 0
    have c0 := cell_of E3.out 0
    have y3 := free_of P3.out 0
    have y4 := free_of E3.out 0
    simp [ic] at b0 c0
    clear V g2 r2 P0 E0
    go_wp2_with fail
    go_region
    all_goals
      go_wp2_with fail
      refine leaves_cons (f := 26) (args := #[.pointer (some ⟨w.heap.size, 0, none⟩), .pointer (some ⟨w.heap.size + 1, 0, none⟩)]) (by simp) (by simp [go_sem]) ?_
      refine (idleK _ _ _).mono ?_
      rintro en u' w5 ⟨rfl, rfl, rfl⟩
      simp [Leaves, settle, results, Tryz.results16, go_sem, b0, c0]
      have T3 : Turn [w.heap.size, w.heap.size + 1] w2 (((w2.setCell ⟨w.heap.size, 0, none⟩ (.int .i64 (q : Int))).setCell ⟨w.heap.size, 0, none⟩ (.int .i64 (q : Int))).setCell ⟨w.heap.size + 1, 0, none⟩ (.int .i64 0)).drew := ((((Turn.refl _ w2).set (p := ⟨w.heap.size, 0, none⟩) (Or.inl (by simp)) _).set (p := ⟨w.heap.size, 0, none⟩) (Or.inl (by simp)) _).set (p := ⟨w.heap.size + 1, 0, none⟩) (Or.inl (by simp)) _).drew
      refine ⟨_, rfl, row_turn R2.out T3 ?_, T3.grew G2.out (by intro y hy; simp at hy; omega)⟩
      intro y hy
      simp at hy
      rcases hy with rfl | rfl
      · exact NoT.of P3.out (by decide)
      · exact NoT.of E3.out (by decide)
theorem topR_topOf {l : List Int} {p : Nat} (hp : p ≤ l.length) : topR (localsR l) [] l (p : Int) = topOf (localsR l p) := by
  rw [topR_in hp]
  unfold topOf
  cases localsR l p with
  | ok y => rfl
  | error y => rfl
set_option maxRecDepth 100000 in
set_option maxHeartbeats 1000000 in
theorem readAtL_any' (v : Value) (l : List Int) (x : Int) (w : World) (hR : Reads w v l) (hB : Byt l) (hl : l.length ≤ 140737488351232) (hT : Tab w) :
    Calls Tryz.prog 10 #[v, .int .i64 x, .func (.func 11) #[] #[]] w (TopK (topR (localsR l) [] l x) w) := by
  have hmf : ∀ (fn : Fn) (first cap : Array Value) (w : World), (Instr.makeFunc fn first cap).run Tryz.prog w = .ok (.func fn first cap) w := fun _ _ _ _ => rfl
  obtain ⟨sa, cap, rfl⟩ := hR.len
  obtain ⟨W, hW⟩ : ∃ W, (((w.alloc (Obj.cells #[.slice sa l.length cap] 22)).alloc (Obj.cells #[.int .i64 x] 3)).alloc (Obj.cells #[.func (.func 11) #[] #[]] 40)) = W := ⟨_, rfl⟩
  have G0 : Hid (Grew w W) := by rw [← hW]; exact (((Grew.refl w).alloc _).alloc _).alloc _
  obtain ⟨o1, o2, o3⟩ : W.heap[w.heap.size]? = some (.cells #[.slice sa l.length cap] 22 (0, 0)) ∧ W.heap[w.heap.size + 1]? = some (.cells #[.int .i64 x] 3 (0, 0)) ∧ W.heap[w.heap.size + 1 + 1]? = some (.cells #[.func (.func 11) #[] #[]] 40 (0, 0)) := by
    rw [← hW]; exact heap_three _ _ _ _
  have q1 := cell_of o1 0
  have q2 := cell_of o2 0
  have q3 := cell_of o3 0
  simp at q1 q2 q3
  clear o1 o2 o3
  by_cases hin : 0 ≤ x ∧ x ≤ l.length
  · obtain ⟨p, rfl⟩ : ∃ p : Nat, x = p := ⟨x.toNat, by omega⟩
    have hp : p ≤ l.length := by omega
    have d1 : decide ((p : Int) < 0) = false := by simp
    have d2 : decide ((l.length : Int) < (p : Int)) = false := by simp; omega
    have V := tryL_any (w := W) (r := localsR l p) (p1 := .pointer (some ⟨w.heap.size, 0, none⟩)) (p2 := .pointer (some ⟨w.heap.size + 1, 0, none⟩)) (p3 := .pointer (some ⟨w.heap.size + 1 + 1, 0, none⟩)) (fun X g => closL_any ((G0.out.trans g).reads hR) hB hl (hT.grew (G0.out.trans g)) hp (cell_grew q1 g) (cell_grew q2 g) (cell_grew q3 g))
    rw [topR_topOf hp]
    generalize topOf (localsR l p) = Y at *
    obtain ⟨y, pl, e⟩ := Y
    clear hR hB hT hin
    go_enter Tryz.func10, Tryz.ntmps10
    go_wp2_with fail
    refine V.mono ?_
    rintro en w2 ⟨rv, rfl, r2, g2⟩
    have F2 : Hid (RowL w.heap.size w2 rv y ∧ Grew w w2) := ⟨row_low r2 G0.out.2, G0.out.trans g2⟩
    obtain ⟨aa, cc, hv⟩ := row_one r2
    subst hv
    clear V g2 r2
    go_wp2_with fail
    go_ret3
    exact ⟨_, rfl, F2.out⟩
  · rw [topR_out hin]
    by_cases h0 : x < 0
    · have d1 : decide (x < 0) = true := by simpa using h0
      clear hR hB hT hin
      go_enter Tryz.func10, Tryz.ntmps10
      go_wp2_with fail
      go_ret3
      exact ⟨_, rfl, RowL.nil _ _, G0.out⟩
    · have d1 : decide (x < 0) = false := by simpa using h0
      have d2 : decide ((l.length : Int) < x) = true := by simp; omega
      clear hR hB hT hin
      go_enter Tryz.func10, Tryz.ntmps10
      go_wp2_with fail
      go_ret3
      exact ⟨_, rfl, RowL.nil _ _, G0.out⟩
set_option maxRecDepth 100000 in
set_option maxHeartbeats 1000000 in
theorem locTop_any (v : Value) (l : List Int) (x : Int) (w : World) (hR : Reads w v l) (hB : Byt l) (hl : l.length ≤ 140737488351232) (hT : Tab w) :
    Calls Tryz.prog 4 #[v, .int .i64 x] w (TopK (topR (localsR l) [] l x) w) := by
  have C := readAtL_any' v l x w hR hB hl hT
  obtain ⟨sa, cap, rfl⟩ := hR.len
  clear hR hT hB
  generalize topR (localsR l) [] l x = X at *
  obtain ⟨y, pl, e⟩ := X
  go_enter Tryz.func4, Tryz.ntmps4
  go_wp2_with fail
  refine C.mono ?_
  rintro en w1 ⟨rv, rfl, r1, g1⟩
  have F1 : Hid (RowL w.heap.size w1 rv y ∧ Grew w w1) := ⟨r1, g1⟩
  obtain ⟨aa, cc, hv⟩ := row_one r1
  subst hv
  clear C g1 r1
  go_wp2_with fail
  go_ret3
  exact ⟨_, rfl, F1.out⟩
end Go.Proofs.YtfedijclhlchbaaGreatDoor
