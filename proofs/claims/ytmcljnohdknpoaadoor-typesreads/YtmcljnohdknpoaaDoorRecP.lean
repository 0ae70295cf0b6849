/-
  The walk of parsed at groups, and of ParseRec; no statement is proved here.
-/
import Derived.Test.YtmcljnohdknpoaaDoorRecX
import Derived.Test.YtmcljnohdknpoaaDoorAtt
namespace Go.Proofs.YtmcljnohdknpoaaDoor
open Go.RowKit
set_option linter.unusedVariables false
set_option linter.unusedSimpArgs false
set_option linter.constructorNameAsVariable false

set_option maxRecDepth 100000 in
theorem caughtR (bA bE p : Nat) (x y : Int) (older : List PanicEntry) (w : World) (hA : w.heap[bA]? = some (ic x 3)) (hE : w.heap[bE]? = some (ic y 24)) (hne : bE ≠ bA) :
    CallsD Tryd.prog 47 #[.pointer (some ⟨bA, 0, none⟩), .pointer (some ⟨bE, 0, none⟩)] (.panicking ({ v := .iface 67 (.agg #[.int .i64 (p : Int)]), recovered := false } :: older)) w fun en u' w' =>
      en = .returned (.tuple #[]) ∧ u' = .panicking ({ v := .iface 67 (.agg #[.int .i64 (p : Int)]), recovered := true } :: older) ∧ w' = (w.setCell ⟨bA, 0, none⟩ (.int .i64 (p : Int))).setCell ⟨bE, 0, none⟩ (.int .i64 4) := by
  have c0 := cell_of hA 0
  have c1 := cell_of hE 0
  have z0 := free_of hA 0
  have z1 := free_of hE 0
  simp at c0 c1
  clear hA hE
  refine callsD_of_wpS Tryd.func47 rfl fun c₀ cs hu => ?_
  apply wpS_seq
  apply wpS_region
  simp [wpOpsS, go_sem, recoverD, hu, Tryd.ntmps47, Exit.thenS]
  refine wpS_of_wp ?_
  rw [show (#[Value.pointer (some { block := bA, off := 0 }), Value.pointer (some { block := bE, off := 0 })] ++
          ((Array.replicate 7 undef).setIfInBounds 1
                (Value.iface 67 (Value.agg #[Value.int IntKind.i64 (p : Int)]))).setIfInBounds
            0 (Value.iface 67 (Value.agg #[Value.int IntKind.i64 (p : Int)])) : Array Value) = #[Value.pointer (some { block := bA, off := 0 }), Value.pointer (some { block := bE, off := 0 }), Value.iface 67 (Value.agg #[Value.int IntKind.i64 (p : Int)]), Value.iface 67 (Value.agg #[Value.int IntKind.i64 (p : Int)]), undef, undef, undef, undef, undef] from rfl]
  clear hu
  have ha := assertF
  have hf := fieldF
  go_wp2
  simp [bodyPostS, results, Tryd.results47]
theorem idleR (bA bE : Nat) (w : World) :
    CallsD Tryd.prog 47 #[.pointer (some ⟨bA, 0, none⟩), .pointer (some ⟨bE, 0, none⟩)] .returning w fun en u' w' => en = .returned (.tuple #[]) ∧ u' = .returning ∧ w' = w := by
  refine callsD_of_wpS Tryd.func47 rfl fun c₀ cs hu => ?_
  apply wpS_seq
  apply wpS_region
  simp [wpOpsS, go_sem, recoverD, hu, Tryd.ntmps47, Exit.thenS]
  refine wpS_of_wp ?_
  rw [show (#[Value.pointer (some { block := bA, off := 0 }), Value.pointer (some { block := bE, off := 0 })] ++
          ((Array.replicate 7 undef).setIfInBounds 1 Value.nilIface).setIfInBounds 0 Value.nilIface : Array Value) = #[Value.pointer (some { block := bA, off := 0 }), Value.pointer (some { block := bE, off := 0 }), .nilIface, .nilIface, undef, undef, undef, undef, undef] from rfl]
  go_wp2
  cases c₀
  simp_all [bodyPostS, results, Tryd.results47]
/- A row looks at no block below its base. -/
theorem row_over {w w' : World} {B : Nat} {e : TypeId} {k : Nat} {v : Value} {n : Nat} {cs : List Value} (h : w.ownsRow B e k v n cs) (hk : ∀ x, B ≤ x → x < w.heap.size → w'.heap[x]? = w.heap[x]?) : w'.ownsRow B e k v n cs := by
  obtain ⟨h1, h2 | ⟨g, cap, cur, hv, hB, hg, h3⟩⟩ := h
  · exact ⟨h1, Or.inl h2⟩
  · exact ⟨h1, Or.inr ⟨g, cap, cur, hv, hB, (hk g hB (lt_of_obj hg)).trans hg, h3⟩⟩
theorem SubC.over {B : Nat} {w w' : World} {cs : List Value} {x : SB} (h : SubC B w cs x) (hk : ∀ x, B ≤ x → x < w.heap.size → w'.heap[x]? = w.heap[x]?) : SubC B w' cs x := by
  obtain ⟨sv, pv, rv, fv, e, a1, a2, a3, a4⟩ := h
  exact ⟨sv, pv, rv, fv, e, row_over a1 hk, row_over a2 hk, row_over a3 hk, row_over a4 hk⟩
theorem SubsQ.over {B : Nat} {w w' : World} {v : Value} {l : List SB} (h : SubsQ B w v l) (hk : ∀ x, B ≤ x → x < w.heap.size → w'.heap[x]? = w.heap[x]?) : SubsQ B w' v l := by
  obtain ⟨cs, a, b⟩ := h
  exact ⟨cs, row_over a hk, fun i x hx => (b i x hx).over hk⟩
theorem SubsQ.below {B : Nat} {w : World} {v : Value} {l : List SB} (h : SubsQ B w v l) {q : Addr} (hq : q.block < B) (u : Value) : SubsQ B (w.setCell q u) v l := by
  refine h.over fun x hx hl => ?_
  exact (heap_other (Array.getElem?_eq_getElem hl) (by omega) u).trans (Array.getElem?_eq_getElem hl).symm
theorem RecQ.nil (B : Nat) (w : World) : RecQ B w (.agg #[.slice none 0 0, .bool false]) ⟨[], false⟩ := ⟨_, rfl, SubsQ.nil _ _⟩
def RF : Value := .func (.func 27) #[] #[]
/- What a reading of a group answers. -/
def AnsP (w : World) (x : RT × Nat × Nat) (en : Ending) (w' : World) : Prop := ∃ v, en = .returned (.tuple #[v, .int .i64 (x.2.1 : Int), .int .i64 (x.2.2 : Int)]) ∧ RecQ w.heap.size w' v x.1 ∧ Grew w w'
def zr : RT := ⟨[], false⟩
set_option maxRecDepth 100000 in
theorem parsedR_long (s : ByteArray) (w : World) (h : 65536 < s.size) (hm : s.size ≤ 140737488355328) :
    Calls Tryd.prog 26 #[.string s, RF] w (AnsP w (zr, 0, 2)) := by
  unfold RF
  have hd : decide ((65536 : Int) < (s.size : Int)) = true := by simp; omega
  go_enter_defers Tryd.func26, Tryd.ntmps26
  go_wp2_with fail
  simp [bodyPostD, Leaves, settle, results, Tryd.results26, go_sem]
  exact ⟨_, rfl, RecQ.nil _ _, (((Grew.refl w).alloc _).alloc _).alloc _⟩
def parseR (s : ByteArray) : RT × Nat × Nat := match recS s (skp s 0) with
  | .error f => (zr, f, 4)
  | .ok (v, q) => if tk s q = ⟨#[]⟩ then (v, 0, 0) else (zr, q, 4)
set_option maxRecDepth 100000 in
set_option maxHeartbeats 2000000 in
theorem parsedR_any (s : ByteArray) (w : World) (hs : s.size ≤ 65536) (he : Env w) :
    Calls Tryd.prog 26 #[.string s, RF] w (AnsP w (parseR s)) := by
  have hmf : ∀ (fn : Fn) (first cap : Array Value) (w : World), (Instr.makeFunc fn first cap).run Tryd.prog w = .ok (.func fn first cap) w := fun _ _ _ _ => rfl
  have h6 := he.six
  have HE : Hid (Env w) := he
  unfold RF
  have hd : decide ((65536 : Int) < (s.size : Int)) = false := by simp; omega
  obtain ⟨R, hR⟩ : ∃ R, R = parseR s := ⟨_, rfl⟩
  rw [← hR]
  have HR : Hid (R = parseR s) := hR
  clear hR he
  go_enter_defers Tryd.func26, Tryd.ntmps26
  go_wp2_with fail
  generalize hW : ((((w.alloc (Obj.cells #[Value.slice none 0 0, Value.bool false] 33)).alloc
              (Obj.cells #[Value.int IntKind.i64 0] 3)).alloc
          (Obj.cells #[Value.int IntKind.i64 0] 24)).alloc
      (Obj.cells #[Value.string s, Value.string { data := #[] }, Value.int IntKind.i64 0] 69)) = W
  have G0 : Hid (Grew w W) := by rw [← hW]; exact ((((Grew.refl w).alloc _).alloc _).alloc _).alloc _
  obtain ⟨A0, B0, C0, D0⟩ : Hid (W.heap[w.heap.size]? = some (robj NILS false)) ∧ Hid (W.heap[w.heap.size + 1]? = some (ic 0 3)) ∧ Hid (W.heap[w.heap.size + 1 + 1]? = some (ic 0 24)) ∧ Hid (W.heap[w.heap.size + 1 + 1 + 1]? = some (rdr s ⟨#[]⟩ 0)) := by
    rw [← hW]
    exact heap_four _ _ _ _ _
  clear hW
  refine (step_any _ s ⟨#[]⟩ 0 W D0.out (Nat.zero_le _) hs).mono ?_
  rintro en w1 ⟨rfl, t1, r1⟩
  have hz : skp s (0 + ByteArray.size { data := #[] }) = skp s 0 := rfl
  rw [hz] at r1
  have T1 : Hid (Turn [w.heap.size + 1 + 1 + 1] W w1) := t1
  have V := rec_any r1 hs ((HE.out.grew G0.out).turn t1 (by intro g hg; simp at hg; omega)) (by omega)
  have HD := D0.out
  clear t1 r1 hz D0
  go_wp2_with fail
  refine V.mono ?_
  intro en w2 A2
  clear V
  unfold parseR at HR
  cases hv : recS s (skp s 0) with
  | error f =>
    rw [hv] at A2 HR
    obtain ⟨rfl, t2⟩ := A2
    have T2 : Hid (Turn [w.heap.size + 1 + 1 + 1] W w2) := T1.out.trans t2
    have A3 := T2.out.other A0.out (by simp; omega)
    have B3 := T2.out.other B0.out (by simp)
    have C3 := T2.out.other C0.out (by simp)
    have g3 : Grew w w2 := T2.out.grew G0.out (by intro x hx; simp at hx; omega)
    have a0 := cell_of A3 0
    have a1 := cell_of A3 1
    have b0 := cell_of B3 0
    have c0 := cell_of C3 0
    simp [NILS] at a0 a1 b0 c0
    clear t2 hv
    unfold flt
    go_wp2_with fail
    refine leaves_cons (f := 47) (args := #[.pointer (some ⟨w.heap.size + 1, 0, none⟩), .pointer (some ⟨w.heap.size + 1 + 1, 0, none⟩)]) (by simp) (by simp [go_sem]) ?_
    refine (caughtR _ _ f 0 0 [] _ B3 C3 (by omega)).mono ?_
    rintro en u' w4 ⟨rfl, rfl, rfl⟩
    simp [Leaves, settle, results, Tryd.results26, go_sem, a0, a1, b0, c0]
    rw [HR.out]
    refine ⟨_, rfl, RecQ.nil _ _, ?_⟩
    exact (g3.set (p := ⟨w.heap.size + 1, 0, none⟩) (by simp) _).set (p := ⟨w.heap.size + 1 + 1, 0, none⟩) (by simp; omega) _
  | ok x =>
    obtain ⟨x, q⟩ := x
    rw [hv] at A2 HR
    obtain ⟨v2, rfl, ⟨tv, rfl, q2⟩, t2, r2⟩ := A2
    obtain ⟨ra, rc, hrv⟩ := q2.one
    subst hrv
    have Q2 : Hid (SubsQ w1.heap.size w2 (.slice ra x.types.length rc) x.types) := q2
    have hz1 : w.heap.size + 1 + 1 + 1 < w1.heap.size := Nat.lt_of_lt_of_le (lt_of_obj HD) T1.out.size
    have T2 : Hid (Turn [w.heap.size + 1 + 1 + 1] W w2) := T1.out.trans t2
    have G2 : Hid (Grew w w2) := T2.out.grew G0.out (by intro x hx; simp at hx; omega)
    have R2 : Hid (RD w2 (w.heap.size + 1 + 1 + 1) s q) := r2
    have A3 : Hid (w2.heap[w.heap.size]? = some (robj NILS false)) := T2.out.other A0.out (by simp; omega)
    have B3 : Hid (w2.heap[w.heap.size + 1]? = some (ic 0 3)) := T2.out.other B0.out (by simp)
    have C3 : Hid (w2.heap[w.heap.size + 1 + 1]? = some (ic 0 24)) := T2.out.other C0.out (by simp)
    have hbl : w.heap.size + 1 + 1 + 1 < w2.heap.size := lt_of_obj r2.1
    clear t2 r2 q2 hv A0 B0 C0 T1 G0
    go_wp2_with fail
    generalize hw3 : w2.alloc (.cells #[.slice ra x.types.length rc, .bool x.explicit] 33) = w3
    have G3 : Hid (Grew w2 w3) := by rw [← hw3]; exact (Grew.refl w2).alloc _
    have D3 : Hid (w3.heap[w2.heap.size]? = some (.cells #[.slice ra x.types.length rc, .bool x.explicit] 33 (0, 0))) := by rw [← hw3]; exact heap_alloc_last _ _
    clear hw3
    by_cases hq : tk s q = ⟨#[]⟩
    · refine (take_yes (R2.out.grew G3.out) hs ⟨#[]⟩ hq).mono ?_
      rintro en w4 ⟨rfl, t4, r4⟩
      have T4 : Hid (Turn [w.heap.size + 1 + 1 + 1] w2 w4) := (G3.out.turn _).trans t4
      have G4 : Hid (Grew w w4) := T4.out.grew G2.out (by intro x hx; simp at hx; omega)
      have A4 := T4.out.other A3.out (by simp; omega)
      have B4 := T4.out.other B3.out (by simp)
      have C4 := T4.out.other C3.out (by simp)
      have D4 := t4.other D3.out (by simp; omega)
      have Q4 : Hid (SubsQ w1.heap.size w4 (.slice ra x.types.length rc) x.types) := (Q2.out.grew G3.out).rd t4 (R2.out.grew G3.out)
      have a0 := cell_of A4 0
      have a1 := cell_of A4 1
      have y0 := free_of A4 0
      have y1 := free_of A4 1
      have b0 := cell_of B4 0
      have c0 := cell_of C4 0
      have y3 := free_of B4 0
      have y4 := free_of C4 0
      have d0 := cell_of D4 0
      have d1 := cell_of D4 1
      simp [NILS] at a0 a1 b0 c0 d0 d1
      clear t4 r4 A4 B4 C4 D4 T4
      go_wp2_with fail
      refine leaves_cons (f := 47) (args := #[.pointer (some ⟨w.heap.size + 1, 0, none⟩), .pointer (some ⟨w.heap.size + 1 + 1, 0, none⟩)]) (by simp) (by simp [go_sem]) ?_
      refine (idleR _ _ _).mono ?_
      rintro en u' w5 ⟨rfl, rfl, rfl⟩
      simp [Leaves, settle, results, Tryd.results26, go_sem, a0, a1, b0, c0]
      rw [HR.out, if_pos hq]
      refine ⟨_, rfl, ⟨_, rfl, ?_⟩, ?_⟩
      · exact ((((Q4.out.below (q := ⟨w.heap.size, 0, none⟩) (by simp; omega) _).below (q := ⟨w.heap.size, 1, none⟩) (by simp; omega) _).below (q := ⟨w.heap.size + 1, 0, none⟩) (by simp; omega) _).below (q := ⟨w.heap.size + 1 + 1, 0, none⟩) (by simp; omega) _).low (by omega)
      exact (((G4.out.set (p := ⟨w.heap.size, 0, none⟩) (by simp) _).set (p := ⟨w.heap.size, 1, none⟩) (by simp) _).set (p := ⟨w.heap.size + 1, 0, none⟩) (by simp) _).set (p := ⟨w.heap.size + 1 + 1, 0, none⟩) (by simp; omega) _
    · refine (take_no (R2.out.grew G3.out) ⟨#[]⟩ hq).mono ?_
      rintro en w4 ⟨rfl, h4⟩
      obtain rfl := h4.symm
      have A4 := (G3.out.turn []).other A3.out (by simp)
      have B4 := (G3.out.turn []).other B3.out (by simp)
      have C4 := (G3.out.turn []).other C3.out (by simp)
      have a0 := cell_of A4 0
      have a1 := cell_of A4 1
      have b0 := cell_of B4 0
      have c0 := cell_of C4 0
      simp [NILS] at a0 a1 b0 c0
      unfold flt
      go_wp2_with fail
      refine leaves_cons (f := 47) (args := #[.pointer (some ⟨w.heap.size + 1, 0, none⟩), .pointer (some ⟨w.heap.size + 1 + 1, 0, none⟩)]) (by simp) (by simp [go_sem]) ?_
      refine (caughtR _ _ q 0 0 [] _ B4 C4 (by omega)).mono ?_
      rintro en u' w5 ⟨rfl, rfl, rfl⟩
      simp [Leaves, settle, results, Tryd.results26, go_sem, a0, a1, b0, c0]
      rw [HR.out, if_neg hq]
      refine ⟨_, rfl, RecQ.nil _ _, ?_⟩
      exact ((G2.out.trans G3.out).set (p := ⟨w.heap.size + 1, 0, none⟩) (by simp) _).set (p := ⟨w.heap.size + 1 + 1, 0, none⟩) (by simp; omega) _
/- What ParseRec answers. -/
def parseB (s : ByteArray) : RT × Nat × Nat := if 65536 < s.size then (zr, 0, 2) else parseR s
set_option maxRecDepth 100000 in
theorem parseRec_any (s : ByteArray) (w : World) (hm : s.size ≤ 140737488355328) (he : Env w) :
    Calls Tryd.prog 9 #[.string s] w (AnsP w (parseB s)) := by
  have C : Hid (∀ w1, Grew w w1 → Calls Tryd.prog 26 #[.string s, .func (.func 27) #[] #[]] w1 (AnsP w1 (parseB s))) := by
    intro w1 g
    unfold parseB
    split
    · rename_i h
      exact parsedR_long s w1 h hm
    · rename_i h
      exact parsedR_any s w1 (by omega) (he.grew g)
  generalize parseB s = R at *
  obtain ⟨x, at_, e⟩ := R
  clear he
  go_enter Tryd.func9, Tryd.ntmps9
  go_wp2_with fail
  refine (C.out _ ((Grew.refl w).alloc _)).mono ?_
  rintro en w1 ⟨v1, rfl, ⟨tv, rfl, q1⟩, g1⟩
  have hN := (g1.turn []).other (heap_alloc_last _ _) (by simp)
  obtain ⟨ra, rc, hrv⟩ := q1.one
  subst hrv
  have Q1 : Hid (SubsQ _ w1 (.slice ra x.types.length rc) x.types) := q1
  have c0 := cell_of hN 0
  have c1 := cell_of hN 1
  have z0 := free_of hN 0
  have z1 := free_of hN 1
  simp at c0 c1
  have G1 : Hid (Grew w w1) := ((Grew.refl w).alloc _).trans g1
  clear hN g1 q1
  go_wp2_with fail
  refine bodyPost_ret (v := .tuple #[.agg #[.slice ra x.types.length rc, .bool x.explicit], .int .i64 at_, .int .i64 e]) (by simp [results, Tryd.results9, go_sem, c0, c1]) rfl ?_
  refine ⟨_, rfl, ⟨_, rfl, ?_⟩, (G1.out.set (p := ⟨w.heap.size, 0, none⟩) (by simp) _).set (p := ⟨w.heap.size, 1, none⟩) (by simp) _⟩
  exact ((Q1.out.below (q := ⟨w.heap.size, 0, none⟩) (by simp) _).below (q := ⟨w.heap.size, 1, none⟩) (by simp) _).low (by simp)
end Go.Proofs.YtmcljnohdknpoaaDoor
