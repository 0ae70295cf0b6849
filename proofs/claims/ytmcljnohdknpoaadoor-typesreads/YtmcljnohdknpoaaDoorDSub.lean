/-
  The document's reading: the walk of sub; no statement is proved here.
-/
import Derived.Test.YtmcljnohdknpoaaDoorDCompB
import Derived.Test.YtmcljnohdknpoaaDoorSubX
namespace Go.Proofs.YtmcljnohdknpoaaDoor
open Go.RowKit
set_option linter.unusedVariables false
set_option linter.unusedSimpArgs false
set_option linter.constructorNameAsVariable false

def AnsE (b : Nat) (s : ByteArray) (w : World) (st : Except Nat Nat) (en : Ending) (w' : World) : Prop := ∃ cs x st', en = .returned (.agg cs.toArray) ∧ SubC w.heap.size w' cs x ∧ Turn [b] w w' ∧ ST w' b s st' ∧ Tied (subS s) st x st'
theorem ST.set6 {w : World} {b : Nat} {s : ByteArray} {st : Except Nat Nat} (h : ST w b s st) (N : Nat) (hN : b ≠ N) (x0 x1 x2 x3 x4 x5 : Value) : ST (Go.Proofs.YtmcljnohdknpoaaDoor.set6 w N x0 x1 x2 x3 x4 x5) b s st :=
  (((((h.set (q := ⟨N, 0, none⟩) hN x0).set (q := ⟨N, 1, none⟩) hN x1).set (q := ⟨N, 2, none⟩) hN x2).set (q := ⟨N, 3, none⟩) hN x3).set (q := ⟨N, 4, none⟩) hN x4).set (q := ⟨N, 5, none⟩) hN x5
theorem dsub_end {w0 w : World} {b : Nat} {s : ByteArray} {st : Except Nat Nat} {N B : Nat} {x : SB} {sv pv rv fv : Value} {ds : Array Value} {fz : Nat × Nat} (hN : w.heap[N]? = some (.cells ds 62 fz)) (h0 : w0.heap.size ≤ N) (hB : w0.heap.size ≤ B)
    (hi : RowI B w sv x.supers) (hp : RowV B w pv x.comp.params) (hr : RowV B w rv x.comp.results) (hf : RowF B w fv x.comp.fields) (t : Turn [b] w0 w) (hR : ST w b s st) (hb : b ≠ N) :
    SubC w0.heap.size (set6 w N (.bool x.final_) sv (.int .i64 x.comp.kind) pv rv fv) [.bool x.final_, sv, .int .i64 x.comp.kind, pv, rv, fv] x ∧ Turn [b] w0 (set6 w N (.bool x.final_) sv (.int .i64 x.comp.kind) pv rv fv) ∧ ST (set6 w N (.bool x.final_) sv (.int .i64 x.comp.kind) pv rv fv) b s st :=
  ⟨⟨sv, pv, rv, fv, rfl, row_low (row_set6 hi hN (by decide) _ _ _ _ _ _) hB, row_low (row_set6 hp hN (by decide) _ _ _ _ _ _) hB, row_low (row_set6 hr hN (by decide) _ _ _ _ _ _) hB, row_low (row_set6 hf hN (by decide) _ _ _ _ _ _) hB⟩, t.set6 N h0 _ _ _ _ _ _, hR.set6 N hb _ _ _ _ _ _⟩
/- The local value M, the result's block and the reading. -/
def CZ (w : World) (b M : Nat) (s : ByteArray) (o : Obj) (st : Except Nat Nat) (w' : World) : Prop := w'.heap[M]? = some o ∧ w'.heap[w.heap.size]? = some (sobj false NILS 0 NILS NILS NILS) ∧ M + 1 ≤ w'.heap.size ∧ Turn [b] w w' ∧ ST w' b s st
theorem CZ.next {w : World} {b M : Nat} {s : ByteArray} {o : Obj} {st st' : Except Nat Nat} {w1 w2 : World} (h : CZ w b M s o st w1) (t : Turn [b] w1 w2) (s2 : ST w2 b s st') (hb : b < w.heap.size) (hM : w.heap.size < M) : CZ w b M s o st' w2 :=
  ⟨t.other h.1 (by simp; omega), t.other h.2.1 (by simp; omega), Nat.le_trans h.2.2.1 t.size, h.2.2.2.1.trans t, s2⟩
theorem CZ.app {w : World} {b M : Nat} {s : ByteArray} {o : Obj} {st : Except Nat Nat} {w1 w2 : World} (h : CZ w b M s o st w1) (t : TB (M + 1) (M + 1) w1 w2) (hb : b < w.heap.size) (hM : w.heap.size < M) : CZ w b M s o st w2 := by
  refine ⟨t.other h.1 (by omega) (by omega), t.other h.2.1 (by omega) (by omega), Nat.le_trans h.2.2.1 t.size, TB.turn (t.any (Nat.le_refl _)) h.2.2.2.1 (by omega), h.2.2.2.2.tb (t.block b ?_ (by omega) (by omega))⟩
  have := h.2.2.2.1.size
  omega
theorem CZ.set {w : World} {b M : Nat} {s : ByteArray} {o : Obj} {st : Except Nat Nat} {w1 : World} (h : CZ w b M s o st w1) (hb : b < w.heap.size) (hM : w.heap.size < M) (i : Nat) (x : Value) {o' : Obj} (ho : (w1.setCell ⟨M, i, none⟩ x).heap[M]? = some o') : CZ w b M s o' st (w1.setCell ⟨M, i, none⟩ x) :=
  ⟨ho, heap_other h.2.1 (by simp; omega) x, by simpa using h.2.2.1, h.2.2.2.1.set (p := ⟨M, i, none⟩) (Or.inr (by simp; omega)) x, h.2.2.2.2.set (q := ⟨M, i, none⟩) (by simp; omega) x⟩
theorem CZ.bad {w : World} {b M : Nat} {s : ByteArray} {o : Obj} {st : Except Nat Nat} {w1 : World} {f : Nat} {bad : Bool} (h : CZ w b M s o st w1) (ho : w1.heap[b]? = some (rdg s f bad)) (hb : b < w.heap.size) (hM : w.heap.size < M) : CZ w b M s o (.error f) (w1.setCell ⟨b, 2, none⟩ (.bool true)) :=
  ⟨heap_other h.1 (by simp; omega) _, heap_other h.2.1 (by simp; omega) _, by simpa using h.2.2.1, h.2.2.2.1.set (p := ⟨b, 2, none⟩) (Or.inl (by simp)) _, rdg_set2 ho true⟩
theorem RowI.next {B : Nat} {w1 w2 : World} {v : Value} {l : List Int} {b : Nat} {s : ByteArray} {st : Except Nat Nat} (h : RowI B w1 v l) (t : Turn [b] w1 w2) (s1 : ST w1 b s st) : RowI B w2 v l := h.turn t (s1.no (by decide))
theorem RowI.bad {B : Nat} {w1 : World} {v : Value} {l : List Int} {b : Nat} {s : ByteArray} {st : Except Nat Nat} (h : RowI B w1 v l) (s1 : ST w1 b s st) (x : Value) : RowI B (w1.setCell ⟨b, 2, none⟩ x) v l := row_set h (s1.no (by decide) b (by simp)) x
/- Numbers, as the document reads them: a final type has one at least. -/
def begS (s : ByteArray) (fin : Bool) (l : List Int) (p : Nat) : Except Nat (SB × Nat) := if fin = true ∧ l = [] then tailS s fin (finS s p) else tailS s fin (supS s l p)
theorem numAt_lp : numAt LP = none := by decide +kernel
theorem beg_more {s : ByteArray} {fin : Bool} {l : List Int} {q : Nat} {n : Int} (hq : q ≤ s.size) (h : numAt (tk s q) = some n) : begS s fin l q = begS s fin (l ++ [n]) (nx s q) := by
  have hn : numberS s q = .ok (n, nx s q) := by unfold numberS; rw [h]
  have hL : tk s q ≠ LP := fun hh => by rw [hh, numAt_lp] at h; cases h
  unfold begS
  rw [if_neg (c := fin = true ∧ l ++ [n] = []) (fun hh => by simp at hh)]
  by_cases hf : fin = true ∧ l = []
  · rw [if_pos hf]
    unfold finS
    rw [hn, hf.2]
    rfl
  · rw [if_neg hf]
    have : supS s l q = supS s (l ++ [n]) (nx s q) := by
      unfold supS
      rw [loopS_eq (sup_adv s) l q hq]
      unfold supStep
      rw [if_neg hL, hn]
    rw [this]
theorem beg_none {s : ByteArray} {fin : Bool} {l : List Int} {q : Nat} (hf : fin = true ∧ l = []) (h : numAt (tk s q) = none) : begS s fin l q = .error q := by
  have hn : numberS s q = .error q := by unfold numberS; rw [h]
  unfold begS
  rw [if_pos hf]
  unfold finS
  rw [hn]
  rfl
theorem beg_no {s : ByteArray} {fin : Bool} {l : List Int} {q : Nat} (hq : q ≤ s.size) (hf : ¬ (fin = true ∧ l = [])) (h : numAt (tk s q) = none) (hL : tk s q ≠ LP) : begS s fin l q = .error q := by
  have hn : numberS s q = .error q := by unfold numberS; rw [h]
  unfold begS
  rw [if_neg hf]
  unfold supS
  rw [loopS_eq (sup_adv s) l q hq]
  unfold supStep
  rw [if_neg hL, hn]
  rfl
theorem beg_lp {s : ByteArray} {fin : Bool} {l : List Int} {q : Nat} (hq : q ≤ s.size) (hf : ¬ (fin = true ∧ l = [])) (hL : tk s q = LP) : begS s fin l q = closeS s (fun c => (⟨fin, l, c⟩ : SB)) (compS s (nx s q)) := by
  unfold begS
  rw [if_neg hf]
  unfold supS
  rw [loopS_eq (sup_adv s) l q hq]
  unfold supStep
  rw [if_pos hL]
  rfl
/- Behind the numbers: what must, comp and must do. -/
theorem beg_tied {s : ByteArray} {fin : Bool} {l : List Int} {q : Nat} (hq : q ≤ s.size) (hf : ¬ (fin = true ∧ l = [])) (h : numAt (tk s q) = none) {c : CT} {st1 : Except Nat Nat} (hc : Tied (compS s) (mustS s LP (.ok q)) c st1) : Tied (begS s fin l) (.ok q) (⟨fin, l, c⟩ : SB) (mustS s RP st1) := by
  by_cases hL : tk s q = LP
  · rw [must_ok hL (by decide)] at hc
    exact close_tied (u := fun c => (⟨fin, l, c⟩ : SB)) (beg_lp hq hf hL) hc
  · rw [must_er hL] at hc
    have hc' : st1 = .error q := hc
    subst hc'
    exact Tied.bad (beg_no hq hf h hL)
theorem sub_beg {s : ByteArray} {p : Nat} (h : tk s p = WSUB) : subS s p = begS s (decide (tk s (nx s p) = WFINAL)) [] (if tk s (nx s p) = WFINAL then nx s (nx s p) else nx s p) := by
  unfold subS begS
  rw [if_pos h]
  by_cases h2 : tk s (nx s p) = WFINAL
  · simp [h2]
  · simp [h2]
def set4c (w : World) (M : Nat) (k : Int) (pv rv fv : Value) : World := (((w.setCell ⟨M, 2, none⟩ (.int .i64 k)).setCell ⟨M, 3, none⟩ pv).setCell ⟨M, 4, none⟩ rv).setCell ⟨M, 5, none⟩ fv
theorem CZ.comp4 {w : World} {b M : Nat} {s : ByteArray} {fin : Bool} {sv : Value} {st : Except Nat Nat} {w1 : World} (h : CZ w b M s (sobj fin sv 0 NILS NILS NILS) st w1) (hb : b < w.heap.size) (hM : w.heap.size < M) (k : Int) (pv rv fv : Value) : CZ w b M s (sobj fin sv k pv rv fv) st (set4c w1 M k pv rv fv) := by
  have e1 := heap_set h.1 2 (.int .i64 k)
  have e2 := heap_set e1 3 pv
  have e3 := heap_set e2 4 rv
  have e4 := heap_set e3 5 fv
  exact (((h.set hb hM 2 _ e1).set hb hM 3 _ e2).set hb hM 4 _ e3).set hb hM 5 _ e4
theorem row_set4c {w : World} {B : Nat} {e : TypeId} {k : Nat} {v : Value} {n : Nat} {cs : List Value} {M : Nat} {ds : Array Value} {fz : Nat × Nat} (h : w.ownsRow B e k v n cs) (hq : w.heap[M]? = some (.cells ds 62 fz)) (hne : 62 ≠ e) (kk : Int) (pv rv fv : Value) : (set4c w M kk pv rv fv).ownsRow B e k v n cs := by
  obtain ⟨e0, h0⟩ := heap_sub hq 2 (.int .i64 kk)
  obtain ⟨e1, h1⟩ := heap_sub h0 3 pv
  obtain ⟨e2, h2⟩ := heap_sub h1 4 rv
  exact row_setS (row_setS (row_setS (row_setS h (q := ⟨M, 2, none⟩) hq hne _) (q := ⟨M, 3, none⟩) h0 hne _) (q := ⟨M, 4, none⟩) h1 hne _) (q := ⟨M, 5, none⟩) h2 hne _
set_option maxRecDepth 100000 in
set_option maxHeartbeats 2000000 in
theorem dsub_comp {w : World} {b : Nat} {s : ByteArray} {st : Except Nat Nat} (h : ST w b s st) (hs : s.size ≤ 65536) (h1 : isB s WSUB st = false) (HT : Hid (∀ c st', Tied (compS s) st c st' → Tied (subS s) st (⟨true, [], c⟩ : SB) st')) :
    Calls Tryd.prog 30 #[.pointer (some ⟨b, 0, none⟩)] w (AnsE b s w st) := by
  have hb : b < w.heap.size := h.lt
  have R0 : Hid (ST (w.alloc (.cells #[.bool false, .slice none 0 0, .int .i64 0, .slice none 0 0, .slice none 0 0, .slice none 0 0] 62)) b s st) := h.grew ((Grew.refl w).alloc _)
  have T0 : Hid (Turn [b] w (w.alloc (.cells #[.bool false, .slice none 0 0, .int .i64 0, .slice none 0 0, .slice none 0 0, .slice none 0 0] 62))) := (Turn.refl [b] w).alloc _
  have N0 : Hid ((w.alloc (.cells #[.bool false, .slice none 0 0, .int .i64 0, .slice none 0 0, .slice none 0 0, .slice none 0 0] 62)).heap[w.heap.size]? = some (sobj false NILS 0 NILS NILS NILS)) := heap_alloc_last _ _
  have C := is_ex R0.out hs WSUB h1
  clear h h1 R0
  go_enter Tryd.func30, Tryd.ntmps30
  go_wp2_with fail
  refine C.mono ?_
  rintro en w1 ⟨rfl, t1, s1⟩
  have T1 : Hid (Turn [b] w w1) := T0.out.trans t1
  have N1 : Hid (w1.heap[w.heap.size]? = some (sobj false NILS 0 NILS NILS NILS)) := t1.other N0.out (by simp; omega)
  have V := dcomp_any s1.st hs
  have hz1 := T1.out.size
  clear C t1 s1 T0 N0
  go_wp2_with fail
  refine V.mono ?_
  rintro en w2 ⟨v, c, st2, rfl, ⟨pv, rv, fv, rfl, WP, WR, WF⟩, t2, s2, td2⟩
  clear V
  have T2 : Hid (Turn [b] w w2) := T1.out.trans t2
  have S2 : Hid (ST w2 b s st2) := s2
  have n2 := t2.other N1.out (by simp; omega)
  have N2 : Hid (w2.heap[w.heap.size]? = some (sobj false NILS 0 NILS NILS NILS)) := n2
  have TE : Hid _ := HT.out c st2 td2
  obtain ⟨pa, pc, hpv⟩ := row_one WP
  obtain ⟨ra, rc, hrv⟩ := row_one WR
  obtain ⟨fa, fc, hfv⟩ := row_one WF
  subst hpv
  subst hrv
  subst hfv
  have P2 : Hid (RowV w.heap.size w2 (.slice pa c.params.length pc) c.params) := WP.low (by omega)
  have Q2 : Hid (RowV w.heap.size w2 (.slice ra c.results.length rc) c.results) := WR.low (by omega)
  have F2 : Hid (RowF w.heap.size w2 (.slice fa c.fields.length fc) c.fields) := WF.low (by omega)
  have c0 := cell_of n2 0
  have c1 := cell_of n2 1
  have c2 := cell_of n2 2
  have c3 := cell_of n2 3
  have c4 := cell_of n2 4
  have c5 := cell_of n2 5
  have z0 := free_of n2 0
  have z1 := free_of n2 1
  have z2 := free_of n2 2
  have z3 := free_of n2 3
  have z4 := free_of n2 4
  have z5 := free_of n2 5
  simp [NILS] at c0 c1 c2 c3 c4 c5
  clear t2 s2 n2 WP WR WF td2
  go_wp2_with fail
  refine bodyPost_ret (v := .agg #[.bool true, .slice none 0 0, .int .i64 c.kind, .slice pa c.params.length pc, .slice ra c.results.length rc, .slice fa c.fields.length fc]) (by simp [results, Tryd.results30, go_sem, c0, c1, c2, c3, c4, c5]) rfl ?_
  obtain ⟨q1, q2, q3⟩ := dsub_end (x := ⟨true, [], c⟩) N2.out (Nat.le_refl _) (B := w.heap.size) (Nat.le_refl _) (RowI.nil _ _) P2.out Q2.out F2.out T2.out S2.out (by omega)
  exact ⟨[.bool true, .slice none 0 0, .int .i64 c.kind, .slice pa c.params.length pc, .slice ra c.results.length rc, .slice fa c.fields.length fc], _, st2, rfl, q1, q2, q3, TE.out⟩
set_option maxRecDepth 100000 in
set_option maxHeartbeats 4000000 in
theorem dsub_sub {w : World} {b : Nat} {s : ByteArray} {p : Nat} (h : ST w b s (.ok p)) (hs : s.size ≤ 65536) (h1 : tk s p = WSUB) :
    Calls Tryd.prog 30 #[.pointer (some ⟨b, 0, none⟩)] w (AnsE b s w (.ok p)) := by
  have hb : b < w.heap.size := h.lt
  have R0 : Hid (ST (w.alloc (.cells #[.bool false, .slice none 0 0, .int .i64 0, .slice none 0 0, .slice none 0 0, .slice none 0 0] 62)) b s (.ok p)) := h.grew ((Grew.refl w).alloc _)
  have T0 : Hid (Turn [b] w (w.alloc (.cells #[.bool false, .slice none 0 0, .int .i64 0, .slice none 0 0, .slice none 0 0, .slice none 0 0] 62))) := (Turn.refl [b] w).alloc _
  have N0 : Hid ((w.alloc (.cells #[.bool false, .slice none 0 0, .int .i64 0, .slice none 0 0, .slice none 0 0, .slice none 0 0] 62)).heap[w.heap.size]? = some (sobj false NILS 0 NILS NILS NILS)) := heap_alloc_last _ _
  have C := is_yes R0.out hs WSUB h1 (by decide)
  obtain ⟨fin, hfin⟩ : ∃ fin, fin = decide (tk s (nx s p) = WFINAL) := ⟨_, rfl⟩
  obtain ⟨q0, hq0⟩ : ∃ q0, q0 = if tk s (nx s p) = WFINAL then nx s (nx s p) else nx s p := ⟨_, rfl⟩
  have HT : Hid (∀ x st', Tied (begS s fin []) (.ok q0) x st' → Tied (subS s) (.ok p) x st') := by
    intro x st' ht
    refine tied_eq ?_ ht
    rw [sub_beg h1, hfin, hq0]
  have hi1 : isB s WFINAL (.ok (nx s p)) = fin := by rw [isB_of _ (by decide), hfin]
  have hi2 : isS s WFINAL (.ok (nx s p)) = .ok q0 := by
    show (if tk s (nx s p) = WFINAL ∧ WFINAL ≠ E0 then Except.ok (nx s (nx s p)) else Except.ok (nx s p)) = _
    rw [hq0]
    by_cases h2 : tk s (nx s p) = WFINAL
    · rw [if_pos h2, if_pos ⟨h2, by decide⟩]
    · rw [if_neg h2, if_neg (fun hh => h2 hh.1)]
  clear h h1 R0 hfin hq0
  go_enter Tryd.func30, Tryd.ntmps30
  go_wp2_with fail
  refine C.mono ?_
  rintro en w1 ⟨rfl, t1, s1⟩
  have T1 : Hid (Turn [b] w w1) := T0.out.trans t1
  have N1 : Hid (w1.heap[w.heap.size]? = some (sobj false NILS 0 NILS NILS NILS)) := t1.other N0.out (by simp; omega)
  have D := is_any (st := .ok (nx s p)) s1 hs WFINAL
  rw [hi1, hi2] at D
  have hz1 := T1.out.size
  clear C t1 s1 T0 N0 hi1 hi2
  go_wp2_with fail
  refine D.mono ?_
  rintro en w2 ⟨rfl, t2, s2⟩
  have T2 : Hid (Turn [b] w w2) := T1.out.trans t2
  have N2 : Hid (w2.heap[w.heap.size]? = some (sobj false NILS 0 NILS NILS NILS)) := t2.other N1.out (by simp; omega)
  have S2 : Hid (ST w2 b s (.ok q0)) := s2
  have hz2 := t2.size
  have hN2 := lt_of_obj N2.out
  clear D t2 s2 T1 N1
  go_wp2_with fail
  obtain ⟨M, hM⟩ : ∃ M, M = w2.heap.size := ⟨_, rfl⟩
  rw [← hM]
  have X0 : Hid (CZ w b M s (sobj fin (.slice none 0 0) 0 NILS NILS NILS) (.ok q0) (w2.alloc (.cells #[.bool fin, .slice none 0 0, .int .i64 0, .slice none 0 0, .slice none 0 0, .slice none 0 0] 62))) := by
    refine ⟨?_, heap_alloc N2.out _, by rw [hM]; simp, T2.out.alloc _, S2.out.grew ((Grew.refl _).alloc _)⟩
    rw [hM]
    exact heap_alloc_last _ _
  have hNM : w.heap.size < M := by omega
  generalize w2.alloc (.cells #[.bool fin, .slice none 0 0, .int .i64 0, .slice none 0 0, .slice none 0 0, .slice none 0 0] 62) = w3 at *
  clear hM T2 N2 S2 hz1 hz2 hN2
  go_loopw [] (fun w' => ∃ (q : Nat) (l : List Int) (sv : Value), Hid (CZ w b M s (sobj fin sv 0 NILS NILS NILS) (.ok q) w') ∧ Hid (RowI (M + 1) w' sv l) ∧ l.length ≤ q ∧ Hid (∀ x st', Tied (begS s fin l) (.ok q) x st' → Tied (subS s) (.ok p) x st')) (fun w' => mOf s w' b)
  case atStart => exact ⟨q0, [], _, X0, RowI.nil _ _, Nat.zero_le _, HT⟩
  case round =>
    obtain ⟨q, l, sv, XR, IR, hll, TR⟩ := hrel
    obtain ⟨w0, hw0⟩ : ∃ w0, w0 = wr := ⟨_, rfl⟩
    rw [← hw0] at XR IR ⊢
    clear hw0 X0 HT
    obtain ⟨sa, sc, hsv⟩ := row_one IR.out
    subst hsv
    have MEA : Hid (ST w0 b s (.ok q)) := XR.out.2.2.2.2
    have hq := XR.out.2.2.2.2.at_.1
    obtain ⟨qq, o0⟩ := XR.out.2.2.2.2.obj
    have c2 := cell2_of o0
    have D := token_any XR.out.2.2.2.2 hs
    have hts := tokS_size XR.out.2.2.2.2 hs
    have E := fun w => heapOf_any (tk s q) false w hts
    clear o0 hts
    go_wp2_with fail
    refine D.mono ?_
    rintro en w1 ⟨rfl, t1, s1⟩
    have X1 : Hid (CZ w b M s (sobj fin (.slice sa l.length sc) 0 NILS NILS NILS) (.ok q) w1) := XR.out.next t1 s1 hb hNM
    have I1 : Hid (RowI (M + 1) w1 (.slice sa l.length sc) l) := IR.out.next t1 XR.out.2.2.2.2
    clear D t1 s1 XR IR c2
    rw [show tokS s (.ok q) = tk s q from rfl]
    go_wp2_with fail
    refine (E _).mono ?_
    rintro en w1' ⟨h1', nn, rfl, hnn⟩
    obtain rfl := h1'.symm
    rw [ho_false] at hnn ⊢
    clear E
    cases hn : numAt (tk s q) with
    | some n =>
      have hnn' := hnn n hn
      subst hnn'
      have hne : tk s q ≠ E0 := fun hh => numAt_size hn (by rw [hh]; rfl)
      have hadv := nx_lt' hq (numAt_size hn)
      have HM1 : Hid (mustS s (tk s q) (.ok q) = .ok (nx s q)) := must_ok rfl hne
      have UT : Hid (∀ x st', Tied (begS s fin (l ++ [nn])) (.ok (nx s q)) x st' → Tied (subS s) (.ok p) x st') := fun x st' ht => TR.out x st' (tied_eq (beg_more hq hn) ht)
      clear TR hnn hn hne
      simp only [Option.isSome_some]
      have D := token_any X1.out.2.2.2.2 hs
      go_wp2_with fail
      refine D.mono ?_
      rintro en w2 ⟨rfl, t2, s2⟩
      have X2 : Hid (CZ w b M s (sobj fin (.slice sa l.length sc) 0 NILS NILS NILS) (.ok q) w2) := X1.out.next t2 s2 hb hNM
      have I2 : Hid (RowI (M + 1) w2 (.slice sa l.length sc) l) := I1.out.next t2 X1.out.2.2.2.2
      clear D t2 s2 X1 I1
      rw [show tokS s (.ok q) = tk s q from rfl]
      have D := must_any X2.out.2.2.2.2 hs (tk s q)
      rw [HM1.out] at D
      go_wp2_with fail
      refine D.mono ?_
      rintro en w4 ⟨rfl, t4, s4⟩
      have y4 := X2.out.next t4 (st' := .ok (nx s q)) s4 hb hNM
      have X4 : Hid (CZ w b M s (sobj fin (.slice sa l.length sc) 0 NILS NILS NILS) (.ok (nx s q)) w4) := y4
      have I4 : Hid (RowI (M + 1) w4 (.slice sa l.length sc) l) := I2.out.next t4 X2.out.2.2.2.2
      have hB4 := y4.2.2.1
      have m1 := cell_of y4.1 1
      simp [NILS] at m1
      have m1a := cell_of (heap_alloc y4.1 (.cells #[.int .i64 nn] 3)) 1
      simp [NILS] at m1a
      clear D t4 s4 X2 I2 y4
      go_wp2_with (at_builtin; refine wp_app1 (v := .slice sa l.length sc) (n := l.length) (cs := l.flatMap ic1) (B := M + 1) rfl _ _ 56 3 1 8 _ Tryd.underlying56 infoI rfl (by decide) (by decide) rfl (M + 1) rfl rfl I4.out hB4 rfl (by simp [Value.oneCell']) (by omega) ?_; intro v5 w5 hO5 hT5 hG5; have I5' := RowI.snoc (a := nn) hO5; obtain ⟨a5, c5, hv5⟩ := row_one I5'; subst hv5; have I5 : Hid (RowI (M + 1) w5 (.slice a5 (l ++ [nn]).length c5) (l ++ [nn])) := I5'; have y5 := X4.out.app hT5 hb hNM; have X5 : Hid (CZ w b M s (sobj fin (.slice sa l.length sc) 0 NILS NILS NILS) (.ok (nx s q)) w5) := y5; have q5 := cell_of y5.1 1; have z5 := free_of y5.1 1; simp [NILS] at q5; clear y5 I5' hO5 hT5 hG5)
      have X8 := X5.out.set hb hNM 1 (.slice a5 (l ++ [nn]).length c5) (sobj_set1 X5.out.1 _)
      have I8 := I5.out.setS (q := ⟨M, 1, none⟩) X5.out.1 (.slice a5 (l ++ [nn]).length c5)
      simp only [List.length_append, List.length_cons, List.length_nil, Nat.zero_add] at X8 I8
      go_roundw
      case rel => exact ⟨nx s q, l ++ [nn], _, X8, I8, by simp; omega, UT.out⟩
      case measure => exact mOf_lt MEA.out X8.2.2.2.2 (fun r hr => by cases hr; omega)
    | none =>
      simp only [Option.isSome_none]
      have HN : Hid (numAt (tk s q) = none) := hn
      have y1 := X1.out
      have k0 := cell_of y1.1 0
      have k1 := cell_of y1.1 1
      simp [NILS] at k0 k1
      clear hnn hn y1
      by_cases hf : fin = true ∧ l = []
      · obtain ⟨rfl, rfl⟩ := hf
        have TB1 : Hid (∀ x, Tied (subS s) (.ok p) x (.error q)) := fun x => TR.out x _ (Tied.bad (beg_none ⟨rfl, rfl⟩ HN.out))
        have D := token_ex X1.out.2.2.2.2 hs
        clear TR HN
        go_wp2_with fail
        refine D.mono ?_
        rintro en w2 ⟨rfl, t2, s2⟩
        have X2 : Hid (CZ w b M s (sobj true (.slice sa 0 sc) 0 NILS NILS NILS) (.ok q) w2) := X1.out.next t2 s2.st hb hNM
        have I2 : Hid (RowI (M + 1) w2 (.slice sa 0 sc) []) := I1.out.next t2 X1.out.2.2.2.2
        have O2 : Hid (w2.heap[b]? = some (rdg s q false)) := s2.1
        have c2 := cell2_of s2.1
        have z2 := free_of s2.1 2
        clear D t2 s2 X1 I1 k0 k1
        go_wp2_with fail
        have X3 : Hid (CZ w b M s (sobj true (.slice sa 0 sc) 0 NILS NILS NILS) (.error q) (w2.setCell ⟨b, 2, none⟩ (.bool true))) := X2.out.bad O2.out hb hNM
        have I3 : Hid (RowI (M + 1) (w2.setCell ⟨b, 2, none⟩ (.bool true)) (.slice sa 0 sc) []) := I2.out.bad X2.out.2.2.2.2 _
        clear X2 I2 c2 z2 O2
        generalize w2.setCell ⟨b, 2, none⟩ (.bool true) = w3 at *
        have C5 := must_any X3.out.2.2.2.2 hs LP
        skip
        refine C5.mono ?_
        rintro en w5 ⟨rfl, t5, s5⟩
        have X5 : Hid (CZ w b M s (sobj true (.slice sa 0 sc) 0 NILS NILS NILS) (mustS s LP (.error q)) w5) := X3.out.next t5 s5 hb hNM
        have I5 : Hid (RowI (M + 1) w5 (.slice sa 0 sc) ([] : List Int)) := I3.out.next t5 X3.out.2.2.2.2
        clear C5 t5 s5 X3 I3
        have V := dcomp_any X5.out.2.2.2.2 hs
        go_wp2_with fail
        refine V.mono ?_
        rintro en w7 ⟨v, c, st7, rfl, ⟨pv, rv, fv, rfl, WP, WR, WF⟩, t7, s7, td7⟩
        clear V
        have y7 := X5.out.next t7 s7 hb hNM
        have X7 : Hid (CZ w b M s (sobj true (.slice sa 0 sc) 0 NILS NILS NILS) st7 w7) := y7
        have I7 : Hid (RowI (M + 1) w7 (.slice sa 0 sc) ([] : List Int)) := I5.out.next t7 X5.out.2.2.2.2
        have hz5 := X5.out.2.2.1
        have TE : Hid (Tied (subS s) (.ok p) (⟨true, ([] : List Int), c⟩ : SB) (mustS s RP st7)) := by have e7 : st7 = .error q := td7; rw [e7]; exact TB1.out _
        obtain ⟨pa, pc, hpv⟩ := row_one WP
        obtain ⟨ra, rc, hrv⟩ := row_one WR
        obtain ⟨fa, fc, hfv⟩ := row_one WF
        subst hpv
        subst hrv
        subst hfv
        have P7 : Hid (RowV (M + 1) w7 (.slice pa c.params.length pc) c.params) := WP.low hz5
        have Q7 : Hid (RowV (M + 1) w7 (.slice ra c.results.length rc) c.results) := WR.low hz5
        have F7 : Hid (RowF (M + 1) w7 (.slice fa c.fields.length fc) c.fields) := WF.low hz5
        have c0 := cell_of y7.1 0
        have z0 := free_of y7.1 0
        have c1 := cell_of y7.1 1
        have z1 := free_of y7.1 1
        have c2 := cell_of y7.1 2
        have z2 := free_of y7.1 2
        have c3 := cell_of y7.1 3
        have z3 := free_of y7.1 3
        have c4 := cell_of y7.1 4
        have z4 := free_of y7.1 4
        have c5 := cell_of y7.1 5
        have z5 := free_of y7.1 5
        simp [NILS] at c0 c1 c2 c3 c4 c5
        clear t7 s7 td7 y7 WP WR WF X5 I5
        go_wp2_with fail
        have X8 : Hid (CZ w b M s (sobj true (.slice sa 0 sc) c.kind (.slice pa c.params.length pc) (.slice ra c.results.length rc) (.slice fa c.fields.length fc)) st7 (set4c w7 M c.kind (.slice pa c.params.length pc) (.slice ra c.results.length rc) (.slice fa c.fields.length fc))) := X7.out.comp4 hb hNM _ _ _ _
        have I8 : Hid (RowI (M + 1) (set4c w7 M c.kind (.slice pa c.params.length pc) (.slice ra c.results.length rc) (.slice fa c.fields.length fc)) (.slice sa 0 sc) ([] : List Int)) := row_set4c I7.out X7.out.1 (by decide) _ _ _ _
        have P8 : Hid (RowV (M + 1) (set4c w7 M c.kind (.slice pa c.params.length pc) (.slice ra c.results.length rc) (.slice fa c.fields.length fc)) (.slice pa c.params.length pc) c.params) := row_set4c P7.out X7.out.1 (by decide) _ _ _ _
        have Q8 : Hid (RowV (M + 1) (set4c w7 M c.kind (.slice pa c.params.length pc) (.slice ra c.results.length rc) (.slice fa c.fields.length fc)) (.slice ra c.results.length rc) c.results) := row_set4c Q7.out X7.out.1 (by decide) _ _ _ _
        have F8 : Hid (RowF (M + 1) (set4c w7 M c.kind (.slice pa c.params.length pc) (.slice ra c.results.length rc) (.slice fa c.fields.length fc)) (.slice fa c.fields.length fc) c.fields) := row_set4c F7.out X7.out.1 (by decide) _ _ _ _
        unfold set4c at X8 I8 P8 Q8 F8
        generalize (((w7.setCell ⟨M, 2, none⟩ (.int .i64 c.kind)).setCell ⟨M, 3, none⟩ (.slice pa c.params.length pc)).setCell ⟨M, 4, none⟩ (.slice ra c.results.length rc)).setCell ⟨M, 5, none⟩ (.slice fa c.fields.length fc) = w8 at *
        clear c0 c1 c2 c3 c4 c5 z0 z1 z2 z3 z4 z5 X7 I7 P7 Q7 F7
        refine (must_any X8.out.2.2.2.2 hs RP).mono ?_
        rintro en w9 ⟨rfl, t9, s9⟩
        have y9 := X8.out.next t9 s9 hb hNM
        have X9 : Hid (CZ w b M s (sobj true (.slice sa 0 sc) c.kind (.slice pa c.params.length pc) (.slice ra c.results.length rc) (.slice fa c.fields.length fc)) (mustS s RP st7) w9) := y9
        have I9 : Hid (RowI (M + 1) w9 (.slice sa 0 sc) ([] : List Int)) := I8.out.next t9 X8.out.2.2.2.2
        have P9 : Hid (RowV (M + 1) w9 (.slice pa c.params.length pc) c.params) := P8.out.next t9 X8.out.2.2.2.2
        have Q9 : Hid (RowV (M + 1) w9 (.slice ra c.results.length rc) c.results) := Q8.out.next t9 X8.out.2.2.2.2
        have F9 : Hid (RowF (M + 1) w9 (.slice fa c.fields.length fc) c.fields) := F8.out.next t9 X8.out.2.2.2.2
        have c0 := cell_of y9.1 0
        have d0 := cell_of y9.2.1 0
        have z0 := free_of y9.2.1 0
        have c1 := cell_of y9.1 1
        have d1 := cell_of y9.2.1 1
        have z1 := free_of y9.2.1 1
        have c2 := cell_of y9.1 2
        have d2 := cell_of y9.2.1 2
        have z2 := free_of y9.2.1 2
        have c3 := cell_of y9.1 3
        have d3 := cell_of y9.2.1 3
        have z3 := free_of y9.2.1 3
        have c4 := cell_of y9.1 4
        have d4 := cell_of y9.2.1 4
        have z4 := free_of y9.2.1 4
        have c5 := cell_of y9.1 5
        have d5 := cell_of y9.2.1 5
        have z5 := free_of y9.2.1 5
        simp [NILS] at c0 c1 c2 c3 c4 c5 d0 d1 d2 d3 d4 d5
        clear t9 s9 y9 X8 I8 P8 Q8 F8
        go_wp2_with fail
        refine bodyPost_ret (v := .agg #[.bool true, (.slice sa 0 sc), .int .i64 c.kind, .slice pa c.params.length pc, .slice ra c.results.length rc, .slice fa c.fields.length fc]) (by simp [results, Tryd.results30, go_sem, d0, d1, d2, d3, d4, d5]) rfl ?_
        obtain ⟨q1, q2, q3⟩ := dsub_end (x := ⟨true, ([] : List Int), c⟩) X9.out.2.1 (Nat.le_refl _) (B := M + 1) (by omega) I9.out P9.out Q9.out F9.out X9.out.2.2.2.1 X9.out.2.2.2.2 (by omega)
        exact ⟨[.bool true, (.slice sa 0 sc), .int .i64 c.kind, .slice pa c.params.length pc, .slice ra c.results.length rc, .slice fa c.fields.length fc], _, _, rfl, q1, q2, q3, TE.out⟩
      · have HTD : Hid (∀ c st1, Tied (compS s) (mustS s LP (.ok q)) c st1 → Tied (subS s) (.ok p) (⟨fin, l, c⟩ : SB) (mustS s RP st1)) := fun c st1 h => TR.out _ _ (beg_tied hq hf HN.out h)
        clear TR HN
        have hfl : fin = false ∨ fin = true ∧ ((l.length : Int) == 0) = false := by
          cases fin with
          | false => exact Or.inl rfl
          | true =>
            refine Or.inr ⟨rfl, ?_⟩
            have : l.length ≠ 0 := fun h => hf ⟨rfl, List.eq_nil_of_length_eq_zero h⟩
            simp
            intro h
            exact this (by simp [h])
        clear hf
        rcases hfl with rfl | ⟨rfl, hlen⟩
        · skip
          have C5 := must_any X1.out.2.2.2.2 hs LP
          go_wp2_with fail
          refine C5.mono ?_
          rintro en w5 ⟨rfl, t5, s5⟩
          have X5 : Hid (CZ w b M s (sobj false (.slice sa l.length sc) 0 NILS NILS NILS) (mustS s LP (.ok q)) w5) := X1.out.next t5 s5 hb hNM
          have I5 : Hid (RowI (M + 1) w5 (.slice sa l.length sc) l) := I1.out.next t5 X1.out.2.2.2.2
          clear C5 t5 s5 X1 I1
          have V := dcomp_any X5.out.2.2.2.2 hs
          go_wp2_with fail
          refine V.mono ?_
          rintro en w7 ⟨v, c, st7, rfl, ⟨pv, rv, fv, rfl, WP, WR, WF⟩, t7, s7, td7⟩
          clear V
          have y7 := X5.out.next t7 s7 hb hNM
          have X7 : Hid (CZ w b M s (sobj false (.slice sa l.length sc) 0 NILS NILS NILS) st7 w7) := y7
          have I7 : Hid (RowI (M + 1) w7 (.slice sa l.length sc) l) := I5.out.next t7 X5.out.2.2.2.2
          have hz5 := X5.out.2.2.1
          have TE : Hid (Tied (subS s) (.ok p) (⟨false, l, c⟩ : SB) (mustS s RP st7)) := HTD.out _ _ td7
          obtain ⟨pa, pc, hpv⟩ := row_one WP
          obtain ⟨ra, rc, hrv⟩ := row_one WR
          obtain ⟨fa, fc, hfv⟩ := row_one WF
          subst hpv
          subst hrv
          subst hfv
          have P7 : Hid (RowV (M + 1) w7 (.slice pa c.params.length pc) c.params) := WP.low hz5
          have Q7 : Hid (RowV (M + 1) w7 (.slice ra c.results.length rc) c.results) := WR.low hz5
          have F7 : Hid (RowF (M + 1) w7 (.slice fa c.fields.length fc) c.fields) := WF.low hz5
          have c0 := cell_of y7.1 0
          have z0 := free_of y7.1 0
          have c1 := cell_of y7.1 1
          have z1 := free_of y7.1 1
          have c2 := cell_of y7.1 2
          have z2 := free_of y7.1 2
          have c3 := cell_of y7.1 3
          have z3 := free_of y7.1 3
          have c4 := cell_of y7.1 4
          have z4 := free_of y7.1 4
          have c5 := cell_of y7.1 5
          have z5 := free_of y7.1 5
          simp [NILS] at c0 c1 c2 c3 c4 c5
          clear t7 s7 td7 y7 WP WR WF X5 I5
          go_wp2_with fail
          have X8 : Hid (CZ w b M s (sobj false (.slice sa l.length sc) c.kind (.slice pa c.params.length pc) (.slice ra c.results.length rc) (.slice fa c.fields.length fc)) st7 (set4c w7 M c.kind (.slice pa c.params.length pc) (.slice ra c.results.length rc) (.slice fa c.fields.length fc))) := X7.out.comp4 hb hNM _ _ _ _
          have I8 : Hid (RowI (M + 1) (set4c w7 M c.kind (.slice pa c.params.length pc) (.slice ra c.results.length rc) (.slice fa c.fields.length fc)) (.slice sa l.length sc) l) := row_set4c I7.out X7.out.1 (by decide) _ _ _ _
          have P8 : Hid (RowV (M + 1) (set4c w7 M c.kind (.slice pa c.params.length pc) (.slice ra c.results.length rc) (.slice fa c.fields.length fc)) (.slice pa c.params.length pc) c.params) := row_set4c P7.out X7.out.1 (by decide) _ _ _ _
          have Q8 : Hid (RowV (M + 1) (set4c w7 M c.kind (.slice pa c.params.length pc) (.slice ra c.results.length rc) (.slice fa c.fields.length fc)) (.slice ra c.results.length rc) c.results) := row_set4c Q7.out X7.out.1 (by decide) _ _ _ _
          have F8 : Hid (RowF (M + 1) (set4c w7 M c.kind (.slice pa c.params.length pc) (.slice ra c.results.length rc) (.slice fa c.fields.length fc)) (.slice fa c.fields.length fc) c.fields) := row_set4c F7.out X7.out.1 (by decide) _ _ _ _
          unfold set4c at X8 I8 P8 Q8 F8
          generalize (((w7.setCell ⟨M, 2, none⟩ (.int .i64 c.kind)).setCell ⟨M, 3, none⟩ (.slice pa c.params.length pc)).setCell ⟨M, 4, none⟩ (.slice ra c.results.length rc)).setCell ⟨M, 5, none⟩ (.slice fa c.fields.length fc) = w8 at *
          clear c0 c1 c2 c3 c4 c5 z0 z1 z2 z3 z4 z5 X7 I7 P7 Q7 F7
          refine (must_any X8.out.2.2.2.2 hs RP).mono ?_
          rintro en w9 ⟨rfl, t9, s9⟩
          have y9 := X8.out.next t9 s9 hb hNM
          have X9 : Hid (CZ w b M s (sobj false (.slice sa l.length sc) c.kind (.slice pa c.params.length pc) (.slice ra c.results.length rc) (.slice fa c.fields.length fc)) (mustS s RP st7) w9) := y9
          have I9 : Hid (RowI (M + 1) w9 (.slice sa l.length sc) l) := I8.out.next t9 X8.out.2.2.2.2
          have P9 : Hid (RowV (M + 1) w9 (.slice pa c.params.length pc) c.params) := P8.out.next t9 X8.out.2.2.2.2
          have Q9 : Hid (RowV (M + 1) w9 (.slice ra c.results.length rc) c.results) := Q8.out.next t9 X8.out.2.2.2.2
          have F9 : Hid (RowF (M + 1) w9 (.slice fa c.fields.length fc) c.fields) := F8.out.next t9 X8.out.2.2.2.2
          have c0 := cell_of y9.1 0
          have d0 := cell_of y9.2.1 0
          have z0 := free_of y9.2.1 0
          have c1 := cell_of y9.1 1
          have d1 := cell_of y9.2.1 1
          have z1 := free_of y9.2.1 1
          have c2 := cell_of y9.1 2
          have d2 := cell_of y9.2.1 2
          have z2 := free_of y9.2.1 2
          have c3 := cell_of y9.1 3
          have d3 := cell_of y9.2.1 3
          have z3 := free_of y9.2.1 3
          have c4 := cell_of y9.1 4
          have d4 := cell_of y9.2.1 4
          have z4 := free_of y9.2.1 4
          have c5 := cell_of y9.1 5
          have d5 := cell_of y9.2.1 5
          have z5 := free_of y9.2.1 5
          simp [NILS] at c0 c1 c2 c3 c4 c5 d0 d1 d2 d3 d4 d5
          clear t9 s9 y9 X8 I8 P8 Q8 F8
          go_wp2_with fail
          refine bodyPost_ret (v := .agg #[.bool false, (.slice sa l.length sc), .int .i64 c.kind, .slice pa c.params.length pc, .slice ra c.results.length rc, .slice fa c.fields.length fc]) (by simp [results, Tryd.results30, go_sem, d0, d1, d2, d3, d4, d5]) rfl ?_
          obtain ⟨q1, q2, q3⟩ := dsub_end (x := ⟨false, l, c⟩) X9.out.2.1 (Nat.le_refl _) (B := M + 1) (by omega) I9.out P9.out Q9.out F9.out X9.out.2.2.2.1 X9.out.2.2.2.2 (by omega)
          exact ⟨[.bool false, (.slice sa l.length sc), .int .i64 c.kind, .slice pa c.params.length pc, .slice ra c.results.length rc, .slice fa c.fields.length fc], _, _, rfl, q1, q2, q3, TE.out⟩
        · skip
          have C5 := must_any X1.out.2.2.2.2 hs LP
          go_wp2_with fail
          refine C5.mono ?_
          rintro en w5 ⟨rfl, t5, s5⟩
          have X5 : Hid (CZ w b M s (sobj true (.slice sa l.length sc) 0 NILS NILS NILS) (mustS s LP (.ok q)) w5) := X1.out.next t5 s5 hb hNM
          have I5 : Hid (RowI (M + 1) w5 (.slice sa l.length sc) l) := I1.out.next t5 X1.out.2.2.2.2
          clear C5 t5 s5 X1 I1
          have V := dcomp_any X5.out.2.2.2.2 hs
          go_wp2_with fail
          refine V.mono ?_
          rintro en w7 ⟨v, c, st7, rfl, ⟨pv, rv, fv, rfl, WP, WR, WF⟩, t7, s7, td7⟩
          clear V
          have y7 := X5.out.next t7 s7 hb hNM
          have X7 : Hid (CZ w b M s (sobj true (.slice sa l.length sc) 0 NILS NILS NILS) st7 w7) := y7
          have I7 : Hid (RowI (M + 1) w7 (.slice sa l.length sc) l) := I5.out.next t7 X5.out.2.2.2.2
          have hz5 := X5.out.2.2.1
          have TE : Hid (Tied (subS s) (.ok p) (⟨true, l, c⟩ : SB) (mustS s RP st7)) := HTD.out _ _ td7
          obtain ⟨pa, pc, hpv⟩ := row_one WP
          obtain ⟨ra, rc, hrv⟩ := row_one WR
          obtain ⟨fa, fc, hfv⟩ := row_one WF
          subst hpv
          subst hrv
          subst hfv
          have P7 : Hid (RowV (M + 1) w7 (.slice pa c.params.length pc) c.params) := WP.low hz5
          have Q7 : Hid (RowV (M + 1) w7 (.slice ra c.results.length rc) c.results) := WR.low hz5
          have F7 : Hid (RowF (M + 1) w7 (.slice fa c.fields.length fc) c.fields) := WF.low hz5
          have c0 := cell_of y7.1 0
          have z0 := free_of y7.1 0
          have c1 := cell_of y7.1 1
          have z1 := free_of y7.1 1
          have c2 := cell_of y7.1 2
          have z2 := free_of y7.1 2
          have c3 := cell_of y7.1 3
          have z3 := free_of y7.1 3
          have c4 := cell_of y7.1 4
          have z4 := free_of y7.1 4
          have c5 := cell_of y7.1 5
          have z5 := free_of y7.1 5
          simp [NILS] at c0 c1 c2 c3 c4 c5
          clear t7 s7 td7 y7 WP WR WF X5 I5
          go_wp2_with fail
          have X8 : Hid (CZ w b M s (sobj true (.slice sa l.length sc) c.kind (.slice pa c.params.length pc) (.slice ra c.results.length rc) (.slice fa c.fields.length fc)) st7 (set4c w7 M c.kind (.slice pa c.params.length pc) (.slice ra c.results.length rc) (.slice fa c.fields.length fc))) := X7.out.comp4 hb hNM _ _ _ _
          have I8 : Hid (RowI (M + 1) (set4c w7 M c.kind (.slice pa c.params.length pc) (.slice ra c.results.length rc) (.slice fa c.fields.length fc)) (.slice sa l.length sc) l) := row_set4c I7.out X7.out.1 (by decide) _ _ _ _
          have P8 : Hid (RowV (M + 1) (set4c w7 M c.kind (.slice pa c.params.length pc) (.slice ra c.results.length rc) (.slice fa c.fields.length fc)) (.slice pa c.params.length pc) c.params) := row_set4c P7.out X7.out.1 (by decide) _ _ _ _
          have Q8 : Hid (RowV (M + 1) (set4c w7 M c.kind (.slice pa c.params.length pc) (.slice ra c.results.length rc) (.slice fa c.fields.length fc)) (.slice ra c.results.length rc) c.results) := row_set4c Q7.out X7.out.1 (by decide) _ _ _ _
          have F8 : Hid (RowF (M + 1) (set4c w7 M c.kind (.slice pa c.params.length pc) (.slice ra c.results.length rc) (.slice fa c.fields.length fc)) (.slice fa c.fields.length fc) c.fields) := row_set4c F7.out X7.out.1 (by decide) _ _ _ _
          unfold set4c at X8 I8 P8 Q8 F8
          generalize (((w7.setCell ⟨M, 2, none⟩ (.int .i64 c.kind)).setCell ⟨M, 3, none⟩ (.slice pa c.params.length pc)).setCell ⟨M, 4, none⟩ (.slice ra c.results.length rc)).setCell ⟨M, 5, none⟩ (.slice fa c.fields.length fc) = w8 at *
          clear c0 c1 c2 c3 c4 c5 z0 z1 z2 z3 z4 z5 X7 I7 P7 Q7 F7
          refine (must_any X8.out.2.2.2.2 hs RP).mono ?_
          rintro en w9 ⟨rfl, t9, s9⟩
          have y9 := X8.out.next t9 s9 hb hNM
          have X9 : Hid (CZ w b M s (sobj true (.slice sa l.length sc) c.kind (.slice pa c.params.length pc) (.slice ra c.results.length rc) (.slice fa c.fields.length fc)) (mustS s RP st7) w9) := y9
          have I9 : Hid (RowI (M + 1) w9 (.slice sa l.length sc) l) := I8.out.next t9 X8.out.2.2.2.2
          have P9 : Hid (RowV (M + 1) w9 (.slice pa c.params.length pc) c.params) := P8.out.next t9 X8.out.2.2.2.2
          have Q9 : Hid (RowV (M + 1) w9 (.slice ra c.results.length rc) c.results) := Q8.out.next t9 X8.out.2.2.2.2
          have F9 : Hid (RowF (M + 1) w9 (.slice fa c.fields.length fc) c.fields) := F8.out.next t9 X8.out.2.2.2.2
          have c0 := cell_of y9.1 0
          have d0 := cell_of y9.2.1 0
          have z0 := free_of y9.2.1 0
          have c1 := cell_of y9.1 1
          have d1 := cell_of y9.2.1 1
          have z1 := free_of y9.2.1 1
          have c2 := cell_of y9.1 2
          have d2 := cell_of y9.2.1 2
          have z2 := free_of y9.2.1 2
          have c3 := cell_of y9.1 3
          have d3 := cell_of y9.2.1 3
          have z3 := free_of y9.2.1 3
          have c4 := cell_of y9.1 4
          have d4 := cell_of y9.2.1 4
          have z4 := free_of y9.2.1 4
          have c5 := cell_of y9.1 5
          have d5 := cell_of y9.2.1 5
          have z5 := free_of y9.2.1 5
          simp [NILS] at c0 c1 c2 c3 c4 c5 d0 d1 d2 d3 d4 d5
          clear t9 s9 y9 X8 I8 P8 Q8 F8
          go_wp2_with fail
          refine bodyPost_ret (v := .agg #[.bool true, (.slice sa l.length sc), .int .i64 c.kind, .slice pa c.params.length pc, .slice ra c.results.length rc, .slice fa c.fields.length fc]) (by simp [results, Tryd.results30, go_sem, d0, d1, d2, d3, d4, d5]) rfl ?_
          obtain ⟨q1, q2, q3⟩ := dsub_end (x := ⟨true, l, c⟩) X9.out.2.1 (Nat.le_refl _) (B := M + 1) (by omega) I9.out P9.out Q9.out F9.out X9.out.2.2.2.1 X9.out.2.2.2.2 (by omega)
          exact ⟨[.bool true, (.slice sa l.length sc), .int .i64 c.kind, .slice pa c.params.length pc, .slice ra c.results.length rc, .slice fa c.fields.length fc], _, _, rfl, q1, q2, q3, TE.out⟩
theorem dsub_any {w : World} {b : Nat} {s : ByteArray} {st : Except Nat Nat} (h : ST w b s st) (hs : s.size ≤ 65536) :
    Calls Tryd.prog 30 #[.pointer (some ⟨b, 0, none⟩)] w (AnsE b s w st) := by
  cases st with
  | error e => exact dsub_comp h hs rfl (fun c st' ht => ht)
  | ok p =>
    by_cases h1 : tk s p = WSUB
    · exact dsub_sub h hs h1
    · refine dsub_comp h hs (isB_no h1) (fun c st' ht => map_tied (u := fun c => (⟨true, [], c⟩ : SB)) ?_ ht)
      unfold subS
      rw [if_neg h1]
end Go.Proofs.YtmcljnohdknpoaaDoor
