/-
  The document's Parse: its walk, and the tie to the program's; no statement is proved here.
-/
import Derived.Test.YtmcljnohdknpoaaDoorDPar
namespace Go.Proofs.YtmcljnohdknpoaaDoor
open Go.RowKit
set_option linter.unusedVariables false
set_option linter.unusedSimpArgs false
set_option linter.constructorNameAsVariable false

def valV (s : ByteArray) : Except Nat Nat → VT
  | .ok p => if tk s p = LP then refV s (nx s p) else elseV s (.ok p)
  | .error f => elseV s (.error f)
def valT (s : ByteArray) : Except Nat Nat → Except Nat Nat
  | .ok p => if tk s p = LP then refT s (nx s p) else elseT s (.ok p)
  | .error f => .error f
theorem else_err (s : ByteArray) (f : Nat) : elseT s (.error f) = .error f := by
  unfold elseT
  have : numIdx (tokS s (.error f)) = none := by
    show numIdx E0 = none
    decide +kernel
  rw [this]
  rfl
theorem dval_any {w : World} {b : Nat} {s : ByteArray} {st : Except Nat Nat} (hg : ST w b s st) (hs : s.size ≤ 65536) :
    Calls Tryd.prog 23 #[.pointer (some ⟨b, 0, none⟩)] w fun en w' => en = .returned (valV s st).v ∧ Turn [b] w w' ∧ ST w' b s (valT s st) := by
  cases st with
  | ok p =>
    by_cases hp : tk s p = LP
    · have h1 : valV s (.ok p) = refV s (nx s p) := by unfold valV; simp only [if_pos hp]
      have h2 : valT s (.ok p) = refT s (nx s p) := by unfold valT; simp only [if_pos hp]
      rw [h1, h2]
      exact dval_ref hg hs hp
    · have h1 : valV s (.ok p) = elseV s (.ok p) := by unfold valV; simp only [if_neg hp]
      have h2 : valT s (.ok p) = elseT s (.ok p) := by unfold valT; simp only [if_neg hp]
      rw [h1, h2]
      have hn : ¬ (tk s p = LP ∧ LP ≠ E0) := fun h => hp h.1
      exact dval_else hg hs (by unfold isB; simp only [decide_eq_false hn]) (by unfold isS; simp only [if_neg hn])
  | error f =>
    have h2 : valT s (.error f) = elseT s (.error f) := by rw [else_err]; rfl
    rw [h2]
    exact dval_else hg hs rfl rfl
def doneT (s : ByteArray) : Except Nat Nat → Except Nat Nat
  | .ok p => if p < s.size then .error p else .ok p
  | .error f => .error f
set_option maxRecDepth 100000 in
theorem ddone_any {w : World} {b : Nat} {s : ByteArray} {st : Except Nat Nat} (hg : ST w b s st) (hs : s.size ≤ 65536) :
    Calls Tryd.prog 24 #[.pointer (some ⟨b, 0, none⟩)] w fun en w' => en = .returned (.tuple #[]) ∧ Turn [b] w w' ∧ EX w' b s (doneT s st) := by
  have hb : b < w.heap.size := hg.lt
  have C : Calls Tryd.prog 44 #[.pointer (some ⟨b, 0, none⟩)] w fun en w' => en = .returned (.tuple #[]) ∧ Turn [b] w w' ∧ EX w' b s st := by
    cases st with
    | ok p =>
      obtain ⟨q, h1, h2, rfl⟩ := hg
      refine (dskip_good b s q w h1 h2 hs).mono ?_
      rintro en w' ⟨rfl, t, h'⟩
      exact ⟨rfl, t, h', At.skp h2⟩
    | error f =>
      refine (dskip_bad b s f w hg).mono ?_
      rintro en w' ⟨rfl, n, rfl⟩
      exact ⟨rfl, (Turn.refl _ _).drewN n, hg⟩
  clear hg
  go_enter Tryd.func24, Tryd.ntmps24
  go_wp2_with fail
  refine C.mono ?_
  rintro en w1 ⟨rfl, t1, s1⟩
  have T1 : Hid (Turn [b] w w1) := t1
  have S1 : Hid (EX w1 b s st) := s1
  have o1 := s1.obj
  have O1 : Hid (w1.heap[b]? = some (rdg s (plc st) (isbad st))) := o1
  have c0 : w1.cell? ⟨b, 0, none⟩ = some (.string s) := by rw [cell_of o1]; rfl
  have c1 : w1.cell? ⟨b, 1, none⟩ = some (.int .i64 (plc st : Int)) := by rw [cell_of o1]; rfl
  have c2 := cell2_of o1
  have z2 := free_of o1 2
  clear C t1 s1 o1
  by_cases hlt : plc st < s.size
  · have hd : decide (plc st < s.size) = true := by simpa using hlt
    have hT : doneT s st = .error (plc st) := by
      cases st with
      | ok p => unfold doneT; simp only [plc] at hlt ⊢; rw [if_pos hlt]
      | error f => rfl
    have HT : Hid (doneT s st = .error (plc st)) := hT
    clear hT hlt
    generalize plc st = p at *
    generalize isbad st = bad at *
    go_wp2_with fail
    go_quiet (fail)
    go_wp2_with fail
    go_end0
    refine ⟨rfl, (T1.out.drewN _).set (p := ⟨b, 2, none⟩) (Or.inl (by simp)) _, ?_⟩
    rw [HT.out]
    exact rdg_set2 (rdr_drewN O1.out _) true
  · have hd : decide (plc st < s.size) = false := by simp; omega
    have hT : doneT s st = st := by
      cases st with
      | ok p => unfold doneT; simp only [plc] at hlt ⊢; rw [if_neg hlt]
      | error f => rfl
    have HT : Hid (doneT s st = st) := hT
    clear hT hlt
    generalize plc st = p at *
    generalize isbad st = bad at *
    go_wp2_with fail
    go_quiet (fail)
    go_wp2_with fail
    go_end0
    refine ⟨rfl, T1.out.drewN _, ?_⟩
    rw [HT.out]
    exact S1.out
def dparseS (s : ByteArray) : VT × Nat × Nat := match doneT s (valT s (.ok (skp s 0))) with
  | .error f => (⟨0, false, 0⟩, f, 4)
  | .ok _ => (valV s (.ok (skp s 0)), 0, 0)
def dparseA (s : ByteArray) : VT × Nat × Nat := if 65536 < s.size then (⟨0, false, 0⟩, 0, 2) else dparseS s
set_option maxRecDepth 100000 in
set_option maxHeartbeats 1000000 in
theorem dparse_any (s : ByteArray) (w : World) (hm : s.size ≤ 140737488355328) :
    Calls Tryd.prog 7 #[.string s] w fun en w' => en = .returned (pv (dparseA s)) ∧ Grew w w' := by
  by_cases hl : 65536 < s.size
  · have hA : dparseA s = (⟨0, false, 0⟩, 0, 2) := by unfold dparseA; rw [if_pos hl]
    rw [hA]
    have hd : decide ((65536 : Int) < (s.size : Int)) = true := by simp; omega
    clear hA
    go_enter Tryd.func7, Tryd.ntmps7
    go_wp2_with fail
    refine bodyPost_ret (v := .tuple #[vt 0 false 0, .int .i64 0, .int .i64 2]) (by simp [results, Tryd.results7, go_sem, vt]) rfl ?_
    exact ⟨rfl, by first | exact (Grew.refl w).alloc _ | exact (((((Grew.refl w).alloc _).set (p := ⟨w.heap.size, 0, none⟩) (by simp) _).set (p := ⟨w.heap.size, 1, none⟩) (by simp) _).set (p := ⟨w.heap.size, 2, none⟩) (by simp) _)⟩
  · have hA : dparseA s = dparseS s := by unfold dparseA; rw [if_neg hl]
    rw [hA]
    have hs : s.size ≤ 65536 := by omega
    have hd : decide ((65536 : Int) < (s.size : Int)) = false := by simp; omega
    clear hA hl
    obtain ⟨R, hR⟩ : ∃ R, R = dparseS s := ⟨_, rfl⟩
    rw [← hR]
    have HR : Hid (R = dparseS s) := hR
    clear hR
    unfold dparseS at HR
    go_enter Tryd.func7, Tryd.ntmps7
    go_wp2_with fail
    generalize hW : ((w.alloc (.cells #[.int .i64 0, .bool false, .int .i64 0] 23)).alloc (.cells #[.string s, .int .i64 0, .bool false] 50)) = W
    have G0 : Hid (Grew w W) := by rw [← hW]; exact ((Grew.refl w).alloc _).alloc _
    have N0 : Hid (W.heap[w.heap.size]? = some (.cells #[.int .i64 0, .bool false, .int .i64 0] 23 (0, 0))) := by rw [← hW]; exact heap_alloc (heap_alloc_last _ _) _
    have D0 : W.heap[w.heap.size + 1]? = some (rdg s 0 false) := by
      have h1 : (w.alloc (.cells #[.int .i64 0, .bool false, .int .i64 0] 23)).heap.size = w.heap.size + 1 := by simp
      rw [← hW, ← h1]
      exact heap_alloc_last _ _
    have V := dval_any (st := .ok (skp s 0)) ⟨0, D0, Nat.zero_le _, rfl⟩ hs
    clear hW D0
    refine V.mono ?_
    rintro en w1 ⟨rfl, t1, s1⟩
    have T1 : Hid (Turn [w.heap.size + 1] W w1) := t1
    have S1 : Hid (ST w1 (w.heap.size + 1) s (valT s (.ok (skp s 0)))) := s1
    have hb1 : w.heap.size + 1 < w1.heap.size := s1.lt
    clear V t1 s1
    obtain ⟨st1, hst1⟩ : ∃ st, st = valT s (.ok (skp s 0)) := ⟨_, rfl⟩
    rw [← hst1] at HR S1
    clear hst1
    obtain ⟨⟨n, nul, h⟩, hv⟩ : ∃ v, v = valV s (.ok (skp s 0)) := ⟨_, rfl⟩
    rw [← hv] at HR ⊢
    clear hv
    unfold VT.v vt
    go_wp2_with fail
    generalize hw2 : w1.alloc (.cells #[.int .i64 n, .bool nul, .int .i64 h] 23) = w2
    have g2 : Grew w1 w2 := by rw [← hw2]; exact (Grew.refl w1).alloc _
    have M2 : Hid (w2.heap[w1.heap.size]? = some (.cells #[.int .i64 n, .bool nul, .int .i64 h] 23 (0, 0))) := by rw [← hw2]; exact heap_alloc_last _ _
    have T2 : Hid (Turn [w.heap.size + 1] W w2) := T1.out.trans (g2.turn _)
    have D := ddone_any (S1.out.grew g2) hs
    clear hw2 g2 T1 S1
    refine D.mono ?_
    rintro en w3 ⟨rfl, t3, s3⟩
    have T3 : Hid (Turn [w.heap.size + 1] W w3) := T2.out.trans t3
    have m3 := t3.other M2.out (by simp; omega)
    have n3 := T3.out.other N0.out (by simp)
    have G3 : Hid (Grew w w3) := T3.out.grew G0.out (by intro x hx; simp at hx; omega)
    have o3 := s3.obj
    have e1 : w3.cell? ⟨w.heap.size + 1, 1, none⟩ = some (.int .i64 (plc (doneT s st1) : Int)) := by rw [cell_of o3]; rfl
    have e2 := cell2_of o3
    have m0 := cell_of m3 0
    have m1 := cell_of m3 1
    have m2 := cell_of m3 2
    have c0 := cell_of n3 0
    have c1 := cell_of n3 1
    have c2 := cell_of n3 2
    have z0 := free_of n3 0
    have z1 := free_of n3 1
    have z2 := free_of n3 2
    simp at m0 m1 m2 c0 c1 c2
    clear D t3 s3 o3 m3 n3 T2 M2
    cases hst : doneT s st1 with
    | ok p =>
      rw [hst] at e1 e2 HR
      have HR' : Hid (R = (⟨n, nul, h⟩, 0, 0)) := HR.out
      simp only [plc, isbad] at e1 e2
      clear hst HR
      go_wp2_with fail
      refine bodyPost_ret (v := .tuple #[vt n nul h, .int .i64 0, .int .i64 0]) (by simp [results, Tryd.results7, go_sem, vt, c0, c1, c2]) rfl ?_
      rw [HR'.out]
      exact ⟨rfl, ((G3.out.set (p := ⟨w.heap.size, 0, none⟩) (by simp) _).set (p := ⟨w.heap.size, 1, none⟩) (by simp) _).set (p := ⟨w.heap.size, 2, none⟩) (by simp) _⟩
    | error f =>
      rw [hst] at e1 e2 HR
      have HR' : Hid (R = (⟨0, false, 0⟩, f, 4)) := HR.out
      simp only [plc, isbad] at e1 e2
      clear hst HR
      go_wp2_with fail
      go_region
      all_goals
        go_wp2_with fail
        refine bodyPost_ret (v := .tuple #[vt 0 false 0, .int .i64 f, .int .i64 4]) (by simp [results, Tryd.results7, go_sem, vt, c0, c1, c2]) rfl ?_
        rw [HR'.out]
        refine ⟨rfl, ?_⟩
        first
          | exact (((G3.out.set (p := ⟨w.heap.size, 0, none⟩) (by simp) _).set (p := ⟨w.heap.size, 1, none⟩) (by simp) _).set (p := ⟨w.heap.size, 2, none⟩) (by simp) _).drewN _
          | exact ((((G3.out.drewN _).set (p := ⟨w.heap.size, 0, none⟩) (by simp) _).set (p := ⟨w.heap.size, 1, none⟩) (by simp) _).set (p := ⟨w.heap.size, 2, none⟩) (by simp) _)
          | exact (((G3.out.set (p := ⟨w.heap.size, 0, none⟩) (by simp) _).set (p := ⟨w.heap.size, 1, none⟩) (by simp) _).set (p := ⟨w.heap.size, 2, none⟩) (by simp) _).drew
theorem heapS_of (s : ByteArray) (p : Nat) : (∃ h, ∃ q, heapS s p = .ok (h, q) ∧ heapV s (.ok p) = h ∧ heapT s (.ok p) = .ok q) ∨ (∃ f, heapS s p = .error f ∧ heapT s (.ok p) = .error f) := by
  cases hh : heapOf (tk s p) with
  | some h =>
    left
    refine ⟨h, nx s p, ?_, ?_, ?_⟩
    · unfold heapS; simp only [hh]
    · unfold heapV; simp only [hh]; rfl
    · unfold heapT; simp only [hh]
  | none =>
    right
    refine ⟨p, ?_, ?_⟩
    · unfold heapS; simp only [hh]
    · unfold heapT; simp only [hh]
theorem must_ok {s x : ByteArray} {p : Nat} (h : tk s p = x) (h0 : x ≠ E0) : mustS s x (.ok p) = .ok (nx s p) := by unfold mustS; simp only [if_pos (And.intro h h0)]
theorem must_er {s x : ByteArray} {p : Nat} (h : tk s p ≠ x) : mustS s x (.ok p) = .error p := by unfold mustS; simp only [if_neg (fun hh : tk s p = x ∧ x ≠ E0 => h hh.1)]
theorem must_st (s x : ByteArray) (f : Nat) : mustS s x (.error f) = .error f := rfl
theorem wnull_ne : WNULL ≠ E0 := by decide
theorem isB_null (s : ByteArray) (p : Nat) : isB s WNULL (.ok p) = decide (tk s p = WNULL) := by
  show decide (tk s p = WNULL ∧ WNULL ≠ E0) = _
  by_cases h : tk s p = WNULL
  · rw [decide_eq_true h, decide_eq_true (And.intro h wnull_ne)]
  · rw [decide_eq_false h, decide_eq_false (fun hh : tk s p = WNULL ∧ WNULL ≠ E0 => h hh.1)]
theorem isS_null (s : ByteArray) (p : Nat) : isS s WNULL (.ok p) = .ok (nullS s p) := by
  show (if tk s p = WNULL ∧ WNULL ≠ E0 then Except.ok (nx s p) else Except.ok p) = _
  unfold nullS
  by_cases h : tk s p = WNULL
  · rw [if_pos h, if_pos (And.intro h wnull_ne)]
  · rw [if_neg h, if_neg (fun hh : tk s p = WNULL ∧ WNULL ≠ E0 => h hh.1)]
/- Both readers read a reference alike. -/
theorem ref_tie (s : ByteArray) (p : Nat) : match refS s p with
    | .ok (v, q) => refV s p = v ∧ refT s p = .ok q
    | .error f => refT s p = .error f := by
  unfold refS refV refT
  by_cases h1 : tk s p = WREF
  · rw [if_pos h1, must_ok h1 (by decide)]
    have hn : isS s WNULL (.ok (nx s p)) = .ok (nullS s (nx s p)) := isS_null s _
    have hb : isB s WNULL (.ok (nx s p)) = decide (tk s (nx s p) = WNULL) := isB_null s _
    rw [hn, hb]
    have hrel := heapS_of s (nullS s (nx s p))
    generalize heapS s (nullS s (nx s p)) = hS at *
    generalize heapV s (.ok (nullS s (nx s p))) = hV at *
    generalize heapT s (.ok (nullS s (nx s p))) = hT at *
    generalize decide (tk s (nx s p) = WNULL) = nul at *
    clear hn hb h1
    rcases hrel with ⟨h, q, rfl, rfl, rfl⟩ | ⟨f, rfl, rfl⟩
    · by_cases h3 : tk s q = RP
      · simp only [if_pos h3]
        exact ⟨trivial, must_ok h3 (by decide)⟩
      · simp only [if_neg h3]
        exact must_er h3
    · exact must_st s RP f
  · rw [if_neg h1, must_er h1]
    rfl
theorem val_tie (s : ByteArray) (p : Nat) : match valS s p with
    | .ok (v, q) => valV s (.ok p) = v ∧ valT s (.ok p) = .ok q
    | .error f => valT s (.ok p) = .error f := by
  unfold valS valV valT
  by_cases h1 : tk s p = LP
  · simp only [if_pos h1]
    exact ref_tie s (nx s p)
  · simp only [if_neg h1]
    unfold numS elseV elseT
    cases hn : numIdx (tk s p) with
    | some m =>
      have hn' : numIdx (tokS s (.ok p)) = some m := hn
      simp only [hn']
      exact ⟨trivial, must_ok rfl (fun h => by
        obtain ⟨_, h0, hx, _⟩ := numIdx_some hn
        exact h0 (hx.trans h))⟩
    | none =>
      have hn' : numIdx (tokS s (.ok p)) = none := hn
      simp only [hn']
      rfl
theorem heapS_at {s : ByteArray} {p q : Nat} {h : Int} (ha : At s p) (hh : heapS s p = .ok (h, q)) : At s q := by
  unfold heapS at hh
  split at hh
  · cases hh; exact ha.nx
  · cases hh
theorem refS_at {s : ByteArray} {p q : Nat} {v : VT} (ha : At s p) (hh : refS s p = .ok (v, q)) : At s q := by
  unfold refS at hh
  split at hh
  · split at hh
    · cases hh
    · rename_i h q' he
      split at hh
      · cases hh
        refine (heapS_at ?_ he).nx
        unfold nullS
        split
        · exact ha.nx.nx
        · exact ha.nx
      · cases hh
  · cases hh
theorem valS_at {s : ByteArray} {p q : Nat} {v : VT} (ha : At s p) (hh : valS s p = .ok (v, q)) : At s q := by
  unfold valS at hh
  split at hh
  · exact refS_at ha.nx hh
  · unfold numS at hh
    split at hh
    · cases hh; exact ha.nx
    · cases hh
theorem done_tie {s : ByteArray} {q : Nat} (ha : At s q) : doneT s (.ok q) = if tk s q = ⟨#[]⟩ then .ok q else .error q := by
  unfold doneT
  by_cases h : tk s q = ⟨#[]⟩
  · have h0 : (tk s q).size = 0 := by rw [h]; rfl
    have := ha.empty.1 h0
    simp only [if_pos h]
    rw [if_neg (by omega)]
  · have h0 : (tk s q).size ≠ 0 := fun h0 => h (ByteArray.ext (Array.eq_empty_of_size_eq_zero h0))
    have : q ≠ s.size := fun hq => h0 (ha.empty.2 hq)
    have := ha.1
    simp only [if_neg h]
    rw [if_pos (by omega)]
theorem parse_tie (s : ByteArray) : dparseA s = parseA s := by
  unfold dparseA parseA
  split
  · rfl
  · unfold dparseS parseS
    have ht := val_tie s (skp s 0)
    cases hv : valS s (skp s 0) with
    | error f =>
      rw [hv] at ht
      simp only at ht
      rw [ht]
      rfl
    | ok x =>
      obtain ⟨v, q⟩ := x
      rw [hv] at ht
      simp only at ht
      rw [ht.2, ht.1, done_tie (valS_at (At.skp (Nat.zero_le _)) hv)]
      by_cases h : tk s q = ⟨#[]⟩
      · simp only [if_pos h]
      · simp only [if_neg h]
end Go.Proofs.YtmcljnohdknpoaaDoor
