/-
  Imports and exports written by the program; no statement is proved here.
-/
import Derived.Test.YtchehejjdinifaaGreatDoorE8e
namespace Go.Proofs.YtchehejjdinifaaGreatDoor
open Go.RowKit
set_option linter.unusedVariables false
set_option linter.unusedSimpArgs false
set_option linter.constructorNameAsVariable false

def impW (m n : List Int) (X : Except Nat (List Int)) : Except Nat (List Int) := thenW (nameW m) (thenW (nameW n) X)
def expW (n : List Int) (k a : Int) : Except Nat (List Int) := thenW (nameW n) (thenW (kindW k) (.ok (PU a)))
theorem nameW_len {s m : List Int} (h : nameW s = .ok m) : m.length ≤ 65547 := by
  unfold nameW at h
  split at h
  · injection h with h
    subst h
    exact nb_len (by assumption)
  · cases h
set_option maxRecDepth 100000 in
set_option maxHeartbeats 1000000 in
theorem import2 {b B : Nat} {w : World} {l : List Int} (h : WS b B w l) (m n : List Int) (es : List Value) (X : Except Nat (List Int)) (hB1 : Byt m) (hs1 : m.length ≤ 140737488351232) (hB2 : Byt n) (hs2 : n.length ≤ 140737488351232) (hes : (Tryz.prog.info? 35).map (·.size) = some es.length) (hl : l.length ≤ 17592185000000)
    (hX : ∀ (W : World) (l' : List Int), l'.length ≤ 17592186030000 → WS b B W l' → Calls Tryz.prog 32 #[.pointer (some ⟨b, 0, none⟩), .agg es.toArray] W (W2 b B W l' X)) :
    Calls Tryz.prog 16 #[.pointer (some ⟨b, 0, none⟩), .agg (.string (strOfNums m) :: .string (strOfNums n) :: es).toArray] w (W2 b B w l (impW m n X)) := by
  have C1 : Hid (∀ W : World, WS b B W l → Calls Tryz.prog 31 #[.pointer (some ⟨b, 0, none⟩), .string (strOfNums m)] W (W2 b B W l (nameW m))) := fun W u => name2 u m hB1 hs1 (by omega)
  have C2 : Hid (∀ (W : World) (r : List Int), r.length ≤ 65547 → WS b B W (l ++ r) → Calls Tryz.prog 31 #[.pointer (some ⟨b, 0, none⟩), .string (strOfNums n)] W (W2 b B W (l ++ r) (nameW n))) := fun W r hr u => name2 u n hB2 hs2 (by simp; omega)
  have CX : Hid (∀ (W : World) (l' : List Int), l'.length ≤ 17592186030000 → WS b B W l' → Calls Tryz.prog 32 #[.pointer (some ⟨b, 0, none⟩), .agg es.toArray] W (W2 b B W l' X)) := hX
  have L1 : Hid (∀ r, nameW m = .ok r → r.length ≤ 65547) := fun r hr => nameW_len hr
  have L2 : Hid (∀ r, nameW n = .ok r → r.length ≤ 65547) := fun r hr => nameW_len hr
  obtain ⟨is, his⟩ : ∃ is : Array Value, is = (.string (strOfNums m) :: .string (strOfNums n) :: es).toArray := ⟨_, rfl⟩
  rw [← his]
  have e0 : is[0]? = some (.string (strOfNums m)) := by rw [his]; rfl
  have e1 : is[1]? = some (.string (strOfNums n)) := by rw [his]; rfl
  have e2 : Hid (∀ (j : Nat) (v : Value), es[j]? = some v → is[2 + j]? = some v) := fun j v hj => by rw [his, show 2 + j = j + 1 + 1 by omega]; simpa using hj
  unfold impW
  generalize strOfNums m = s1 at *
  generalize strOfNums n = s2 at *
  generalize nameW m = R1 at *
  generalize nameW n = R2 at *
  have S0 : Hid (WS b B (w.alloc (.cells is 37)) l) := h.grew ((Grew.refl w).alloc _)
  have T0 : Hid (WT b B w (w.alloc (.cells is 37))) := WT.of_grew ((Grew.refl w).alloc _)
  have N0 : Hid ((w.alloc (.cells is 37)).heap[w.heap.size]? = some (.cells is 37 (0, 0))) := heap_alloc_last _ _
  have c0 := (cell_of N0.out 0).trans e0
  have hb : b < w.heap.size := h.blt
  clear h his hX
  cases R1 with
  | error e =>
    go_enter Tryz.func16, Tryz.ntmps16
    go_wp2_with fail
    refine (W2.erc (C1.out _ S0.out) rfl).mono ?_
    rintro en w1 ⟨⟨p, rfl⟩, t1⟩
    have T1 : Hid (WT b B w w1) := T0.out.trans t1
    clear t1
    go_wp2_with fail
    exact ⟨rfl, ⟨p, rfl⟩, T1.out⟩
  | ok r1 =>
    have hr1 := L1.out r1 rfl
    cases R2 with
    | error e =>
      go_enter Tryz.func16, Tryz.ntmps16
      go_wp2_with fail
      refine (W2.okc (C1.out _ S0.out) rfl).mono ?_
      rintro en w1 ⟨rfl, t1, s1⟩
      have T1 : Hid (WT b B w w1) := T0.out.trans t1
      have S1 : Hid (WS b B w1 (l ++ r1)) := s1
      have N1 : Hid (w1.heap[w.heap.size]? = some (.cells is 37 (0, 0))) := t1.other N0.out (by omega) (NoT.of N0.out (by decide))
      have c1 := (cell_of N1.out 1).trans e1
      clear t1 s1 T0 S0 N0 c0
      go_wp2_with fail
      refine (W2.erc (C2.out _ r1 hr1 S1.out) rfl).mono ?_
      rintro en w2 ⟨⟨p, rfl⟩, t2⟩
      have T2 : Hid (WT b B w w2) := T1.out.trans t2
      clear t2
      go_wp2_with fail
      exact ⟨rfl, ⟨p, rfl⟩, T2.out⟩
    | ok r2 =>
      have hr2 := L2.out r2 rfl
      cases X with
      | error e =>
        go_enter Tryz.func16, Tryz.ntmps16
        go_wp2_with fail
        refine (W2.okc (C1.out _ S0.out) rfl).mono ?_
        rintro en w1 ⟨rfl, t1, s1⟩
        have T1 : Hid (WT b B w w1) := T0.out.trans t1
        have S1 : Hid (WS b B w1 (l ++ r1)) := s1
        have N1 : Hid (w1.heap[w.heap.size]? = some (.cells is 37 (0, 0))) := t1.other N0.out (by omega) (NoT.of N0.out (by decide))
        have c1 := (cell_of N1.out 1).trans e1
        clear t1 s1 T0 S0 N0 c0
        go_wp2_with fail
        refine (W2.okc (C2.out _ r1 hr1 S1.out) rfl).mono ?_
        rintro en w2 ⟨rfl, t2, s2⟩
        have T2 : Hid (WT b B w w2) := T1.out.trans t2
        have S2 : Hid (WS b B w2 ((l ++ r1) ++ r2)) := s2
        have N2 : Hid (w2.heap[w.heap.size]? = some (.cells is 37 (0, 0))) := t2.other N1.out (by omega) (NoT.of N1.out (by decide))
        clear t2 s2 T1 S1 N1 c1
        go_wp2_with (first
          | (refine at_load 35 rfl ?_; refine wpList_load_seg rfl 35 _ rfl w.heap.size 2 rfl es _ (seg_of N2.out e2.out) Tryz.underlying35 rfl hes ?_)
          | fail)
        refine (W2.erc (CX.out _ _ (by simp; omega) S2.out) rfl).mono ?_
        rintro en w3 ⟨⟨p, rfl⟩, t3⟩
        have T3 : Hid (WT b B w w3) := T2.out.trans t3
        clear t3
        go_wp2_with fail
        exact ⟨rfl, ⟨p, rfl⟩, T3.out⟩
      | ok r3 =>
        go_enter Tryz.func16, Tryz.ntmps16
        go_wp2_with fail
        refine (W2.okc (C1.out _ S0.out) rfl).mono ?_
        rintro en w1 ⟨rfl, t1, s1⟩
        have T1 : Hid (WT b B w w1) := T0.out.trans t1
        have S1 : Hid (WS b B w1 (l ++ r1)) := s1
        have N1 : Hid (w1.heap[w.heap.size]? = some (.cells is 37 (0, 0))) := t1.other N0.out (by omega) (NoT.of N0.out (by decide))
        have c1 := (cell_of N1.out 1).trans e1
        clear t1 s1 T0 S0 N0 c0
        go_wp2_with fail
        refine (W2.okc (C2.out _ r1 hr1 S1.out) rfl).mono ?_
        rintro en w2 ⟨rfl, t2, s2⟩
        have T2 : Hid (WT b B w w2) := T1.out.trans t2
        have S2 : Hid (WS b B w2 ((l ++ r1) ++ r2)) := s2
        have N2 : Hid (w2.heap[w.heap.size]? = some (.cells is 37 (0, 0))) := t2.other N1.out (by omega) (NoT.of N1.out (by decide))
        clear t2 s2 T1 S1 N1 c1
        go_wp2_with (first
          | (refine at_load 35 rfl ?_; refine wpList_load_seg rfl 35 _ rfl w.heap.size 2 rfl es _ (seg_of N2.out e2.out) Tryz.underlying35 rfl hes ?_)
          | fail)
        refine (W2.okc (CX.out _ _ (by simp; omega) S2.out) rfl).mono ?_
        rintro en w3 ⟨rfl, t3, s3⟩
        have T3 : Hid (WT b B w w3) := T2.out.trans t3
        have S3 : Hid (WS b B w3 (((l ++ r1) ++ r2) ++ r3)) := s3
        clear t3 s3
        go_wp2_with fail
        go_end0
        exact ⟨rfl, T3.out, by have := S3.out; simpa [List.append_assoc] using this⟩
end Go.Proofs.YtchehejjdinifaaGreatDoor
