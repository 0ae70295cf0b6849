/-
  The writer: the walks of index, signedIndex, flag, and of heap types, references, value types, fields; no statement is proved here.
-/
import Derived.Test.YtfnfbioenngjoaaDoorWr2
namespace Go.Proofs.YtfnfbioenngjoaaDoor
open Go.RowKit
set_option linter.unusedVariables false
set_option linter.unusedSimpArgs false
set_option linter.constructorNameAsVariable false

def thenW (a b : Except Nat (List Int)) : Except Nat (List Int) := match a with
  | .error e => .error e
  | .ok m => match b with
    | .error e => .error e
    | .ok n => .ok (m ++ n)
theorem thenW_er {a b : Except Nat (List Int)} {e : Nat} (h : a = .error e) : thenW a b = .error e := by subst h; rfl
theorem thenW_ee {a b : Except Nat (List Int)} {m : List Int} {e : Nat} (h : a = .ok m) (h2 : b = .error e) : thenW a b = .error e := by subst h; subst h2; rfl
theorem thenW_ok {a b : Except Nat (List Int)} {m n : List Int} (h : a = .ok m) (h2 : b = .ok n) : thenW a b = .ok (m ++ n) := by subst h; subst h2; rfl
def fitT (n : Int) : Prop := 0 ≤ n ∧ n ≤ 2147483647
def uidxW (n : Int) : Except Nat (List Int) := if 0 ≤ n ∧ n ≤ 2147483647 then .ok (PU n) else .error 4
def sidxW (n : Int) : Except Nat (List Int) := if 0 ≤ n ∧ n ≤ 2147483647 then .ok (PS n) else .error 4
def heapW (h : Int) : Except Nat (List Int) := if 0 ≤ h then sidxW h else codeR 4 h
def refW (t : VT) : Except Nat (List Int) := if t.num = 5 then thenW (if t.null = false then codeR 5 0 else if 0 ≤ t.heap then codeR 5 1 else .ok []) (heapW t.heap) else .error 4
def valW (t : VT) : Except Nat (List Int) := if t.num = 5 then refW t else plainW 1 t
def storW (t : VT) : Except Nat (List Int) := if t.num = 6 ∨ t.num = 7 then plainW 3 t else valW t
def flagB (x : Bool) : List Int := [if x then 1 else 0]
def fieldW (f : FT) : Except Nat (List Int) := thenW (storW f.ty) (.ok (flagB f.mut_))
theorem code_50 : codeR 5 0 = .ok [100] := rfl
theorem code_51 : codeR 5 1 = .ok [99] := rfl
theorem putS_len : ∀ (f : Nat) (n : Int), (putS f n).length ≤ f + 1
  | 0, n => by simp [putS]
  | f + 1, n => by
    rw [putS]
    split
    · have := putS_len f (n / 128)
      simp
      omega
    · simp
theorem PS_len (n : Int) : (PS n).length ≤ 11 := putS_len 10 n
set_option maxRecDepth 100000 in
theorem needType_yes {b B : Nat} {w : World} {l : List Int} (h : WS b B w l) (n : Int) (hn : 0 ≤ n ∧ n ≤ 2147483647) :
    Calls Tryd.prog 65 #[.pointer (some ⟨b, 0, none⟩), .int .i64 n] w fun en w' => en = .returned (.tuple #[]) ∧ w' = w := by
  have d0 : decide (0 ≤ n) = true := by simp; omega
  have d1 : decide (n ≤ 2147483647) = true := by simp; omega
  have C := need_yes h
  clear h
  go_enter Tryd.func65, Tryd.ntmps65
  go_wp2_with fail
  refine C.mono ?_
  rintro en w1 ⟨rfl, h1⟩
  obtain rfl := h1.symm
  go_wp2_with fail
  go_end0
  exact ⟨rfl, rfl⟩
set_option maxRecDepth 100000 in
theorem needType_no {b B : Nat} {w : World} {l : List Int} (h : WS b B w l) (n : Int) (hn : ¬ (0 ≤ n ∧ n ≤ 2147483647)) :
    Calls Tryd.prog 65 #[.pointer (some ⟨b, 0, none⟩), .int .i64 n] w fun en w' => (∃ p : Int, en = .panicked (flt p 4)) ∧ w' = w := by
  have C := need_no h
  clear h
  by_cases h0 : 0 ≤ n
  · have d0 : decide (0 ≤ n) = true := by simpa using h0
    have d1 : decide (n ≤ 2147483647) = false := by simp; omega
    go_enter Tryd.func65, Tryd.ntmps65
    go_wp2_with fail
    refine C.mono ?_
    rintro en w1 ⟨⟨p, rfl⟩, h1⟩
    obtain rfl := h1.symm
    go_wp2_with fail
    exact ⟨rfl, ⟨p, rfl⟩, rfl⟩
  · have d0 : decide (0 ≤ n) = false := by simpa using h0
    go_enter Tryd.func65, Tryd.ntmps65
    go_wp2_with fail
    refine C.mono ?_
    rintro en w1 ⟨⟨p, rfl⟩, h1⟩
    obtain rfl := h1.symm
    go_wp2_with fail
    exact ⟨rfl, ⟨p, rfl⟩, rfl⟩
set_option maxRecDepth 100000 in
set_option maxHeartbeats 1000000 in
theorem index2 {b B : Nat} {w : World} {l : List Int} (h : WS b B w l) (n : Int) (hl : l.length ≤ 17592186044416)  :
    Calls Tryd.prog 54 #[.pointer (some ⟨b, 0, none⟩), .int .i64 n] w (W2 b B w l (uidxW n)) := by
  have H : Hid (WS b B w l) := h
  have hb : b < w.heap.size := h.blt
  clear h
  unfold uidxW
  by_cases hn : 0 ≤ n ∧ n ≤ 2147483647
  · rw [if_pos hn]
    have cv : IntKind.u64.wrap n = n := by rw [IntKind.wrap_u64]; omega
    have S0 : Hid (WS b B w l) := H.out
    have T0 : Hid (WT b B w w) := WT.refl _ _ _
    go_enter Tryd.func54, Tryd.ntmps54
    go_wp2_with fail
    refine (needType_yes S0.out n hn).mono ?_
    rintro en w9 ⟨rfl, h9⟩
    obtain rfl := h9.symm
    clear h9
    go_wp2_with fail
    refine (W2.okc (unsigned2 S0.out n hl (by omega) (by omega)) rfl).mono ?_
    rintro en w1 ⟨rfl, t1, s1⟩
    have T1 : Hid (WT b B w w1) := T0.out.trans t1
    have S1 : Hid (WS b B w1 (l ++ PU n)) := s1
    clear t1 s1 T0 S0
    go_wp2_with fail
    go_end0
    exact ⟨rfl, T1.out, by have := S1.out; simpa [List.append_assoc] using this⟩
  · rw [if_neg hn]
    have S0 : Hid (WS b B w l) := H.out
    have T0 : Hid (WT b B w w) := WT.refl _ _ _
    go_enter Tryd.func54, Tryd.ntmps54
    go_wp2_with fail
    refine (needType_no S0.out n hn).mono ?_
    rintro en w9 ⟨⟨p, rfl⟩, h9⟩
    obtain rfl := h9.symm
    go_wp2_with fail
    exact ⟨rfl, ⟨p, rfl⟩, T0.out⟩
set_option maxRecDepth 100000 in
set_option maxHeartbeats 1000000 in
theorem signedIndex2 {b B : Nat} {w : World} {l : List Int} (h : WS b B w l) (n : Int) (hl : l.length ≤ 17592186044416)  :
    Calls Tryd.prog 71 #[.pointer (some ⟨b, 0, none⟩), .int .i64 n] w (W2 b B w l (sidxW n)) := by
  have H : Hid (WS b B w l) := h
  have hb : b < w.heap.size := h.blt
  clear h
  unfold sidxW
  by_cases hn : 0 ≤ n ∧ n ≤ 2147483647
  · rw [if_pos hn]
    have S0 : Hid (WS b B w l) := H.out
    have T0 : Hid (WT b B w w) := WT.refl _ _ _
    go_enter Tryd.func71, Tryd.ntmps71
    go_wp2_with fail
    refine (needType_yes S0.out n hn).mono ?_
    rintro en w9 ⟨rfl, h9⟩
    obtain rfl := h9.symm
    clear h9
    go_wp2_with fail
    refine (putS_any n w (by omega) (by omega)).mono ?_
    rintro en w1 ⟨v1, rfl, hh1⟩
    have g1 : Grew w w1 := ⟨hh1.2.1, hh1.2.2⟩
    have T1 : Hid (WT b B w w1) := WT.of_grew g1
    have S1 : Hid (WS b B w1 l) := S0.out.grew g1
    have R1 : Hid (Reads w1 v1 (PS n)) := hh1.reads
    have hlen := PS_len n
    obtain ⟨va, vc, hv⟩ := hh1.reads.len
    subst hv
    clear hh1 g1 S0 T0
    go_wp2_with fail
    refine (W2.okc (put2 S1.out R1.out (by omega)) rfl).mono ?_
    rintro en w2 ⟨rfl, t2, s2⟩
    have T2 : Hid (WT b B w w2) := T1.out.trans t2
    have S2 : Hid (WS b B w2 (l ++ PS n)) := s2
    clear t2 s2
    go_wp2_with fail
    go_end0
    exact ⟨rfl, T2.out, by have := S2.out; simpa [List.append_assoc] using this⟩
  · rw [if_neg hn]
    have S0 : Hid (WS b B w l) := H.out
    have T0 : Hid (WT b B w w) := WT.refl _ _ _
    go_enter Tryd.func71, Tryd.ntmps71
    go_wp2_with fail
    refine (needType_no S0.out n hn).mono ?_
    rintro en w9 ⟨⟨p, rfl⟩, h9⟩
    obtain rfl := h9.symm
    go_wp2_with fail
    exact ⟨rfl, ⟨p, rfl⟩, T0.out⟩
set_option maxRecDepth 100000 in
set_option maxHeartbeats 1000000 in
theorem flag2 {b B : Nat} {w : World} {l : List Int} (h : WS b B w l) (x : Bool) (hl : l.length ≤ 17592186044416)  :
    Calls Tryd.prog 47 #[.pointer (some ⟨b, 0, none⟩), .bool x] w (W2 b B w l (.ok (flagB x))) := by
  have H : Hid (WS b B w l) := h
  have hb : b < w.heap.size := h.blt
  clear h
  cases x with
  | true =>
    have S0 : Hid (WS b B w l) := H.out
    have T0 : Hid (WT b B w w) := WT.refl _ _ _
    go_enter Tryd.func47, Tryd.ntmps47
    go_wp2_with fail
    refine (W2.okc (put2 (r := [1]) (S0.out.grew ((Grew.refl w).alloc _)) (reads_new _ 1 _) (by simp; omega)) rfl).mono ?_
    rintro en w1 ⟨rfl, t1, s1⟩
    have T1 : Hid (WT b B w w1) := (T0.out.trans (WT.of_grew ((Grew.refl w).alloc _))).trans t1
    have S1 : Hid (WS b B w1 (l ++ [1])) := s1
    clear t1 s1
    go_wp2_with fail
    go_end0
    exact ⟨rfl, T1.out, S1.out⟩
  | false =>
    have S0 : Hid (WS b B w l) := H.out
    have T0 : Hid (WT b B w w) := WT.refl _ _ _
    go_enter Tryd.func47, Tryd.ntmps47
    go_wp2_with fail
    refine (W2.okc (put2 (r := [0]) (S0.out.grew ((Grew.refl w).alloc _)) (reads_new _ 0 _) (by simp; omega)) rfl).mono ?_
    rintro en w1 ⟨rfl, t1, s1⟩
    have T1 : Hid (WT b B w w1) := (T0.out.trans (WT.of_grew ((Grew.refl w).alloc _))).trans t1
    have S1 : Hid (WS b B w1 (l ++ [0])) := s1
    clear t1 s1
    go_wp2_with fail
    go_end0
    exact ⟨rfl, T1.out, S1.out⟩
set_option maxRecDepth 100000 in
set_option maxHeartbeats 1000000 in
theorem heapType2 {b B : Nat} {w : World} {l : List Int} (h : WS b B w l) (n : Int) (hl : l.length ≤ 17592186044416)  :
    Calls Tryd.prog 60 #[.pointer (some ⟨b, 0, none⟩), .int .i64 n] w (W2 b B w l (heapW n)) := by
  have H : Hid (WS b B w l) := h
  have hb : b < w.heap.size := h.blt
  clear h
  unfold heapW
  by_cases hn : 0 ≤ n
  · rw [if_pos hn]
    have d : decide (0 ≤ n) = true := by simpa using hn
    cases hx : sidxW n with
    | error e =>
      have S0 : Hid (WS b B w l) := H.out
      have T0 : Hid (WT b B w w) := WT.refl _ _ _
      go_enter Tryd.func60, Tryd.ntmps60
      go_wp2_with fail
      refine (W2.erc (signedIndex2 S0.out n hl) hx).mono ?_
      rintro en w1 ⟨⟨p, rfl⟩, t1⟩
      have T1 : Hid (WT b B w w1) := T0.out.trans t1
      clear t1
      go_wp2_with fail
      exact ⟨rfl, ⟨p, rfl⟩, T1.out⟩
    | ok m =>
      have S0 : Hid (WS b B w l) := H.out
      have T0 : Hid (WT b B w w) := WT.refl _ _ _
      go_enter Tryd.func60, Tryd.ntmps60
      go_wp2_with fail
      refine (W2.okc (signedIndex2 S0.out n hl) hx).mono ?_
      rintro en w1 ⟨rfl, t1, s1⟩
      have T1 : Hid (WT b B w w1) := T0.out.trans t1
      have S1 : Hid (WS b B w1 (l ++ m)) := s1
      clear t1 s1 T0 S0
      go_wp2_with fail
      go_end0
      exact ⟨rfl, T1.out, by have := S1.out; simpa [List.append_assoc] using this⟩
  · rw [if_neg hn]
    have d : decide (0 ≤ n) = false := by simpa using hn
    cases hx : codeR 4 n with
    | error e =>
      have S0 : Hid (WS b B w l) := H.out
      have T0 : Hid (WT b B w w) := WT.refl _ _ _
      go_enter Tryd.func60, Tryd.ntmps60
      go_wp2_with fail
      refine (W2.erc (putCode2 S0.out 4 n hl) hx).mono ?_
      rintro en w1 ⟨⟨p, rfl⟩, t1⟩
      have T1 : Hid (WT b B w w1) := T0.out.trans t1
      clear t1
      go_wp2_with fail
      exact ⟨rfl, ⟨p, rfl⟩, T1.out⟩
    | ok m =>
      have S0 : Hid (WS b B w l) := H.out
      have T0 : Hid (WT b B w w) := WT.refl _ _ _
      go_enter Tryd.func60, Tryd.ntmps60
      go_wp2_with fail
      refine (W2.okc (putCode2 S0.out 4 n hl) hx).mono ?_
      rintro en w1 ⟨rfl, t1, s1⟩
      have T1 : Hid (WT b B w w1) := T0.out.trans t1
      have S1 : Hid (WS b B w1 (l ++ m)) := s1
      clear t1 s1 T0 S0
      go_wp2_with fail
      go_end0
      exact ⟨rfl, T1.out, by have := S1.out; simpa [List.append_assoc] using this⟩
set_option maxRecDepth 100000 in
set_option maxHeartbeats 1000000 in
theorem refType2 {b B : Nat} {w : World} {l : List Int} (h : WS b B w l) (t : VT) (hl : l.length ≤ 17592186044000)  :
    Calls Tryd.prog 43 #[.pointer (some ⟨b, 0, none⟩), t.v] w (W2 b B w l (refW t)) := by
  have H : Hid (WS b B w l) := h
  have hb : b < w.heap.size := h.blt
  clear h
  obtain ⟨n, nul, hp⟩ := t
  unfold refW VT.v vt
  simp only
  by_cases hn : n = 5
  · rw [if_pos hn]
    have d5 : (n == 5) = true := by simpa using hn
    clear hn
    cases nul with
    | false =>
      rw [if_pos rfl, code_50]
      cases hx : heapW hp with
      | error e =>
        rw [thenW_ee rfl rfl]
        have S0 : Hid (WS b B (w.alloc (.cells #[.int .i64 n, .bool false, .int .i64 hp] 23)) l) := H.out.grew ((Grew.refl w).alloc _)
        have T0 : Hid (WT b B w (w.alloc (.cells #[.int .i64 n, .bool false, .int .i64 hp] 23))) := WT.of_grew ((Grew.refl w).alloc _)
        have N0 : Hid ((w.alloc (.cells #[.int .i64 n, .bool false, .int .i64 hp] 23)).heap[w.heap.size]? = some (.cells #[.int .i64 n, .bool false, .int .i64 hp] 23 (0, 0))) := heap_alloc_last _ _
        go_enter Tryd.func43, Tryd.ntmps43
        go_wp2_with fail
        have n0_0 := cell_of N0.out 0
        have n1_0 := cell_of N0.out 1
        have n2_0 := cell_of N0.out 2
        simp at n0_0 n1_0 n2_0
        refine (need_yes S0.out).mono ?_
        rintro en w9 ⟨rfl, h9⟩
        obtain rfl := h9.symm
        clear h9
        go_wp2_with fail
        refine (W2.okc (putCode2 S0.out 5 0 (by omega)) code_50).mono ?_
        rintro en w1 ⟨rfl, t1, s1⟩
        have T1 : Hid (WT b B w w1) := T0.out.trans t1
        have S1 : Hid (WS b B w1 (l ++ [100])) := s1
        have N1 : Hid (w1.heap[w.heap.size]? = some (.cells #[.int .i64 n, .bool false, .int .i64 hp] 23 (0, 0))) := t1.other N0.out (by simp; omega) (NoT.of N0.out (by decide))
        clear t1 s1 T0 S0 N0
        have n0_1 := cell_of N1.out 0
        have n1_1 := cell_of N1.out 1
        have n2_1 := cell_of N1.out 2
        simp at n0_1 n1_1 n2_1
        go_wp2_with fail
        refine (W2.erc (heapType2 S1.out hp (by simp; omega)) hx).mono ?_
        rintro en w2 ⟨⟨p, rfl⟩, t2⟩
        have T2 : Hid (WT b B w w2) := T1.out.trans t2
        clear t2
        go_wp2_with fail
        exact ⟨rfl, ⟨p, rfl⟩, T2.out⟩
      | ok m =>
        rw [thenW_ok rfl rfl]
        have S0 : Hid (WS b B (w.alloc (.cells #[.int .i64 n, .bool false, .int .i64 hp] 23)) l) := H.out.grew ((Grew.refl w).alloc _)
        have T0 : Hid (WT b B w (w.alloc (.cells #[.int .i64 n, .bool false, .int .i64 hp] 23))) := WT.of_grew ((Grew.refl w).alloc _)
        have N0 : Hid ((w.alloc (.cells #[.int .i64 n, .bool false, .int .i64 hp] 23)).heap[w.heap.size]? = some (.cells #[.int .i64 n, .bool false, .int .i64 hp] 23 (0, 0))) := heap_alloc_last _ _
        go_enter Tryd.func43, Tryd.ntmps43
        go_wp2_with fail
        have n0_0 := cell_of N0.out 0
        have n1_0 := cell_of N0.out 1
        have n2_0 := cell_of N0.out 2
        simp at n0_0 n1_0 n2_0
        refine (need_yes S0.out).mono ?_
        rintro en w9 ⟨rfl, h9⟩
        obtain rfl := h9.symm
        clear h9
        go_wp2_with fail
        refine (W2.okc (putCode2 S0.out 5 0 (by omega)) code_50).mono ?_
        rintro en w1 ⟨rfl, t1, s1⟩
        have T1 : Hid (WT b B w w1) := T0.out.trans t1
        have S1 : Hid (WS b B w1 (l ++ [100])) := s1
        have N1 : Hid (w1.heap[w.heap.size]? = some (.cells #[.int .i64 n, .bool false, .int .i64 hp] 23 (0, 0))) := t1.other N0.out (by simp; omega) (NoT.of N0.out (by decide))
        clear t1 s1 T0 S0 N0
        have n0_1 := cell_of N1.out 0
        have n1_1 := cell_of N1.out 1
        have n2_1 := cell_of N1.out 2
        simp at n0_1 n1_1 n2_1
        go_wp2_with fail
        refine (W2.okc (heapType2 S1.out hp (by simp; omega)) hx).mono ?_
        rintro en w2 ⟨rfl, t2, s2⟩
        have T2 : Hid (WT b B w w2) := T1.out.trans t2
        have S2 : Hid (WS b B w2 ((l ++ [100]) ++ m)) := s2
        have N2 : Hid (w2.heap[w.heap.size]? = some (.cells #[.int .i64 n, .bool false, .int .i64 hp] 23 (0, 0))) := t2.other N1.out (by simp; omega) (NoT.of N1.out (by decide))
        clear t2 s2 T1 S1 N1
        go_wp2_with fail
        go_end0
        exact ⟨rfl, T2.out, by have := S2.out; simpa [List.append_assoc] using this⟩
    | true =>
      rw [if_neg (by simp)]
      by_cases h0 : 0 ≤ hp
      · rw [if_pos h0, code_51]
        have d0 : decide (0 ≤ hp) = true := by simpa using h0
        cases hx : heapW hp with
        | error e =>
          rw [thenW_ee rfl rfl]
          have S0 : Hid (WS b B (w.alloc (.cells #[.int .i64 n, .bool true, .int .i64 hp] 23)) l) := H.out.grew ((Grew.refl w).alloc _)
          have T0 : Hid (WT b B w (w.alloc (.cells #[.int .i64 n, .bool true, .int .i64 hp] 23))) := WT.of_grew ((Grew.refl w).alloc _)
          have N0 : Hid ((w.alloc (.cells #[.int .i64 n, .bool true, .int .i64 hp] 23)).heap[w.heap.size]? = some (.cells #[.int .i64 n, .bool true, .int .i64 hp] 23 (0, 0))) := heap_alloc_last _ _
          go_enter Tryd.func43, Tryd.ntmps43
          go_wp2_with fail
          have n0_0 := cell_of N0.out 0
          have n1_0 := cell_of N0.out 1
          have n2_0 := cell_of N0.out 2
          simp at n0_0 n1_0 n2_0
          refine (need_yes S0.out).mono ?_
          rintro en w9 ⟨rfl, h9⟩
          obtain rfl := h9.symm
          clear h9
          go_wp2_with fail
          refine (W2.okc (putCode2 S0.out 5 1 (by omega)) code_51).mono ?_
          rintro en w1 ⟨rfl, t1, s1⟩
          have T1 : Hid (WT b B w w1) := T0.out.trans t1
          have S1 : Hid (WS b B w1 (l ++ [99])) := s1
          have N1 : Hid (w1.heap[w.heap.size]? = some (.cells #[.int .i64 n, .bool true, .int .i64 hp] 23 (0, 0))) := t1.other N0.out (by simp; omega) (NoT.of N0.out (by decide))
          clear t1 s1 T0 S0 N0
          have n0_1 := cell_of N1.out 0
          have n1_1 := cell_of N1.out 1
          have n2_1 := cell_of N1.out 2
          simp at n0_1 n1_1 n2_1
          go_wp2_with fail
          refine (W2.erc (heapType2 S1.out hp (by simp; omega)) hx).mono ?_
          rintro en w2 ⟨⟨p, rfl⟩, t2⟩
          have T2 : Hid (WT b B w w2) := T1.out.trans t2
          clear t2
          go_wp2_with fail
          exact ⟨rfl, ⟨p, rfl⟩, T2.out⟩
        | ok m =>
          rw [thenW_ok rfl rfl]
          have S0 : Hid (WS b B (w.alloc (.cells #[.int .i64 n, .bool true, .int .i64 hp] 23)) l) := H.out.grew ((Grew.refl w).alloc _)
          have T0 : Hid (WT b B w (w.alloc (.cells #[.int .i64 n, .bool true, .int .i64 hp] 23))) := WT.of_grew ((Grew.refl w).alloc _)
          have N0 : Hid ((w.alloc (.cells #[.int .i64 n, .bool true, .int .i64 hp] 23)).heap[w.heap.size]? = some (.cells #[.int .i64 n, .bool true, .int .i64 hp] 23 (0, 0))) := heap_alloc_last _ _
          go_enter Tryd.func43, Tryd.ntmps43
          go_wp2_with fail
          have n0_0 := cell_of N0.out 0
          have n1_0 := cell_of N0.out 1
          have n2_0 := cell_of N0.out 2
          simp at n0_0 n1_0 n2_0
          refine (need_yes S0.out).mono ?_
          rintro en w9 ⟨rfl, h9⟩
          obtain rfl := h9.symm
          clear h9
          go_wp2_with fail
          refine (W2.okc (putCode2 S0.out 5 1 (by omega)) code_51).mono ?_
          rintro en w1 ⟨rfl, t1, s1⟩
          have T1 : Hid (WT b B w w1) := T0.out.trans t1
          have S1 : Hid (WS b B w1 (l ++ [99])) := s1
          have N1 : Hid (w1.heap[w.heap.size]? = some (.cells #[.int .i64 n, .bool true, .int .i64 hp] 23 (0, 0))) := t1.other N0.out (by simp; omega) (NoT.of N0.out (by decide))
          clear t1 s1 T0 S0 N0
          have n0_1 := cell_of N1.out 0
          have n1_1 := cell_of N1.out 1
          have n2_1 := cell_of N1.out 2
          simp at n0_1 n1_1 n2_1
          go_wp2_with fail
          refine (W2.okc (heapType2 S1.out hp (by simp; omega)) hx).mono ?_
          rintro en w2 ⟨rfl, t2, s2⟩
          have T2 : Hid (WT b B w w2) := T1.out.trans t2
          have S2 : Hid (WS b B w2 ((l ++ [99]) ++ m)) := s2
          have N2 : Hid (w2.heap[w.heap.size]? = some (.cells #[.int .i64 n, .bool true, .int .i64 hp] 23 (0, 0))) := t2.other N1.out (by simp; omega) (NoT.of N1.out (by decide))
          clear t2 s2 T1 S1 N1
          go_wp2_with fail
          go_end0
          exact ⟨rfl, T2.out, by have := S2.out; simpa [List.append_assoc] using this⟩
      · rw [if_neg h0]
        have d0 : decide (0 ≤ hp) = false := by simpa using h0
        cases hx : heapW hp with
        | error e =>
          rw [thenW_ee rfl rfl]
          have S0 : Hid (WS b B (w.alloc (.cells #[.int .i64 n, .bool true, .int .i64 hp] 23)) l) := H.out.grew ((Grew.refl w).alloc _)
          have T0 : Hid (WT b B w (w.alloc (.cells #[.int .i64 n, .bool true, .int .i64 hp] 23))) := WT.of_grew ((Grew.refl w).alloc _)
          have N0 : Hid ((w.alloc (.cells #[.int .i64 n, .bool true, .int .i64 hp] 23)).heap[w.heap.size]? = some (.cells #[.int .i64 n, .bool true, .int .i64 hp] 23 (0, 0))) := heap_alloc_last _ _
          go_enter Tryd.func43, Tryd.ntmps43
          go_wp2_with fail
          have n0_0 := cell_of N0.out 0
          have n1_0 := cell_of N0.out 1
          have n2_0 := cell_of N0.out 2
          simp at n0_0 n1_0 n2_0
          refine (need_yes S0.out).mono ?_
          rintro en w9 ⟨rfl, h9⟩
          obtain rfl := h9.symm
          clear h9
          go_wp2_with fail
          refine (W2.erc (heapType2 S0.out hp (by omega)) hx).mono ?_
          rintro en w1 ⟨⟨p, rfl⟩, t1⟩
          have T1 : Hid (WT b B w w1) := T0.out.trans t1
          clear t1
          go_wp2_with fail
          exact ⟨rfl, ⟨p, rfl⟩, T1.out⟩
        | ok m =>
          rw [thenW_ok rfl rfl]
          have S0 : Hid (WS b B (w.alloc (.cells #[.int .i64 n, .bool true, .int .i64 hp] 23)) l) := H.out.grew ((Grew.refl w).alloc _)
          have T0 : Hid (WT b B w (w.alloc (.cells #[.int .i64 n, .bool true, .int .i64 hp] 23))) := WT.of_grew ((Grew.refl w).alloc _)
          have N0 : Hid ((w.alloc (.cells #[.int .i64 n, .bool true, .int .i64 hp] 23)).heap[w.heap.size]? = some (.cells #[.int .i64 n, .bool true, .int .i64 hp] 23 (0, 0))) := heap_alloc_last _ _
          go_enter Tryd.func43, Tryd.ntmps43
          go_wp2_with fail
          have n0_0 := cell_of N0.out 0
          have n1_0 := cell_of N0.out 1
          have n2_0 := cell_of N0.out 2
          simp at n0_0 n1_0 n2_0
          refine (need_yes S0.out).mono ?_
          rintro en w9 ⟨rfl, h9⟩
          obtain rfl := h9.symm
          clear h9
          go_wp2_with fail
          refine (W2.okc (heapType2 S0.out hp (by omega)) hx).mono ?_
          rintro en w1 ⟨rfl, t1, s1⟩
          have T1 : Hid (WT b B w w1) := T0.out.trans t1
          have S1 : Hid (WS b B w1 (l ++ m)) := s1
          have N1 : Hid (w1.heap[w.heap.size]? = some (.cells #[.int .i64 n, .bool true, .int .i64 hp] 23 (0, 0))) := t1.other N0.out (by simp; omega) (NoT.of N0.out (by decide))
          clear t1 s1 T0 S0 N0
          go_wp2_with fail
          go_end0
          exact ⟨rfl, T1.out, by have := S1.out; simpa [List.append_assoc] using this⟩
  · rw [if_neg hn]
    have d5 : (n == 5) = false := by simpa using hn
    clear hn
    have S0 : Hid (WS b B (w.alloc (.cells #[.int .i64 n, .bool nul, .int .i64 hp] 23)) l) := H.out.grew ((Grew.refl w).alloc _)
    have T0 : Hid (WT b B w (w.alloc (.cells #[.int .i64 n, .bool nul, .int .i64 hp] 23))) := WT.of_grew ((Grew.refl w).alloc _)
    have N0 : Hid ((w.alloc (.cells #[.int .i64 n, .bool nul, .int .i64 hp] 23)).heap[w.heap.size]? = some (.cells #[.int .i64 n, .bool nul, .int .i64 hp] 23 (0, 0))) := heap_alloc_last _ _
    go_enter Tryd.func43, Tryd.ntmps43
    go_wp2_with fail
    have n0_0 := cell_of N0.out 0
    have n1_0 := cell_of N0.out 1
    have n2_0 := cell_of N0.out 2
    simp at n0_0 n1_0 n2_0
    refine (need_no S0.out).mono ?_
    rintro en w9 ⟨⟨p, rfl⟩, h9⟩
    obtain rfl := h9.symm
    go_wp2_with fail
    exact ⟨rfl, ⟨p, rfl⟩, T0.out⟩
set_option maxRecDepth 100000 in
set_option maxHeartbeats 1000000 in
theorem valType2 {b B : Nat} {w : World} {l : List Int} (h : WS b B w l) (t : VT) (hl : l.length ≤ 17592186044000)  :
    Calls Tryd.prog 46 #[.pointer (some ⟨b, 0, none⟩), t.v] w (W2 b B w l (valW t)) := by
  have H : Hid (WS b B w l) := h
  have hb : b < w.heap.size := h.blt
  clear h
  have C1 : Hid (∀ w1, WS b B w1 l → Calls Tryd.prog 43 #[.pointer (some ⟨b, 0, none⟩), t.v] w1 (W2 b B w1 l (refW t))) := fun w1 u => refType2 u t hl
  have C2 : Hid (∀ w1, WS b B w1 l → Calls Tryd.prog 61 #[.pointer (some ⟨b, 0, none⟩), .int .i64 1, t.v] w1 (W2 b B w1 l (plainW 1 t))) := fun w1 u => plain2 u 1 t (by omega)
  unfold valW
  generalize refW t = R1 at *
  generalize plainW 1 t = R2 at *
  obtain ⟨n, nul, hp⟩ := t
  unfold VT.v vt at *
  simp only at *
  by_cases hn : n = 5
  · rw [if_pos hn]
    have d5 : (n == 5) = true := by simpa using hn
    clear hn
    cases hx : R1 with
    | error e =>
      have S0 : Hid (WS b B (w.alloc (.cells #[.int .i64 n, .bool nul, .int .i64 hp] 23)) l) := H.out.grew ((Grew.refl w).alloc _)
      have T0 : Hid (WT b B w (w.alloc (.cells #[.int .i64 n, .bool nul, .int .i64 hp] 23))) := WT.of_grew ((Grew.refl w).alloc _)
      have N0 : Hid ((w.alloc (.cells #[.int .i64 n, .bool nul, .int .i64 hp] 23)).heap[w.heap.size]? = some (.cells #[.int .i64 n, .bool nul, .int .i64 hp] 23 (0, 0))) := heap_alloc_last _ _
      go_enter Tryd.func46, Tryd.ntmps46
      go_wp2_with fail
      refine (W2.erc (C1.out _ S0.out) hx).mono ?_
      rintro en w1 ⟨⟨p, rfl⟩, t1⟩
      have T1 : Hid (WT b B w w1) := T0.out.trans t1
      clear t1
      go_wp2_with fail
      exact ⟨rfl, ⟨p, rfl⟩, T1.out⟩
    | ok m =>
      have S0 : Hid (WS b B (w.alloc (.cells #[.int .i64 n, .bool nul, .int .i64 hp] 23)) l) := H.out.grew ((Grew.refl w).alloc _)
      have T0 : Hid (WT b B w (w.alloc (.cells #[.int .i64 n, .bool nul, .int .i64 hp] 23))) := WT.of_grew ((Grew.refl w).alloc _)
      have N0 : Hid ((w.alloc (.cells #[.int .i64 n, .bool nul, .int .i64 hp] 23)).heap[w.heap.size]? = some (.cells #[.int .i64 n, .bool nul, .int .i64 hp] 23 (0, 0))) := heap_alloc_last _ _
      go_enter Tryd.func46, Tryd.ntmps46
      go_wp2_with fail
      refine (W2.okc (C1.out _ S0.out) hx).mono ?_
      rintro en w1 ⟨rfl, t1, s1⟩
      have T1 : Hid (WT b B w w1) := T0.out.trans t1
      have S1 : Hid (WS b B w1 (l ++ m)) := s1
      have N1 : Hid (w1.heap[w.heap.size]? = some (.cells #[.int .i64 n, .bool nul, .int .i64 hp] 23 (0, 0))) := t1.other N0.out (by simp; omega) (NoT.of N0.out (by decide))
      clear t1 s1 T0 S0 N0
      go_wp2_with fail
      go_end0
      exact ⟨rfl, T1.out, by have := S1.out; simpa [List.append_assoc] using this⟩
  · rw [if_neg hn]
    have d5 : (n == 5) = false := by simpa using hn
    clear hn
    cases hx : R2 with
    | error e =>
      have S0 : Hid (WS b B (w.alloc (.cells #[.int .i64 n, .bool nul, .int .i64 hp] 23)) l) := H.out.grew ((Grew.refl w).alloc _)
      have T0 : Hid (WT b B w (w.alloc (.cells #[.int .i64 n, .bool nul, .int .i64 hp] 23))) := WT.of_grew ((Grew.refl w).alloc _)
      have N0 : Hid ((w.alloc (.cells #[.int .i64 n, .bool nul, .int .i64 hp] 23)).heap[w.heap.size]? = some (.cells #[.int .i64 n, .bool nul, .int .i64 hp] 23 (0, 0))) := heap_alloc_last _ _
      go_enter Tryd.func46, Tryd.ntmps46
      go_wp2_with fail
      refine (W2.erc (C2.out _ S0.out) hx).mono ?_
      rintro en w1 ⟨⟨p, rfl⟩, t1⟩
      have T1 : Hid (WT b B w w1) := T0.out.trans t1
      clear t1
      go_wp2_with fail
      exact ⟨rfl, ⟨p, rfl⟩, T1.out⟩
    | ok m =>
      have S0 : Hid (WS b B (w.alloc (.cells #[.int .i64 n, .bool nul, .int .i64 hp] 23)) l) := H.out.grew ((Grew.refl w).alloc _)
      have T0 : Hid (WT b B w (w.alloc (.cells #[.int .i64 n, .bool nul, .int .i64 hp] 23))) := WT.of_grew ((Grew.refl w).alloc _)
      have N0 : Hid ((w.alloc (.cells #[.int .i64 n, .bool nul, .int .i64 hp] 23)).heap[w.heap.size]? = some (.cells #[.int .i64 n, .bool nul, .int .i64 hp] 23 (0, 0))) := heap_alloc_last _ _
      go_enter Tryd.func46, Tryd.ntmps46
      go_wp2_with fail
      refine (W2.okc (C2.out _ S0.out) hx).mono ?_
      rintro en w1 ⟨rfl, t1, s1⟩
      have T1 : Hid (WT b B w w1) := T0.out.trans t1
      have S1 : Hid (WS b B w1 (l ++ m)) := s1
      have N1 : Hid (w1.heap[w.heap.size]? = some (.cells #[.int .i64 n, .bool nul, .int .i64 hp] 23 (0, 0))) := t1.other N0.out (by simp; omega) (NoT.of N0.out (by decide))
      clear t1 s1 T0 S0 N0
      go_wp2_with fail
      go_end0
      exact ⟨rfl, T1.out, by have := S1.out; simpa [List.append_assoc] using this⟩
theorem codeR_len {kd n : Int} {m : List Int} (h : codeR kd n = .ok m) : m.length = 1 := by
  unfold codeR at h
  split at h
  · cases h; rfl
  · cases h
theorem plainW_len {kd : Int} {t : VT} {m : List Int} (h : plainW kd t = .ok m) : m.length = 1 := by
  unfold plainW at h
  split at h
  · exact codeR_len h
  · cases h
theorem heapW_len {n : Int} {m : List Int} (h : heapW n = .ok m) : m.length ≤ 11 := by
  unfold heapW at h
  split at h
  · unfold sidxW at h
    split at h
    · cases h; exact PS_len n
    · cases h
  · have := codeR_len h; omega
theorem refW_len {t : VT} {m : List Int} (h : refW t = .ok m) : m.length ≤ 12 := by
  unfold refW at h
  split at h
  · cases hy : heapW t.heap with
    | error e =>
      rw [hy] at h
      split at h
      · rw [code_50] at h; cases h
      · split at h
        · rw [code_51] at h; cases h
        · cases h
    | ok k =>
      have hk := heapW_len hy
      rw [hy] at h
      split at h
      · rw [code_50] at h; cases h; simp; omega
      · split at h
        · rw [code_51] at h; cases h; simp; omega
        · cases h; simp; omega
  · cases h
theorem valW_len {t : VT} {m : List Int} (h : valW t = .ok m) : m.length ≤ 12 := by
  unfold valW at h
  split at h
  · exact refW_len h
  · have := plainW_len h; omega
theorem storW_len {t : VT} {m : List Int} (h : storW t = .ok m) : m.length ≤ 12 := by
  unfold storW at h
  split at h
  · have := plainW_len h; omega
  · exact valW_len h
end Go.Proofs.YtfnfbioenngjoaaDoor
