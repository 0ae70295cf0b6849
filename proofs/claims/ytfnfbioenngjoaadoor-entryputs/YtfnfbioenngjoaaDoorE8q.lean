/-
  Exports written by the document; no statement is proved here.
-/
import Derived.Test.YtfnfbioenngjoaaDoorE8e
import Derived.Deep.RegionLaw
namespace Go.Proofs.YtfnfbioenngjoaaDoor
open Go.RowKit
set_option linter.unusedVariables false
set_option linter.unusedSimpArgs false
set_option linter.constructorNameAsVariable false

def impW (m n : List Int) (X : Except Nat (List Int)) : Except Nat (List Int) := thenW (nameW m) (thenW (nameW n) X)
def expW (n : List Int) (k a : Int) : Except Nat (List Int) := thenW (nameW n) (thenW (kindW k) (.ok (PU a)))
theorem nameW_len {s m : List Int} (h : nameW s = .ok m) : m.length ≤ 65547 := by
  unfold nameW at h
  split at h
  · injection h with h
    subst h
    exact nb_len (by assumption)
  · cases h
set_option maxRecDepth 100000 in
set_option maxHeartbeats 1000000 in
theorem import2 {b B : Nat} {w : World} {l : List Int} (h : WS b B w l) (m n : List Int) (es : List Value) (X : Except Nat (List Int)) (hB1 : Byt m) (hs1 : m.length ≤ 140737488351232) (hB2 : Byt n) (hs2 : n.length ≤ 140737488351232) (hes : (Tryd.prog.info? 32).map (·.size) = some es.length) (hl : l.length ≤ 17592185000000)
    (hX : ∀ (W : World) (l' : List Int), l'.length ≤ 17592186030000 → WS b B W l' → Calls Tryd.prog 34 #[.pointer (some ⟨b, 0, none⟩), .agg es.toArray] W (W2 b B W l' X)) :
    Calls Tryd.prog 15 #[.pointer (some ⟨b, 0, none⟩), .agg (.string (strOfNums m) :: .string (strOfNums n) :: es).toArray] w (W2 b B w l (impW m n X)) := by
  have C1 : Hid (∀ W : World, WS b B W l → Calls Tryd.prog 33 #[.pointer (some ⟨b, 0, none⟩), .string (strOfNums m)] W (W2 b B W l (nameW m))) := fun W u => name2 u m hB1 hs1 (by omega)
  have C2 : Hid (∀ (W : World) (r : List Int), r.length ≤ 65547 → WS b B W (l ++ r) → Calls Tryd.prog 33 #[.pointer (some ⟨b, 0, none⟩), .string (strOfNums n)] W (W2 b B W (l ++ r) (nameW n))) := fun W r hr u => name2 u n hB2 hs2 (by simp; omega)
  have CX : Hid (∀ (W : World) (l' : List Int), l'.length ≤ 17592186030000 → WS b B W l' → Calls Tryd.prog 34 #[.pointer (some ⟨b, 0, none⟩), .agg es.toArray] W (W2 b B W l' X)) := hX
  have L1 : Hid (∀ r, nameW m = .ok r → r.length ≤ 65547) := fun r hr => nameW_len hr
  have L2 : Hid (∀ r, nameW n = .ok r → r.length ≤ 65547) := fun r hr => nameW_len hr
  obtain ⟨is, his⟩ : ∃ is : Array Value, is = (.string (strOfNums m) :: .string (strOfNums n) :: es).toArray := ⟨_, rfl⟩
  rw [← his]
  have e0 : is[0]? = some (.string (strOfNums m)) := by rw [his]; rfl
  have e1 : is[1]? = some (.string (strOfNums n)) := by rw [his]; rfl
  have e2 : Hid (∀ (j : Nat) (v : Value), es[j]? = some v → is[2 + j]? = some v) := fun j v hj => by rw [his, show 2 + j = j + 1 + 1 by omega]; simpa using hj
  unfold impW
  generalize strOfNums m = s1 at *
  generalize strOfNums n = s2 at *
  generalize nameW m = R1 at *
  generalize nameW n = R2 at *
  have S0 : Hid (WS b B (w.alloc (.cells is 34)) l) := h.grew ((Grew.refl w).alloc _)
  have T0 : Hid (WT b B w (w.alloc (.cells is 34))) := WT.of_grew ((Grew.refl w).alloc _)
  have N0 : Hid ((w.alloc (.cells is 34)).heap[w.heap.size]? = some (.cells is 34 (0, 0))) := heap_alloc_last _ _
  have c0 := (cell_of N0.out 0).trans e0
  have hb : b < w.heap.size := h.blt
  clear h his hX
  cases R1 with
  | error e =>
    go_enter Tryd.func15, Tryd.ntmps15
    go_wp2_with fail
    refine (W2.erc (C1.out _ S0.out) rfl).mono ?_
    rintro en w1 ⟨⟨p, rfl⟩, t1⟩
    have T1 : Hid (WT b B w w1) := T0.out.trans t1
    clear t1
    go_wp2_with fail
    exact ⟨rfl, ⟨p, rfl⟩, T1.out⟩
  | ok r1 =>
    have hr1 := L1.out r1 rfl
    cases R2 with
    | error e =>
      go_enter Tryd.func15, Tryd.ntmps15
      go_wp2_with fail
      refine (W2.okc (C1.out _ S0.out) rfl).mono ?_
      rintro en w1 ⟨rfl, t1, s1⟩
      have T1 : Hid (WT b B w w1) := T0.out.trans t1
      have S1 : Hid (WS b B w1 (l ++ r1)) := s1
      have N1 : Hid (w1.heap[w.heap.size]? = some (.cells is 34 (0, 0))) := t1.other N0.out (by omega) (NoT.of N0.out (by decide))
      have c1 := (cell_of N1.out 1).trans e1
      clear t1 s1 T0 S0 N0 c0
      go_wp2_with fail
      refine (W2.erc (C2.out _ r1 hr1 S1.out) rfl).mono ?_
      rintro en w2 ⟨⟨p, rfl⟩, t2⟩
      have T2 : Hid (WT b B w w2) := T1.out.trans t2
      clear t2
      go_wp2_with fail
      exact ⟨rfl, ⟨p, rfl⟩, T2.out⟩
    | ok r2 =>
      have hr2 := L2.out r2 rfl
      cases X with
      | error e =>
        go_enter Tryd.func15, Tryd.ntmps15
        go_wp2_with fail
        refine (W2.okc (C1.out _ S0.out) rfl).mono ?_
        rintro en w1 ⟨rfl, t1, s1⟩
        have T1 : Hid (WT b B w w1) := T0.out.trans t1
        have S1 : Hid (WS b B w1 (l ++ r1)) := s1
        have N1 : Hid (w1.heap[w.heap.size]? = some (.cells is 34 (0, 0))) := t1.other N0.out (by omega) (NoT.of N0.out (by decide))
        have c1 := (cell_of N1.out 1).trans e1
        clear t1 s1 T0 S0 N0 c0
        go_wp2_with fail
        refine (W2.okc (C2.out _ r1 hr1 S1.out) rfl).mono ?_
        rintro en w2 ⟨rfl, t2, s2⟩
        have T2 : Hid (WT b B w w2) := T1.out.trans t2
        have S2 : Hid (WS b B w2 ((l ++ r1) ++ r2)) := s2
        have N2 : Hid (w2.heap[w.heap.size]? = some (.cells is 34 (0, 0))) := t2.other N1.out (by omega) (NoT.of N1.out (by decide))
        clear t2 s2 T1 S1 N1 c1
        go_wp2_with (first
          | (refine at_load 32 rfl ?_; refine wpList_load_seg rfl 32 _ rfl w.heap.size 2 rfl es _ (seg_of N2.out e2.out) Tryd.underlying32 rfl hes ?_)
          | fail)
        refine (W2.erc (CX.out _ _ (by simp; omega) S2.out) rfl).mono ?_
        rintro en w3 ⟨⟨p, rfl⟩, t3⟩
        have T3 : Hid (WT b B w w3) := T2.out.trans t3
        clear t3
        go_wp2_with fail
        exact ⟨rfl, ⟨p, rfl⟩, T3.out⟩
      | ok r3 =>
        go_enter Tryd.func15, Tryd.ntmps15
        go_wp2_with fail
        refine (W2.okc (C1.out _ S0.out) rfl).mono ?_
        rintro en w1 ⟨rfl, t1, s1⟩
        have T1 : Hid (WT b B w w1) := T0.out.trans t1
        have S1 : Hid (WS b B w1 (l ++ r1)) := s1
        have N1 : Hid (w1.heap[w.heap.size]? = some (.cells is 34 (0, 0))) := t1.other N0.out (by omega) (NoT.of N0.out (by decide))
        have c1 := (cell_of N1.out 1).trans e1
        clear t1 s1 T0 S0 N0 c0
        go_wp2_with fail
        refine (W2.okc (C2.out _ r1 hr1 S1.out) rfl).mono ?_
        rintro en w2 ⟨rfl, t2, s2⟩
        have T2 : Hid (WT b B w w2) := T1.out.trans t2
        have S2 : Hid (WS b B w2 ((l ++ r1) ++ r2)) := s2
        have N2 : Hid (w2.heap[w.heap.size]? = some (.cells is 34 (0, 0))) := t2.other N1.out (by omega) (NoT.of N1.out (by decide))
        clear t2 s2 T1 S1 N1 c1
        go_wp2_with (first
          | (refine at_load 32 rfl ?_; refine wpList_load_seg rfl 32 _ rfl w.heap.size 2 rfl es _ (seg_of N2.out e2.out) Tryd.underlying32 rfl hes ?_)
          | fail)
        refine (W2.okc (CX.out _ _ (by simp; omega) S2.out) rfl).mono ?_
        rintro en w3 ⟨rfl, t3, s3⟩
        have T3 : Hid (WT b B w w3) := T2.out.trans t3
        have S3 : Hid (WS b B w3 (((l ++ r1) ++ r2) ++ r3)) := s3
        clear t3 s3
        go_wp2_with fail
        go_end0
        exact ⟨rfl, T3.out, by have := S3.out; simpa [List.append_assoc] using this⟩
set_option maxRecDepth 100000 in
set_option maxHeartbeats 1000000 in
theorem export2 {b B : Nat} {w : World} {l : List Int} (h : WS b B w l) (n : List Int) (k a : Int) (hB1 : Byt n) (hs1 : n.length ≤ 140737488351232) (ha0 : 0 ≤ a) (ha1 : a ≤ 4294967295) (hl : l.length ≤ 17592185000000) :
    Calls Tryd.prog 25 #[.pointer (some ⟨b, 0, none⟩), .agg #[.string (strOfNums n), .int .i64 k, .int .u32 a]] w (W2 b B w l (expW n k a)) := by
  have C1 : Hid (∀ W : World, WS b B W l → Calls Tryd.prog 33 #[.pointer (some ⟨b, 0, none⟩), .string (strOfNums n)] W (W2 b B W l (nameW n))) := fun W u => name2 u n hB1 hs1 (by omega)
  have C2 : Hid (∀ (W : World) (r : List Int), r.length ≤ 65547 → WS b B W (l ++ r) → Calls Tryd.prog 39 #[.pointer (some ⟨b, 0, none⟩), .int .i64 k] W (W2 b B W (l ++ r) (kindW k))) := fun W r hr u => kind2 u k (by simp; omega)
  have C3 : Hid (∀ (W : World) (l' : List Int), l'.length ≤ 17592186030000 → WS b B W l' → Calls Tryd.prog 40 #[.pointer (some ⟨b, 0, none⟩), .int .u64 a] W (W2 b B W l' (.ok (PU a)))) := fun W l' hl' u => unsigned2 u a (by omega) ha0 (by omega)
  have L1 : Hid (∀ r, nameW n = .ok r → r.length ≤ 65547) := fun r hr => nameW_len hr
  have L2 : Hid (∀ r, kindW k = .ok r → r.length ≤ 1) := fun r hr => by
    unfold kindW at hr
    split at hr
    · injection hr with hr
      subst hr
      simp
    · cases hr
  have hcv : IntKind.u64.wrap a = a := by rw [IntKind.wrap_u64]; omega
  unfold expW
  generalize strOfNums n = s1 at *
  generalize nameW n = R1 at *
  generalize kindW k = R2 at *
  generalize PU a = P at *
  have S0 : Hid (WS b B (w.alloc (.cells #[.string s1, .int .i64 k, .int .u32 a] 37)) l) := h.grew ((Grew.refl w).alloc _)
  have T0 : Hid (WT b B w (w.alloc (.cells #[.string s1, .int .i64 k, .int .u32 a] 37))) := WT.of_grew ((Grew.refl w).alloc _)
  have N0 : Hid ((w.alloc (.cells #[.string s1, .int .i64 k, .int .u32 a] 37)).heap[w.heap.size]? = some (.cells #[.string s1, .int .i64 k, .int .u32 a] 37 (0, 0))) := heap_alloc_last _ _
  have hb : b < w.heap.size := h.blt
  clear h ha0 ha1
  cases R1 with
  | error e =>
    go_enter Tryd.func25, Tryd.ntmps25
    go_wp2_with fail
    refine (W2.erc (C1.out _ S0.out) rfl).mono ?_
    rintro en w1 ⟨⟨p, rfl⟩, t1⟩
    have T1 : Hid (WT b B w w1) := T0.out.trans t1
    clear t1
    go_wp2_with fail
    exact ⟨rfl, ⟨p, rfl⟩, T1.out⟩
  | ok r1 =>
    have hr1 := L1.out r1 rfl
    cases R2 with
    | error e =>
      go_enter Tryd.func25, Tryd.ntmps25
      go_wp2_with fail
      refine (W2.okc (C1.out _ S0.out) rfl).mono ?_
      rintro en w1 ⟨rfl, t1, s1'⟩
      have T1 : Hid (WT b B w w1) := T0.out.trans t1
      have S1 : Hid (WS b B w1 (l ++ r1)) := s1'
      have N1 : Hid (w1.heap[w.heap.size]? = some (.cells #[.string s1, .int .i64 k, .int .u32 a] 37 (0, 0))) := t1.other N0.out (by omega) (NoT.of N0.out (by decide))
      have c1 := cell_of N1.out 1
      simp at c1
      clear t1 T0 S0 N0
      go_wp2_with fail
      refine (W2.erc (C2.out _ r1 hr1 S1.out) rfl).mono ?_
      rintro en w2 ⟨⟨p, rfl⟩, t2⟩
      have T2 : Hid (WT b B w w2) := T1.out.trans t2
      clear t2
      go_wp2_with fail
      exact ⟨rfl, ⟨p, rfl⟩, T2.out⟩
    | ok r2 =>
      have hr2 := L2.out r2 rfl
      go_enter Tryd.func25, Tryd.ntmps25
      go_wp2_with fail
      refine (W2.okc (C1.out _ S0.out) rfl).mono ?_
      rintro en w1 ⟨rfl, t1, s1'⟩
      have T1 : Hid (WT b B w w1) := T0.out.trans t1
      have S1 : Hid (WS b B w1 (l ++ r1)) := s1'
      have N1 : Hid (w1.heap[w.heap.size]? = some (.cells #[.string s1, .int .i64 k, .int .u32 a] 37 (0, 0))) := t1.other N0.out (by omega) (NoT.of N0.out (by decide))
      have c1 := cell_of N1.out 1
      simp at c1
      clear t1 s1' T0 S0 N0
      go_wp2_with fail
      refine (W2.okc (C2.out _ r1 hr1 S1.out) rfl).mono ?_
      rintro en w2 ⟨rfl, t2, s2⟩
      have T2 : Hid (WT b B w w2) := T1.out.trans t2
      have S2 : Hid (WS b B w2 ((l ++ r1) ++ r2)) := s2
      have N2 : Hid (w2.heap[w.heap.size]? = some (.cells #[.string s1, .int .i64 k, .int .u32 a] 37 (0, 0))) := t2.other N1.out (by omega) (NoT.of N1.out (by decide))
      have c2 := cell_of N2.out 2
      simp at c2
      clear t2 s2 T1 S1 N1 c1
      go_wp2_with fail
      refine (W2.okc (C3.out _ _ (by simp; omega) S2.out) rfl).mono ?_
      rintro en w3 ⟨rfl, t3, s3⟩
      have T3 : Hid (WT b B w w3) := T2.out.trans t3
      have S3 : Hid (WS b B w3 (((l ++ r1) ++ r2) ++ P)) := s3
      clear t3 s3
      go_wp2_with fail
      go_end0
      exact ⟨rfl, T3.out, by have := S3.out; simpa [List.append_assoc] using this⟩
end Go.Proofs.YtfnfbioenngjoaaDoor

namespace Go.Proofs.YtfnfbioenngjoaaDoor
open Go.RowKit
set_option linter.unusedVariables false
set_option linter.unusedSimpArgs false
set_option linter.constructorNameAsVariable false

set_option maxRecDepth 100000 in
set_option maxHeartbeats 1000000 in
theorem wcaughtX (bE : Nat) (p e y : Int) (older : List PanicEntry) (w : World) (hE : w.heap[bE]? = some (ic y 39)) :
    CallsD Tryd.prog 38 #[.pointer (some ⟨bE, 0, none⟩)] (.panicking ({ v := .iface 78 (.agg #[.int .i64 p, .int .i64 e]), recovered := false } :: older)) w fun en u' w' =>
      en = .returned (.tuple #[]) ∧ u' = .panicking ({ v := .iface 78 (.agg #[.int .i64 p, .int .i64 e]), recovered := true } :: older) ∧ w' = w.setCell ⟨bE, 0, none⟩ (.int .i64 e) := by
  have c1 := cell_of hE 0
  have z1 := free_of hE 0
  simp at c1
  clear hE
  refine callsD_of_wpS Tryd.func38 rfl fun c₀ cs hu => ?_
  apply wpS_seq
  apply wpS_region
  simp [wpOpsS, go_sem, recoverD, hu, Tryd.ntmps38, Exit.thenS]
  refine wpS_of_wp ?_
  rw [show (#[Value.pointer (some { block := bE, off := 0 })] ++
          ((Array.replicate 7 undef).setIfInBounds 1 (Value.iface 78 (Value.agg #[Value.int IntKind.i64 p, Value.int IntKind.i64 e]))).setIfInBounds 0 (Value.iface 78 (Value.agg #[Value.int IntKind.i64 p, Value.int IntKind.i64 e])) : Array Value) = #[Value.pointer (some { block := bE, off := 0 }), Value.iface 78 (Value.agg #[Value.int IntKind.i64 p, Value.int IntKind.i64 e]), Value.iface 78 (Value.agg #[Value.int IntKind.i64 p, Value.int IntKind.i64 e]), undef, undef, undef, undef, undef] from rfl]
  clear hu
  have ha := assertF
  have hf := fieldE
  go_wp2
  simp [bodyPostS, results, Tryd.results38]
theorem widleX (bE : Nat) (w : World) :
    CallsD Tryd.prog 38 #[.pointer (some ⟨bE, 0, none⟩)] .returning w fun en u' w' => en = .returned (.tuple #[]) ∧ u' = .returning ∧ w' = w := by
  refine callsD_of_wpS Tryd.func38 rfl fun c₀ cs hu => ?_
  apply wpS_seq
  apply wpS_region
  simp [wpOpsS, go_sem, recoverD, hu, Tryd.ntmps38, Exit.thenS]
  refine wpS_of_wp ?_
  rw [show (#[Value.pointer (some { block := bE, off := 0 })] ++
          ((Array.replicate 7 undef).setIfInBounds 1 Value.nilIface).setIfInBounds 0 Value.nilIface : Array Value) = #[Value.pointer (some { block := bE, off := 0 }), .nilIface, .nilIface, undef, undef, undef, undef, undef] from rfl]
  go_wp2
  cases c₀
  simp_all [bodyPostS, results, Tryd.results38]
set_option maxRecDepth 100000 in
set_option maxHeartbeats 1000000 in
theorem writtenX_any (s : ByteArray) (k a : Int) (w : World) (hT : Tab w) (R : Except Nat (List Int))
    (HC : ∀ (W : World) (b B : Nat), WS b B W [] → Grew w W → Calls Tryd.prog 25 #[.pointer (some ⟨b, 0, none⟩), .agg #[.string s, .int .i64 k, .int .u32 a]] W (WAns b B W [] R)) :
    Calls Tryd.prog 24 #[.agg #[.string s, .int .i64 k, .int .u32 a], .func (.func 25) #[] #[]] w (PAns w R) := by
  have hmf : ∀ (fn : Fn) (first cap : Array Value) (w : World), (Instr.makeFunc fn first cap).run Tryd.prog w = .ok (.func fn first cap) w := fun _ _ _ _ => rfl
  have HT : Hid (Tab w) := hT
  have hpos := hT.pos
  have HCC : Hid (∀ (W : World) (b B : Nat), WS b B W [] → Grew w W → Calls Tryd.prog 25 #[.pointer (some ⟨b, 0, none⟩), .agg #[.string s, .int .i64 k, .int .u32 a]] W (WAns b B W [] R)) := HC
  clear hT HC
  go_enter_defers Tryd.func24, Tryd.ntmps24
  go_wp2_with fail
  generalize hW : ((w.alloc (Obj.cells #[Value.string s, Value.int IntKind.i64 k, Value.int IntKind.u32 a] 37)).alloc (Obj.cells #[Value.int IntKind.i64 0] 39)).alloc (Obj.cells #[Value.slice none 0 0] 80) = W
  have G0 : Hid (Grew w W) := by rw [← hW]; exact (((Grew.refl w).alloc _).alloc _).alloc _
  obtain ⟨X0, E0, o0⟩ : Hid (W.heap[w.heap.size]? = some (.cells #[.string s, .int .i64 k, .int .u32 a] 37 (0, 0))) ∧ Hid (W.heap[w.heap.size + 1]? = some (ic 0 39)) ∧ W.heap[w.heap.size + 1 + 1]? = some (wob (.slice none 0 0)) := by
    rw [← hW]
    exact heap_three _ _ _ _
  have hsz : W.heap.size = w.heap.size + 1 + 1 + 1 := by rw [← hW]; simp
  have S0 : Hid (WS (w.heap.size + 1 + 1) (w.heap.size + 1 + 1 + 1) W []) := ⟨⟨_, o0, World.ownsRow_nil _ _ _ _⟩, by omega, by omega, HT.out.grew G0.out, by omega, by omega⟩
  clear hW o0
  have V := HCC.out W _ _ S0.out G0.out
  cases R with
  | error e =>
    refine V.mono ?_
    rintro en w2 ⟨⟨p, rfl⟩, t2⟩
    have g2 : Grew w w2 := (t2.turn (G0.out.turn _) (by omega)).grew (Grew.refl w) (by intro y hy; simp at hy; omega)
    have E3 := t2.other E0.out (by omega) (by omega)
    have c0 := cell_of E3 0
    simp [ic] at c0
    clear V t2
    unfold flt
    go_wp2_with fail
    refine leaves_cons (f := 38) (args := #[.pointer (some ⟨w.heap.size + 1, 0, none⟩)]) (by simp) (by simp [go_sem]) ?_
    refine (wcaughtX _ p e 0 [] _ E3).mono ?_
    rintro en u' w4 ⟨rfl, rfl, rfl⟩
    simp [Leaves, settle, results, Tryd.results24, go_sem, c0]
    exact ⟨rfl, g2.set (p := ⟨w.heap.size + 1, 0, none⟩) (by simp) _⟩
  | ok m =>
    refine V.mono ?_
    rintro en w2 ⟨rfl, t2, s2⟩
    have G2 : Hid (Grew w w2) := (t2.turn (G0.out.turn _) (by omega)).grew (Grew.refl w) (by intro y hy; simp at hy; omega)
    have E3 : Hid (w2.heap[w.heap.size + 1]? = some (ic 0 39)) := t2.other E0.out (by omega) (by omega)
    obtain ⟨o, ho, hw⟩ := s2.ex
    obtain ⟨oa, oc, rfl⟩ := row_one hw
    have q0 := cell_of ho 0
    have c0 := cell_of E3.out 0
    have y4 := free_of E3.out 0
    simp [ic] at c0
    simp at q0
    have rw1 : w2.ownsRow (w.heap.size + 1 + 1 + 1) 5 1 (.slice oa m.length oc) m.length (U8 m) := by simpa using hw
    have RW : Hid (w2.ownsRow (w.heap.size + 1 + 1 + 1) 5 1 (.slice oa m.length oc) m.length (U8 m)) := rw1
    clear rw1
    clear V t2 s2 ho hw
    go_wp2_with fail
    refine leaves_cons (f := 38) (args := #[.pointer (some ⟨w.heap.size + 1, 0, none⟩)]) (by simp) (by simp [go_sem]) ?_
    refine (widleX _ _).mono ?_
    rintro en u' w5 ⟨rfl, rfl, rfl⟩
    simp [Leaves, settle, results, Tryd.results24, go_sem, c0]
    exact ⟨_, rfl, row_low (row_set RW.out (NoT.of (t := 39) E3.out (by decide)) _) (by omega), G2.out.set (p := ⟨w.heap.size + 1, 0, none⟩) (by simp) _⟩
set_option maxRecDepth 100000 in
set_option maxHeartbeats 1000000 in
theorem wcaughtM (bE : Nat) (p e y : Int) (older : List PanicEntry) (w : World) (hE : w.heap[bE]? = some (ic y 39)) :
    CallsD Tryd.prog 32 #[.pointer (some ⟨bE, 0, none⟩)] (.panicking ({ v := .iface 78 (.agg #[.int .i64 p, .int .i64 e]), recovered := false } :: older)) w fun en u' w' =>
      en = .returned (.tuple #[]) ∧ u' = .panicking ({ v := .iface 78 (.agg #[.int .i64 p, .int .i64 e]), recovered := true } :: older) ∧ w' = w.setCell ⟨bE, 0, none⟩ (.int .i64 e) := by
  have c1 := cell_of hE 0
  have z1 := free_of hE 0
  simp at c1
  clear hE
  refine callsD_of_wpS Tryd.func32 rfl fun c₀ cs hu => ?_
  apply wpS_seq
  apply wpS_region
  simp [wpOpsS, go_sem, recoverD, hu, Tryd.ntmps32, Exit.thenS]
  refine wpS_of_wp ?_
  rw [show (#[Value.pointer (some { block := bE, off := 0 })] ++
          ((Array.replicate 7 undef).setIfInBounds 1 (Value.iface 78 (Value.agg #[Value.int IntKind.i64 p, Value.int IntKind.i64 e]))).setIfInBounds 0 (Value.iface 78 (Value.agg #[Value.int IntKind.i64 p, Value.int IntKind.i64 e])) : Array Value) = #[Value.pointer (some { block := bE, off := 0 }), Value.iface 78 (Value.agg #[Value.int IntKind.i64 p, Value.int IntKind.i64 e]), Value.iface 78 (Value.agg #[Value.int IntKind.i64 p, Value.int IntKind.i64 e]), undef, undef, undef, undef, undef] from rfl]
  clear hu
  have ha := assertF
  have hf := fieldE
  go_wp2
  simp [bodyPostS, results, Tryd.results32]
theorem widleM (bE : Nat) (w : World) :
    CallsD Tryd.prog 32 #[.pointer (some ⟨bE, 0, none⟩)] .returning w fun en u' w' => en = .returned (.tuple #[]) ∧ u' = .returning ∧ w' = w := by
  refine callsD_of_wpS Tryd.func32 rfl fun c₀ cs hu => ?_
  apply wpS_seq
  apply wpS_region
  simp [wpOpsS, go_sem, recoverD, hu, Tryd.ntmps32, Exit.thenS]
  refine wpS_of_wp ?_
  rw [show (#[Value.pointer (some { block := bE, off := 0 })] ++
          ((Array.replicate 7 undef).setIfInBounds 1 Value.nilIface).setIfInBounds 0 Value.nilIface : Array Value) = #[Value.pointer (some { block := bE, off := 0 }), .nilIface, .nilIface, undef, undef, undef, undef, undef] from rfl]
  go_wp2
  cases c₀
  simp_all [bodyPostS, results, Tryd.results32]
set_option maxRecDepth 100000 in
set_option maxHeartbeats 1000000 in
theorem writtenM_any (is : Array Value) (his : (Tryd.prog.info? 34).map (·.size) = some is.size) (w : World) (hT : Tab w) (R : Except Nat (List Int))
    (HC : ∀ (W : World) (b B : Nat), WS b B W [] → Grew w W → Calls Tryd.prog 15 #[.pointer (some ⟨b, 0, none⟩), .agg is] W (WAns b B W [] R)) :
    Calls Tryd.prog 14 #[.agg is, .func (.func 15) #[] #[]] w (PAns w R) := by
  have hmf : ∀ (fn : Fn) (first cap : Array Value) (w : World), (Instr.makeFunc fn first cap).run Tryd.prog w = .ok (.func fn first cap) w := fun _ _ _ _ => rfl
  have HT : Hid (Tab w) := hT
  have hpos := hT.pos
  have HCC : Hid (∀ (W : World) (b B : Nat), WS b B W [] → Grew w W → Calls Tryd.prog 15 #[.pointer (some ⟨b, 0, none⟩), .agg is] W (WAns b B W [] R)) := HC
  clear hT HC
  go_enter_defers Tryd.func14, Tryd.ntmps14
  go_wp2_with (first
    | (refine at_load 34 rfl ?_; refine wpList_load_row rfl 34 _ rfl w.heap.size rfl 34 is (0, 0) _ (heap_three _ _ _ _).1 Tryd.underlying34 rfl his ?_)
    | fail)
  generalize hW : ((w.alloc (Obj.cells is 34)).alloc (Obj.cells #[Value.int IntKind.i64 0] 39)).alloc (Obj.cells #[Value.slice none 0 0] 80) = W
  have G0 : Hid (Grew w W) := by rw [← hW]; exact (((Grew.refl w).alloc _).alloc _).alloc _
  obtain ⟨X0, E0, o0⟩ : Hid (W.heap[w.heap.size]? = some (.cells is 34 (0, 0))) ∧ Hid (W.heap[w.heap.size + 1]? = some (ic 0 39)) ∧ W.heap[w.heap.size + 1 + 1]? = some (wob (.slice none 0 0)) := by
    rw [← hW]
    exact heap_three _ _ _ _
  have hsz : W.heap.size = w.heap.size + 1 + 1 + 1 := by rw [← hW]; simp
  have S0 : Hid (WS (w.heap.size + 1 + 1) (w.heap.size + 1 + 1 + 1) W []) := ⟨⟨_, o0, World.ownsRow_nil _ _ _ _⟩, by omega, by omega, HT.out.grew G0.out, by omega, by omega⟩
  clear hW o0
  have V := HCC.out W _ _ S0.out G0.out
  cases R with
  | error e =>
    refine V.mono ?_
    rintro en w2 ⟨⟨p, rfl⟩, t2⟩
    have g2 : Grew w w2 := (t2.turn (G0.out.turn _) (by omega)).grew (Grew.refl w) (by intro y hy; simp at hy; omega)
    have E3 := t2.other E0.out (by omega) (by omega)
    have c0 := cell_of E3 0
    simp [ic] at c0
    clear V t2
    unfold flt
    go_wp2_with fail
    refine leaves_cons (f := 32) (args := #[.pointer (some ⟨w.heap.size + 1, 0, none⟩)]) (by simp) (by simp [go_sem]) ?_
    refine (wcaughtM _ p e 0 [] _ E3).mono ?_
    rintro en u' w4 ⟨rfl, rfl, rfl⟩
    simp [Leaves, settle, results, Tryd.results14, go_sem, c0]
    exact ⟨rfl, g2.set (p := ⟨w.heap.size + 1, 0, none⟩) (by simp) _⟩
  | ok m =>
    refine V.mono ?_
    rintro en w2 ⟨rfl, t2, s2⟩
    have G2 : Hid (Grew w w2) := (t2.turn (G0.out.turn _) (by omega)).grew (Grew.refl w) (by intro y hy; simp at hy; omega)
    have E3 : Hid (w2.heap[w.heap.size + 1]? = some (ic 0 39)) := t2.other E0.out (by omega) (by omega)
    obtain ⟨o, ho, hw⟩ := s2.ex
    obtain ⟨oa, oc, rfl⟩ := row_one hw
    have q0 := cell_of ho 0
    have c0 := cell_of E3.out 0
    have y4 := free_of E3.out 0
    simp [ic] at c0
    simp at q0
    have rw1 : w2.ownsRow (w.heap.size + 1 + 1 + 1) 5 1 (.slice oa m.length oc) m.length (U8 m) := by simpa using hw
    have RW : Hid (w2.ownsRow (w.heap.size + 1 + 1 + 1) 5 1 (.slice oa m.length oc) m.length (U8 m)) := rw1
    clear rw1
    clear V t2 s2 ho hw
    go_wp2_with fail
    refine leaves_cons (f := 32) (args := #[.pointer (some ⟨w.heap.size + 1, 0, none⟩)]) (by simp) (by simp [go_sem]) ?_
    refine (widleM _ _).mono ?_
    rintro en u' w5 ⟨rfl, rfl, rfl⟩
    simp [Leaves, settle, results, Tryd.results14, go_sem, c0]
    exact ⟨_, rfl, row_low (row_set RW.out (NoT.of (t := 39) E3.out (by decide)) _) (by omega), G2.out.set (p := ⟨w.heap.size + 1, 0, none⟩) (by simp) _⟩
set_option maxRecDepth 100000 in
set_option maxHeartbeats 1000000 in
theorem pPutExp_any (w : World) (hT : Tab w) (n : List Int) (k a : Int) (hB1 : Byt n) (hs1 : n.length ≤ 140737488351232) (ha0 : 0 ≤ a) (ha1 : a ≤ 4294967295) : Calls Tryd.prog 7 #[.agg #[.string (strOfNums n), .int .i64 k, .int .u32 a]] w (PAns w (expW n k a)) := by
  have C := writtenX_any (strOfNums n) k a (w.alloc (.cells #[.string (strOfNums n), .int .i64 k, .int .u32 a] 37)) (hT.grew ((Grew.refl w).alloc _)) (expW n k a) (fun W b B hS _ => W2.wans (export2 hS n k a hB1 hs1 ha0 ha1 (by simp)))
  clear hT
  generalize expW n k a = R at *
  go_enter Tryd.func7, Tryd.ntmps7
  go_wp2_with fail
  refine C.mono ?_
  intro en w1 ha
  clear C
  cases R with
  | error e =>
    obtain ⟨rfl, g1⟩ := ha
    have G1 : Hid (Grew w w1) := ((Grew.refl w).alloc _).trans g1
    clear g1
    go_wp2_with fail
    go_ret2
    exact ⟨rfl, G1.out⟩
  | ok m =>
    obtain ⟨rv, rfl, r1, g1⟩ := ha
    have G1 : Hid (Grew w w1) := ((Grew.refl w).alloc _).trans g1
    have R1 : Hid (w1.ownsRow w.heap.size 5 1 rv m.length (U8 m)) := row_low r1 (by rw [alloc_size]; omega)
    obtain ⟨ra, rc, rfl⟩ := row_one r1
    clear g1 r1
    go_wp2_with fail
    go_ret2
    exact ⟨_, rfl, R1.out, G1.out⟩
set_option maxRecDepth 100000 in
set_option maxHeartbeats 1000000 in
theorem pPutImp_any (w : World) (hT : Tab w) (m n : List Int) (es : List Value) (X : Except Nat (List Int)) (hB1 : Byt m) (hs1 : m.length ≤ 140737488351232) (hB2 : Byt n) (hs2 : n.length ≤ 140737488351232) (hes : (Tryd.prog.info? 32).map (·.size) = some es.length) (his : (Tryd.prog.info? 34).map (·.size) = some (Value.string (strOfNums m) :: .string (strOfNums n) :: es).toArray.size) (hX : ∀ (b B : Nat) (W : World) (l' : List Int), l'.length ≤ 17592186030000 → WS b B W l' → Calls Tryd.prog 34 #[.pointer (some ⟨b, 0, none⟩), .agg es.toArray] W (W2 b B W l' X)) : Calls Tryd.prog 4 #[.agg (.string (strOfNums m) :: .string (strOfNums n) :: es).toArray] w (PAns w (impW m n X)) := by
  have HI : ∀ (W : World) (b B : Nat), WS b B W [] → Calls Tryd.prog 15 #[.pointer (some ⟨b, 0, none⟩), .agg (.string (strOfNums m) :: .string (strOfNums n) :: es).toArray] W (W2 b B W [] (impW m n X)) := fun W b B hS => import2 hS m n es X hB1 hs1 hB2 hs2 hes (by simp) (hX b B)
  clear hX hes
  generalize (Value.string (strOfNums m) :: .string (strOfNums n) :: es).toArray = is at *
  have C := writtenM_any is his (w.alloc (.cells is 34)) (hT.grew ((Grew.refl w).alloc _)) (impW m n X) (fun W b B hS _ => W2.wans (HI W b B hS))
  clear HI
  clear hT
  generalize impW m n X = R at *
  go_enter Tryd.func4, Tryd.ntmps4
  go_wp2_with (first
    | (refine at_load 34 rfl ?_; refine wpList_load_row rfl 34 _ rfl w.heap.size rfl 34 is (0, 0) _ (heap_alloc_last _ _) Tryd.underlying34 rfl his ?_)
    | fail)
  refine C.mono ?_
  intro en w1 ha
  clear C
  cases R with
  | error e =>
    obtain ⟨rfl, g1⟩ := ha
    have G1 : Hid (Grew w w1) := ((Grew.refl w).alloc _).trans g1
    clear g1
    go_wp2_with fail
    go_ret2
    exact ⟨rfl, G1.out⟩
  | ok m =>
    obtain ⟨rv, rfl, r1, g1⟩ := ha
    have G1 : Hid (Grew w w1) := ((Grew.refl w).alloc _).trans g1
    have R1 : Hid (w1.ownsRow w.heap.size 5 1 rv m.length (U8 m)) := row_low r1 (by rw [alloc_size]; omega)
    obtain ⟨ra, rc, rfl⟩ := row_one r1
    clear g1 r1
    go_wp2_with fail
    go_ret2
    exact ⟨_, rfl, R1.out, G1.out⟩
end Go.Proofs.YtfnfbioenngjoaaDoor

namespace Go.Proofs.YtfnfbioenngjoaaDoor
open Go.RowKit
set_option linter.unusedVariables false
set_option linter.unusedSimpArgs false
set_option linter.constructorNameAsVariable false

theorem needW_ok {ok : Bool} {k : Nat} (h : ok = true) : needW ok k = .ok [] := by subst h; rfl
theorem needW_no {ok : Bool} {k : Nat} (h : ok = false) : needW ok k = .error k := by subst h; rfl
set_option maxRecDepth 100000 in
set_option maxHeartbeats 2000000 in
theorem dexp_ok (w : World) (n : List Int) (k a : Int) (hB1 : Byt n) (hs1 : n.length ≤ 140737488351232) (ha0 : 0 ≤ a) (ha1 : a ≤ 4294967295) (hk : 0 ≤ k ∧ k ≤ 4) :
    Calls Tryd.prog 8 #[.agg #[.string (strOfNums n), .int .i64 k, .int .u32 a]] w (PAns w (expW n k a)) := by
  obtain ⟨c, hc⟩ : ∃ c, c = IntKind.u8.wrap k := ⟨_, rfl⟩
  have hcw : c = k := by rw [hc, IntKind.wrap_u8]; omega
  have hcv : IntKind.u64.wrap a = a := by rw [IntKind.wrap_u64]; omega
  have hwc : IntKind.u8.wrap k = c := hc.symm
  have C1 : Hid (∀ W : World, DW (w.heap.size + 1) (w.heap.size + 1 + 1) W (.ok []) 0 → Calls Tryd.prog 16 #[.pointer (some ⟨w.heap.size + 1, 0, none⟩), .string (strOfNums n)] W (DA (w.heap.size + 1) (w.heap.size + 1 + 1) W (nameW n) 65547)) := fun W u => by
    have := dwName_any u n hB1 hs1 (by omega)
    rwa [thenW_l, Nat.zero_add] at this
  have EE : Hid (thenW (thenW (thenW (nameW n) (needW true 4)) (.ok [c])) (.ok (PU a)) = expW n k a) := by show _ = _; rw [expW, kindW, if_pos hk, hcw]; cases nameW n <;> simp [thenW, needW]
  generalize strOfNums n = s at *
  generalize nameW n = R1 at *
  clear hc hcw
  have d0 : decide (0 ≤ k) = true := by simp; omega
  have d1 : decide (k ≤ 4) = true := by simp; omega
  obtain ⟨w0, hw0⟩ : ∃ w0, ((w.alloc (.cells #[.string s, .int .i64 k, .int .u32 a] 37)).alloc (.cells #[.slice none 0 0, .int .i64 0] 59)) = w0 := ⟨_, rfl⟩
  have S0 : Hid (DW (w.heap.size + 1) (w.heap.size + 1 + 1) w0 (.ok []) 0) := by
    have := dw_new (w.alloc (.cells #[.string s, .int .i64 k, .int .u32 a] 37))
    rw [alloc_size, hw0] at this
    exact this
  have G0 : Hid (Grew w w0) := by rw [← hw0]; exact ((Grew.refl w).alloc _).alloc _
  have X0_0 : Hid (w0.heap[w.heap.size]? = some (.cells #[.string s, .int .i64 k, .int .u32 a] 37 (0, 0))) := by rw [← hw0]; exact heap_alloc (heap_alloc_last _ _) _
  have f00 := cell_of X0_0.out 0
  simp at f00
  go_enter Tryd.func8, Tryd.ntmps8
  go_wp2_with fail
  refine (C1.out _ S0.out).mono ?_
  rintro en w1 ⟨rfl, t1, s1⟩
  have S1 : Hid (DW (w.heap.size + 1) (w.heap.size + 1 + 1) w1 (R1) (65547)) := s1
  have G1 : Hid (Grew w w1) := t1.grew0 G0.out (by omega) (by omega)
  have X0_1 : Hid (w1.heap[w.heap.size]? = some (.cells #[.string s, .int .i64 k, .int .u32 a] 37 (0, 0))) := t1.other X0_0.out (by omega) (NoT.of X0_0.out (by decide))
  clear t1 s1 G0 S0 X0_0
  clear f00 hw0
  have f01 := cell_of X0_1.out 1
  simp at f01
  go_wp2_with fail
  refine (must_any S1.out true 4 (by decide)).mono ?_
  rintro en w2 ⟨rfl, t2, s2⟩
  have S2 : Hid (DW (w.heap.size + 1) (w.heap.size + 1 + 1) w2 (thenW R1 (needW true 4)) (65547)) := s2
  have G2 : Hid (Grew w w2) := t2.grew0 G1.out (by omega) (by omega)
  have X0_2 : Hid (w2.heap[w.heap.size]? = some (.cells #[.string s, .int .i64 k, .int .u32 a] 37 (0, 0))) := t2.other X0_1.out (by omega) (NoT.of X0_1.out (by decide))
  clear t2 s2 G1 S1 X0_1
  clear f01
  have f01 := cell_of X0_2.out 1
  simp at f01
  obtain ⟨o2, er2, l2, h12, h22, h32, h42⟩ := S2.out.ex
  obtain ⟨oa2, oc2, rfl⟩ := row_one h22
  have c02 := cell_of h12 0
  simp at c02
  have R2 : Hid (w2.ownsRow (w.heap.size + 1 + 1) 5 1 (.slice oa2 l2.length oc2) l2.length (U8 l2)) := h22
  have O2 : Hid (w2.heap[(w.heap.size + 1)]? = some (dob (.slice oa2 l2.length oc2) er2)) := h12
  have E2 : Hid (StE (thenW R1 (needW true 4)) l2 er2) := h42
  have hBl2 : (w.heap.size + 1 + 1) ≤ w2.heap.size := S2.out.le
  have c12 := cell_of (heap_alloc O2.out (.cells #[.int .u8 c] 5)) 0
  simp at c12
  clear h12 h22 h42
  go_wp2_with fail
  go_region_law (first
    | (refine step_appG (w0 := w2) (B := (w.heap.size + 1 + 1)) (v := .slice oa2 l2.length oc2) (u := .slice (some ⟨w2.heap.size, 0, none⟩) 1 1) (l := l2) (r := [c]) rfl (.tmp 25) (.tmp 29) rfl rfl rfl (by first | exact ((Grew.refl _).alloc _) | exact ((Grew.refl _).alloc _).drew) R2.out hBl2 (by first | exact reads_new _ _ _ | exact (reads_new _ _ _).below (Grew.refl _).drew.1) (by simp) (by simp; omega) ?_
       intro v3 x3 ho3 hg3
       obtain ⟨a3, cc3, hv3⟩ := row_one ho3
       rw [List.length_append] at hv3
       subst hv3
       have A3 := dw_app (b := (w.heap.size + 1)) (B := (w.heap.size + 1 + 1)) (w := w2.alloc (.cells #[.int .u8 c] 5)) (st := thenW R1 (needW true 4)) (N := 65547) (r := [c]) (heap_alloc O2.out _) (World.ownsRow.alloc R2.out _) h32 E2.out (by omega) (by simp; omega) ho3 ⟨hg3.os, hg3.tape, hg3.output, hg3.size, hg3.block⟩
       have q3 := cell_of A3.1 0
       have z3 := free_of A3.1 0
       simp at q3
       have HA3 : Hid (WT (w.heap.size + 1) (w.heap.size + 1 + 1) (w2.alloc (.cells #[.int .u8 c] 5)) (x3.setCell ⟨w.heap.size + 1, 0, none⟩ (.slice a3 (l2.length + [(c : Int)].length) cc3)) ∧ DW (w.heap.size + 1) (w.heap.size + 1 + 1) (x3.setCell ⟨w.heap.size + 1, 0, none⟩ (.slice a3 (l2.length + [(c : Int)].length) cc3)) (thenW (thenW R1 (needW true 4)) (.ok [c])) (65547 + [(c : Int)].length)) := A3.2
       clear A3 hg3 ho3))
  all_goals

    generalize hw3 : x3.setCell ⟨w.heap.size + 1, 0, none⟩ (.slice a3 (l2.length + [(c : Int)].length) cc3) = w3 at *
    have S3 : Hid (DW (w.heap.size + 1) (w.heap.size + 1 + 1) w3 (thenW (thenW R1 (needW true 4)) (.ok [c])) (65547 + 1)) := HA3.out.2
    have G3 : Hid (Grew w w3) := HA3.out.1.grew0 (G2.out.alloc _) (by omega) (by omega)
    have X0_3 : Hid (w3.heap[w.heap.size]? = some (.cells #[.string s, .int .i64 k, .int .u32 a] 37 (0, 0))) := HA3.out.1.other (heap_alloc X0_2.out _) (by omega) (NoT.of (heap_alloc X0_2.out _) (by decide))
    clear HA3 hw3 q3 z3 G2 S2 c02 c12 R2 O2 E2 hBl2 h32 X0_2
    clear f01
    have f02 := cell_of X0_3.out 2
    simp at f02
    go_wp2_with fail
    refine (du_any S3.out a ha0 (by omega) (by omega)).mono ?_
    rintro en w4 ⟨rfl, t4, s4⟩
    have S4 : Hid (DW (w.heap.size + 1) (w.heap.size + 1 + 1) w4 (thenW (thenW (thenW R1 (needW true 4)) (.ok [c])) (.ok (PU a))) (65547 + 1 + 11)) := s4
    have G4 : Hid (Grew w w4) := t4.grew0 G3.out (by omega) (by omega)
    have X0_4 : Hid (w4.heap[w.heap.size]? = some (.cells #[.string s, .int .i64 k, .int .u32 a] 37 (0, 0))) := t4.other X0_3.out (by omega) (NoT.of X0_3.out (by decide))
    clear t4 s4 G3 S3 X0_3
    clear f02
    go_wp2_with fail
    have CD := done_any S4.out G4.out (by omega)
    rw [EE.out] at CD
    clear S4 G4 X0_4
    refine CD.mono ?_
    intro en w5 ha
    clear CD
    generalize expW n k a = RR at *
    cases RR with
    | error e =>
      obtain ⟨rfl, g1⟩ := ha
      have G1 : Hid (Grew w w5) := g1
      clear g1
      go_wp2_with fail
      go_ret2
      exact ⟨rfl, G1.out⟩
    | ok m =>
      obtain ⟨rv, rfl, r1, g1⟩ := ha
      have G1 : Hid (Grew w w5) := g1
      have R1 : Hid (w5.ownsRow w.heap.size 5 1 rv m.length (U8 m)) := r1
      obtain ⟨ra, rc, rfl⟩ := row_one r1
      clear g1 r1
      go_wp2_with fail
      go_ret2
      exact ⟨_, rfl, R1.out, G1.out⟩
set_option maxRecDepth 100000 in
set_option maxHeartbeats 2000000 in
theorem dexp_no (w : World) (n : List Int) (k a : Int) (hB1 : Byt n) (hs1 : n.length ≤ 140737488351232) (ha0 : 0 ≤ a) (ha1 : a ≤ 4294967295) (hk : ¬ (0 ≤ k ∧ k ≤ 4)) :
    Calls Tryd.prog 8 #[.agg #[.string (strOfNums n), .int .i64 k, .int .u32 a]] w (PAns w (expW n k a)) := by
  obtain ⟨c, hc⟩ : ∃ c, c = IntKind.u8.wrap k := ⟨_, rfl⟩
  have hcv : IntKind.u64.wrap a = a := by rw [IntKind.wrap_u64]; omega
  have hwc : IntKind.u8.wrap k = c := hc.symm
  have C1 : Hid (∀ W : World, DW (w.heap.size + 1) (w.heap.size + 1 + 1) W (.ok []) 0 → Calls Tryd.prog 16 #[.pointer (some ⟨w.heap.size + 1, 0, none⟩), .string (strOfNums n)] W (DA (w.heap.size + 1) (w.heap.size + 1 + 1) W (nameW n) 65547)) := fun W u => by
    have := dwName_any u n hB1 hs1 (by omega)
    rwa [thenW_l, Nat.zero_add] at this
  have EE : Hid (thenW (thenW (thenW (nameW n) (needW false 4)) (.ok [c])) (.ok (PU a)) = expW n k a) := by show _ = _; rw [expW, kindW, if_neg hk]; cases nameW n <;> simp [thenW, needW]
  generalize strOfNums n = s at *
  generalize nameW n = R1 at *
  clear hc
  by_cases h0 : 0 ≤ k
  · have d0 : decide (0 ≤ k) = true := by simp; omega
    have d1 : decide (k ≤ 4) = false := by simp; omega
    obtain ⟨w0, hw0⟩ : ∃ w0, ((w.alloc (.cells #[.string s, .int .i64 k, .int .u32 a] 37)).alloc (.cells #[.slice none 0 0, .int .i64 0] 59)) = w0 := ⟨_, rfl⟩
    have S0 : Hid (DW (w.heap.size + 1) (w.heap.size + 1 + 1) w0 (.ok []) 0) := by
      have := dw_new (w.alloc (.cells #[.string s, .int .i64 k, .int .u32 a] 37))
      rw [alloc_size, hw0] at this
      exact this
    have G0 : Hid (Grew w w0) := by rw [← hw0]; exact ((Grew.refl w).alloc _).alloc _
    have X0_0 : Hid (w0.heap[w.heap.size]? = some (.cells #[.string s, .int .i64 k, .int .u32 a] 37 (0, 0))) := by rw [← hw0]; exact heap_alloc (heap_alloc_last _ _) _
    have f00 := cell_of X0_0.out 0
    simp at f00
    go_enter Tryd.func8, Tryd.ntmps8
    go_wp2_with fail
    refine (C1.out _ S0.out).mono ?_
    rintro en w1 ⟨rfl, t1, s1⟩
    have S1 : Hid (DW (w.heap.size + 1) (w.heap.size + 1 + 1) w1 (R1) (65547)) := s1
    have G1 : Hid (Grew w w1) := t1.grew0 G0.out (by omega) (by omega)
    have X0_1 : Hid (w1.heap[w.heap.size]? = some (.cells #[.string s, .int .i64 k, .int .u32 a] 37 (0, 0))) := t1.other X0_0.out (by omega) (NoT.of X0_0.out (by decide))
    clear t1 s1 G0 S0 X0_0
    clear f00 hw0
    have f01 := cell_of X0_1.out 1
    simp at f01
    go_wp2_with fail
    refine (must_any S1.out false 4 (by decide)).mono ?_
    rintro en w2 ⟨rfl, t2, s2⟩
    have S2 : Hid (DW (w.heap.size + 1) (w.heap.size + 1 + 1) w2 (thenW R1 (needW false 4)) (65547)) := s2
    have G2 : Hid (Grew w w2) := t2.grew0 G1.out (by omega) (by omega)
    have X0_2 : Hid (w2.heap[w.heap.size]? = some (.cells #[.string s, .int .i64 k, .int .u32 a] 37 (0, 0))) := t2.other X0_1.out (by omega) (NoT.of X0_1.out (by decide))
    clear t2 s2 G1 S1 X0_1
    clear f01
    have f01 := cell_of X0_2.out 1
    simp at f01
    obtain ⟨o2, er2, l2, h12, h22, h32, h42⟩ := S2.out.ex
    obtain ⟨oa2, oc2, rfl⟩ := row_one h22
    have c02 := cell_of h12 0
    simp at c02
    have R2 : Hid (w2.ownsRow (w.heap.size + 1 + 1) 5 1 (.slice oa2 l2.length oc2) l2.length (U8 l2)) := h22
    have O2 : Hid (w2.heap[(w.heap.size + 1)]? = some (dob (.slice oa2 l2.length oc2) er2)) := h12
    have E2 : Hid (StE (thenW R1 (needW false 4)) l2 er2) := h42
    have hBl2 : (w.heap.size + 1 + 1) ≤ w2.heap.size := S2.out.le
    have c12 := cell_of (heap_alloc O2.out (.cells #[.int .u8 c] 5)) 0
    simp at c12
    clear h12 h22 h42
    go_wp2_with fail
    go_region_law (first
      | (refine step_appG (w0 := w2) (B := (w.heap.size + 1 + 1)) (v := .slice oa2 l2.length oc2) (u := .slice (some ⟨w2.heap.size, 0, none⟩) 1 1) (l := l2) (r := [c]) rfl (.tmp 25) (.tmp 29) rfl rfl rfl (by first | exact ((Grew.refl _).alloc _) | exact ((Grew.refl _).alloc _).drew) R2.out hBl2 (by first | exact reads_new _ _ _ | exact (reads_new _ _ _).below (Grew.refl _).drew.1) (by simp) (by simp; omega) ?_
         intro v3 x3 ho3 hg3
         obtain ⟨a3, cc3, hv3⟩ := row_one ho3
         rw [List.length_append] at hv3
         subst hv3
         have A3 := dw_app (b := (w.heap.size + 1)) (B := (w.heap.size + 1 + 1)) (w := w2.alloc (.cells #[.int .u8 c] 5)) (st := thenW R1 (needW false 4)) (N := 65547) (r := [c]) (heap_alloc O2.out _) (World.ownsRow.alloc R2.out _) h32 E2.out (by omega) (by simp; omega) ho3 ⟨hg3.os, hg3.tape, hg3.output, hg3.size, hg3.block⟩
         have q3 := cell_of A3.1 0
         have z3 := free_of A3.1 0
         simp at q3
         have HA3 : Hid (WT (w.heap.size + 1) (w.heap.size + 1 + 1) (w2.alloc (.cells #[.int .u8 c] 5)) (x3.setCell ⟨w.heap.size + 1, 0, none⟩ (.slice a3 (l2.length + [(c : Int)].length) cc3)) ∧ DW (w.heap.size + 1) (w.heap.size + 1 + 1) (x3.setCell ⟨w.heap.size + 1, 0, none⟩ (.slice a3 (l2.length + [(c : Int)].length) cc3)) (thenW (thenW R1 (needW false 4)) (.ok [c])) (65547 + [(c : Int)].length)) := A3.2
         clear A3 hg3 ho3))
    all_goals

      generalize hw3 : x3.setCell ⟨w.heap.size + 1, 0, none⟩ (.slice a3 (l2.length + [(c : Int)].length) cc3) = w3 at *
      have S3 : Hid (DW (w.heap.size + 1) (w.heap.size + 1 + 1) w3 (thenW (thenW R1 (needW false 4)) (.ok [c])) (65547 + 1)) := HA3.out.2
      have G3 : Hid (Grew w w3) := HA3.out.1.grew0 (G2.out.alloc _) (by omega) (by omega)
      have X0_3 : Hid (w3.heap[w.heap.size]? = some (.cells #[.string s, .int .i64 k, .int .u32 a] 37 (0, 0))) := HA3.out.1.other (heap_alloc X0_2.out _) (by omega) (NoT.of (heap_alloc X0_2.out _) (by decide))
      clear HA3 hw3 q3 z3 G2 S2 c02 c12 R2 O2 E2 hBl2 h32 X0_2
      clear f01
      have f02 := cell_of X0_3.out 2
      simp at f02
      go_wp2_with fail
      refine (du_any S3.out a ha0 (by omega) (by omega)).mono ?_
      rintro en w4 ⟨rfl, t4, s4⟩
      have S4 : Hid (DW (w.heap.size + 1) (w.heap.size + 1 + 1) w4 (thenW (thenW (thenW R1 (needW false 4)) (.ok [c])) (.ok (PU a))) (65547 + 1 + 11)) := s4
      have G4 : Hid (Grew w w4) := t4.grew0 G3.out (by omega) (by omega)
      have X0_4 : Hid (w4.heap[w.heap.size]? = some (.cells #[.string s, .int .i64 k, .int .u32 a] 37 (0, 0))) := t4.other X0_3.out (by omega) (NoT.of X0_3.out (by decide))
      clear t4 s4 G3 S3 X0_3
      clear f02
      go_wp2_with fail
      have CD := done_any S4.out G4.out (by omega)
      rw [EE.out] at CD
      clear S4 G4 X0_4
      refine CD.mono ?_
      intro en w5 ha
      clear CD
      generalize expW n k a = RR at *
      cases RR with
      | error e =>
        obtain ⟨rfl, g1⟩ := ha
        have G1 : Hid (Grew w w5) := g1
        clear g1
        go_wp2_with fail
        go_ret2
        exact ⟨rfl, G1.out⟩
      | ok m =>
        obtain ⟨rv, rfl, r1, g1⟩ := ha
        have G1 : Hid (Grew w w5) := g1
        have R1 : Hid (w5.ownsRow w.heap.size 5 1 rv m.length (U8 m)) := r1
        obtain ⟨ra, rc, rfl⟩ := row_one r1
        clear g1 r1
        go_wp2_with fail
        go_ret2
        exact ⟨_, rfl, R1.out, G1.out⟩
  · have d0 : decide (0 ≤ k) = false := by simp; omega
    obtain ⟨w0, hw0⟩ : ∃ w0, ((w.alloc (.cells #[.string s, .int .i64 k, .int .u32 a] 37)).alloc (.cells #[.slice none 0 0, .int .i64 0] 59)) = w0 := ⟨_, rfl⟩
    have S0 : Hid (DW (w.heap.size + 1) (w.heap.size + 1 + 1) w0 (.ok []) 0) := by
      have := dw_new (w.alloc (.cells #[.string s, .int .i64 k, .int .u32 a] 37))
      rw [alloc_size, hw0] at this
      exact this
    have G0 : Hid (Grew w w0) := by rw [← hw0]; exact ((Grew.refl w).alloc _).alloc _
    have X0_0 : Hid (w0.heap[w.heap.size]? = some (.cells #[.string s, .int .i64 k, .int .u32 a] 37 (0, 0))) := by rw [← hw0]; exact heap_alloc (heap_alloc_last _ _) _
    have f00 := cell_of X0_0.out 0
    simp at f00
    go_enter Tryd.func8, Tryd.ntmps8
    go_wp2_with fail
    refine (C1.out _ S0.out).mono ?_
    rintro en w1 ⟨rfl, t1, s1⟩
    have S1 : Hid (DW (w.heap.size + 1) (w.heap.size + 1 + 1) w1 (R1) (65547)) := s1
    have G1 : Hid (Grew w w1) := t1.grew0 G0.out (by omega) (by omega)
    have X0_1 : Hid (w1.heap[w.heap.size]? = some (.cells #[.string s, .int .i64 k, .int .u32 a] 37 (0, 0))) := t1.other X0_0.out (by omega) (NoT.of X0_0.out (by decide))
    clear t1 s1 G0 S0 X0_0
    clear f00 hw0
    have f01 := cell_of X0_1.out 1
    simp at f01
    go_wp2_with fail
    refine (must_any S1.out false 4 (by decide)).mono ?_
    rintro en w2 ⟨rfl, t2, s2⟩
    have S2 : Hid (DW (w.heap.size + 1) (w.heap.size + 1 + 1) w2 (thenW R1 (needW false 4)) (65547)) := s2
    have G2 : Hid (Grew w w2) := t2.grew0 G1.out (by omega) (by omega)
    have X0_2 : Hid (w2.heap[w.heap.size]? = some (.cells #[.string s, .int .i64 k, .int .u32 a] 37 (0, 0))) := t2.other X0_1.out (by omega) (NoT.of X0_1.out (by decide))
    clear t2 s2 G1 S1 X0_1
    clear f01
    have f01 := cell_of X0_2.out 1
    simp at f01
    obtain ⟨o2, er2, l2, h12, h22, h32, h42⟩ := S2.out.ex
    obtain ⟨oa2, oc2, rfl⟩ := row_one h22
    have c02 := cell_of h12 0
    simp at c02
    have R2 : Hid (w2.ownsRow (w.heap.size + 1 + 1) 5 1 (.slice oa2 l2.length oc2) l2.length (U8 l2)) := h22
    have O2 : Hid (w2.heap[(w.heap.size + 1)]? = some (dob (.slice oa2 l2.length oc2) er2)) := h12
    have E2 : Hid (StE (thenW R1 (needW false 4)) l2 er2) := h42
    have hBl2 : (w.heap.size + 1 + 1) ≤ w2.heap.size := S2.out.le
    have c12 := cell_of (heap_alloc O2.out (.cells #[.int .u8 c] 5)) 0
    simp at c12
    clear h12 h22 h42
    go_wp2_with fail
    go_region_law (first
      | (refine step_appG (w0 := w2) (B := (w.heap.size + 1 + 1)) (v := .slice oa2 l2.length oc2) (u := .slice (some ⟨w2.heap.size, 0, none⟩) 1 1) (l := l2) (r := [c]) rfl (.tmp 25) (.tmp 29) rfl rfl rfl (by first | exact ((Grew.refl _).alloc _) | exact ((Grew.refl _).alloc _).drew) R2.out hBl2 (by first | exact reads_new _ _ _ | exact (reads_new _ _ _).below (Grew.refl _).drew.1) (by simp) (by simp; omega) ?_
         intro v3 x3 ho3 hg3
         obtain ⟨a3, cc3, hv3⟩ := row_one ho3
         rw [List.length_append] at hv3
         subst hv3
         have A3 := dw_app (b := (w.heap.size + 1)) (B := (w.heap.size + 1 + 1)) (w := w2.alloc (.cells #[.int .u8 c] 5)) (st := thenW R1 (needW false 4)) (N := 65547) (r := [c]) (heap_alloc O2.out _) (World.ownsRow.alloc R2.out _) h32 E2.out (by omega) (by simp; omega) ho3 ⟨hg3.os, hg3.tape, hg3.output, hg3.size, hg3.block⟩
         have q3 := cell_of A3.1 0
         have z3 := free_of A3.1 0
         simp at q3
         have HA3 : Hid (WT (w.heap.size + 1) (w.heap.size + 1 + 1) (w2.alloc (.cells #[.int .u8 c] 5)) (x3.setCell ⟨w.heap.size + 1, 0, none⟩ (.slice a3 (l2.length + [(c : Int)].length) cc3)) ∧ DW (w.heap.size + 1) (w.heap.size + 1 + 1) (x3.setCell ⟨w.heap.size + 1, 0, none⟩ (.slice a3 (l2.length + [(c : Int)].length) cc3)) (thenW (thenW R1 (needW false 4)) (.ok [c])) (65547 + [(c : Int)].length)) := A3.2
         clear A3 hg3 ho3))
    all_goals

      generalize hw3 : x3.setCell ⟨w.heap.size + 1, 0, none⟩ (.slice a3 (l2.length + [(c : Int)].length) cc3) = w3 at *
      have S3 : Hid (DW (w.heap.size + 1) (w.heap.size + 1 + 1) w3 (thenW (thenW R1 (needW false 4)) (.ok [c])) (65547 + 1)) := HA3.out.2
      have G3 : Hid (Grew w w3) := HA3.out.1.grew0 (G2.out.alloc _) (by omega) (by omega)
      have X0_3 : Hid (w3.heap[w.heap.size]? = some (.cells #[.string s, .int .i64 k, .int .u32 a] 37 (0, 0))) := HA3.out.1.other (heap_alloc X0_2.out _) (by omega) (NoT.of (heap_alloc X0_2.out _) (by decide))
      clear HA3 hw3 q3 z3 G2 S2 c02 c12 R2 O2 E2 hBl2 h32 X0_2
      clear f01
      have f02 := cell_of X0_3.out 2
      simp at f02
      go_wp2_with fail
      refine (du_any S3.out a ha0 (by omega) (by omega)).mono ?_
      rintro en w4 ⟨rfl, t4, s4⟩
      have S4 : Hid (DW (w.heap.size + 1) (w.heap.size + 1 + 1) w4 (thenW (thenW (thenW R1 (needW false 4)) (.ok [c])) (.ok (PU a))) (65547 + 1 + 11)) := s4
      have G4 : Hid (Grew w w4) := t4.grew0 G3.out (by omega) (by omega)
      have X0_4 : Hid (w4.heap[w.heap.size]? = some (.cells #[.string s, .int .i64 k, .int .u32 a] 37 (0, 0))) := t4.other X0_3.out (by omega) (NoT.of X0_3.out (by decide))
      clear t4 s4 G3 S3 X0_3
      clear f02
      go_wp2_with fail
      have CD := done_any S4.out G4.out (by omega)
      rw [EE.out] at CD
      clear S4 G4 X0_4
      refine CD.mono ?_
      intro en w5 ha
      clear CD
      generalize expW n k a = RR at *
      cases RR with
      | error e =>
        obtain ⟨rfl, g1⟩ := ha
        have G1 : Hid (Grew w w5) := g1
        clear g1
        go_wp2_with fail
        go_ret2
        exact ⟨rfl, G1.out⟩
      | ok m =>
        obtain ⟨rv, rfl, r1, g1⟩ := ha
        have G1 : Hid (Grew w w5) := g1
        have R1 : Hid (w5.ownsRow w.heap.size 5 1 rv m.length (U8 m)) := r1
        obtain ⟨ra, rc, rfl⟩ := row_one r1
        clear g1 r1
        go_wp2_with fail
        go_ret2
        exact ⟨_, rfl, R1.out, G1.out⟩
theorem dPutExp_any (w : World) (n : List Int) (k a : Int) (hB1 : Byt n) (hs1 : n.length ≤ 140737488351232) (ha0 : 0 ≤ a) (ha1 : a ≤ 4294967295) :
    Calls Tryd.prog 8 #[.agg #[.string (strOfNums n), .int .i64 k, .int .u32 a]] w (PAns w (expW n k a)) := by
  by_cases hk : 0 ≤ k ∧ k ≤ 4
  · exact dexp_ok w n k a hB1 hs1 ha0 ha1 hk
  · exact dexp_no w n k a hB1 hs1 ha0 ha1 hk
end Go.Proofs.YtfnfbioenngjoaaDoor
