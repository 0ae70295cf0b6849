/-
  The program's writer: flags, value types, fields; no statement is proved here.
-/
import Derived.Test.YthchhehmbldmdaaDoorCNum
namespace Go.Proofs.YthchhehmbldmdaaDoor
open Go.RowKit
set_option linter.unusedVariables false
set_option linter.unusedSimpArgs false

/- The writer holds these bytes. -/
def WrS (wb B : Nat) (w : World) (cs : List Value) : Prop := (∃ v, BX w wb 125 v ∧ w.ownsRow B 5 1 v cs.length cs) ∧ B ≤ wb ∧ Lib.TabBelow Tryd.prog B w "internal/strconv.uint64pow10" .u64 Lib.pow10Tab
theorem WrS.le {wb B : Nat} {w : World} {cs : List Value} (h : WrS wb B w cs) : B ≤ w.heap.size := by
  obtain ⟨⟨v, hb, _⟩, hw, _⟩ := h
  have := lt_of_obj hb
  omega
theorem WrS.lt {wb B : Nat} {w : World} {cs : List Value} (h : WrS wb B w cs) : wb < w.heap.size := by
  obtain ⟨⟨v, hb, _⟩, _⟩ := h
  exact lt_of_obj hb
theorem WrS.grew {wb B : Nat} {w w' : World} {cs : List Value} (h : WrS wb B w cs) (g : Grew w w') : WrS wb B w' cs := by
  have hB := h.le
  obtain ⟨⟨v, hb, hr⟩, hw, ht⟩ := h
  exact ⟨⟨v, hb.grew g, row_grew hr g⟩, hw, ht.on (g.1.mono hB)⟩
def R64 (n : Int) : Prop := -9223372036854775808 ≤ n ∧ n ≤ 9223372036854775807
/- A call that writes d. -/
def Writes (wb B : Nat) (f : FuncId) (args : Array Value) (w : World) (d : List Value) : Prop :=
  ∀ w' cs, WrT wb B w w' → WrS wb B w' cs → cs.length + d.length ≤ 140737480000000 → Calls Tryd.prog f args w' fun en w'' => en = .returned UNIT ∧ WrS wb B w'' (cs ++ d) ∧ WrT wb B w' w''
theorem numC_length (n : Int) : (numC n).length = (Lib.itoa n).length + 1 := by simp [numC, Lib.byteCells]
theorem number_wr {wb B : Nat} {w : World} {n : Int} (hn : R64 n) : Writes wb B 71 #[.pointer (some ⟨wb, 0, none⟩), .int .i64 n] w (numC n) := by
  intro w' cs _ hS hl
  obtain ⟨⟨v, hb, hr⟩, hw, ht⟩ := hS
  rw [numC_length] at hl
  refine (number_any hb hr hw ht hn.1 hn.2 (by omega)).mono ?_
  rintro en w1 ⟨rfl, ⟨v', hb', hr'⟩, ht', T⟩
  refine ⟨rfl, ⟨⟨v', hb', ?_⟩, hw, ht'⟩, T⟩
  have e : (cs ++ numC n).length = cs.length + (Lib.itoa n).length + 1 := by rw [List.length_append, numC_length]; omega
  rw [e]
  exact hr'
def flagC (b : Bool) : List Value := numC (if b then 1 else 0)
set_option maxRecDepth 100000 in
theorem flag_wr {wb B : Nat} {w : World} {b : Bool} : Writes wb B 69 #[.pointer (some ⟨wb, 0, none⟩), .bool b] w (flagC b) := by
  intro w' cs T hS hl
  unfold flagC at *
  cases b with
  | true =>
    have C : Hid _ := number_wr (wb := wb) (B := B) (w := w) (n := 1) (by unfold R64; omega) w' cs T hS hl
    clear hS
    go_enter Tryd.func69, Tryd.ntmps69
    go_wp2_with fail
    refine Calls.mono C.out ?_
    rintro en w1 ⟨rfl, h1, T1⟩
    go_wp2_with fail
    go_end0
    exact ⟨rfl, h1, T1⟩
  | false =>
    have C : Hid _ := number_wr (wb := wb) (B := B) (w := w) (n := 0) (by unfold R64; omega) w' cs T hS hl
    clear hS
    go_enter Tryd.func69, Tryd.ntmps69
    go_wp2_with fail
    refine Calls.mono C.out ?_
    rintro en w1 ⟨rfl, h1, T1⟩
    go_wp2_with fail
    go_end0
    exact ⟨rfl, h1, T1⟩
def VT.t (x : VT) : List Value := numC x.num ++ flagC x.null ++ numC x.heap
set_option maxRecDepth 100000 in
set_option maxHeartbeats 1000000 in
theorem val_wr {wb B : Nat} {w : World} {x : VT} (h1 : R64 x.num) (h2 : R64 x.heap) : Writes wb B 73 #[.pointer (some ⟨wb, 0, none⟩), x.v] w x.t := by
  intro w' cs T hS hl
  obtain ⟨n, z, h⟩ := x
  unfold VT.t at *
  unfold VT.v
  simp only at *
  rw [List.length_append, List.length_append] at hl
  have HS : Hid (WrS wb B w' cs) := hS
  have hB := hS.le
  have hwl : wb < w'.heap.size := hS.lt
  clear hS
  go_enter Tryd.func73, Tryd.ntmps73
  go_wp2_with fail
  generalize hW : (w'.alloc (.cells #[.int .i64 n, .bool z, .int .i64 h] 100)) = W
  obtain ⟨G0, A0⟩ : Hid (Grew w' W) ∧ Hid (W.heap[w'.heap.size]? = some (.cells #[.int .i64 n, .bool z, .int .i64 h] 100 (0, 0))) := by
    rw [← hW]; exact ⟨(Grew.refl _).alloc _, heap_alloc_last _ _⟩
  clear hW
  have hne : w'.heap.size ≠ wb := by omega
  refine Calls.mono (number_wr h1 W cs (WrT.refl _ _ _) (HS.out.grew G0.out) (by omega)) ?_
  rintro en w1 ⟨rfl, S1, T1⟩
  have A1 := T1.other A0.out hne (by decide)
  have HS1 : Hid (WrS wb B w1 (cs ++ numC n)) := S1
  have HT1 : Hid (WrT wb B w' w1) := (WrT.of_grew G0.out hB).trans T1
  have HA1 : Hid (w1.heap[w'.heap.size]? = some (.cells #[.int .i64 n, .bool z, .int .i64 h] 100 (0, 0))) := A1
  have c0 := cell_of A1 0
  have c1 := cell_of A1 1
  have c2 := cell_of A1 2
  simp at c0 c1 c2
  clear S1 T1 A1
  go_wp2_with fail
  refine Calls.mono (flag_wr (w := w1) w1 _ (WrT.refl _ _ _) HS1.out (by rw [List.length_append]; omega)) ?_
  rintro en w2 ⟨rfl, S2, T2⟩
  have A2 := T2.other HA1.out hne (by decide)
  have HS2 : Hid (WrS wb B w2 (cs ++ numC n ++ flagC z)) := S2
  have HT2 : Hid (WrT wb B w' w2) := HT1.out.trans T2
  have k0 := cell_of A2 0
  have k1 := cell_of A2 1
  have k2 := cell_of A2 2
  simp at k0 k1 k2
  clear S2 T2 A2 HS1 HT1 c0 c1 c2
  go_wp2_with fail
  refine Calls.mono (number_wr h2 w2 _ (WrT.refl _ _ _) HS2.out (by rw [List.length_append, List.length_append]; omega)) ?_
  rintro en w3 ⟨rfl, S3, T3⟩
  have HS3 : Hid (WrS wb B w3 (cs ++ numC n ++ flagC z ++ numC h)) := S3
  have HT3 : Hid (WrT wb B w' w3) := HT2.out.trans T3
  clear S3 T3
  go_wp2_with fail
  go_end0
  refine ⟨rfl, ?_, HT3.out⟩
  have e : cs ++ (numC n ++ flagC z ++ numC h) = cs ++ numC n ++ flagC z ++ numC h := by simp [List.append_assoc]
  rw [e]
  exact HS3.out
end Go.Proofs.YthchhehmbldmdaaDoor
