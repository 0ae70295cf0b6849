/-
  The walk of the document's Sig; no statement is proved here.
-/
import Derived.Test.YtjfiggkjdbnjeaaDoorSgF
import Derived.Test.YtjfiggkjdbnjeaaDoorSamV
import Derived.Test.YtjfiggkjdbnjeaaDoorFindW
namespace Go.Proofs.YtjfiggkjdbnjeaaDoor
open Go.RowKit
set_option linter.unusedVariables false
set_option linter.unusedSimpArgs false

def NT (n : Int) : VT := ⟨n, false, 0⟩
theorem row1_new (w : World) (n : Int) (B : Nat) (hB : B ≤ w.heap.size) : RowV B (w.alloc (.cells #[.int .i64 n, .bool false, .int .i64 0] 27 (0, 0))) (.slice (some ⟨w.heap.size, 0, none⟩) 1 1) [NT n] :=
  ⟨rfl, Or.inr ⟨w.heap.size, 1, _, rfl, hB, heap_alloc_last w _, Nat.le_refl _, by decide, rfl, rfl⟩⟩
theorem refNm (op : Int) (h0 : -9223372036854775808 ≤ op) (h1 : op ≤ 9223372036854775807) (w : World) :
    Calls Tryd.prog 29 #[.int .i64 op] w fun e w' => e = .returned (.string (BA (nameP op))) ∧ Grew w w' := by
  have := refName_any op h0 h1 w
  rwa [← names_same] at this
theorem BA_empty (l : List UInt8) : ((BA l).toList == []) = l.isEmpty := by rw [BA_toList]; cases l <;> rfl
set_option maxRecDepth 100000 in
set_option maxHeartbeats 1000000 in
theorem rsig_e (op : Int) (h0 : -9223372036854775808 ≤ op) (h1 : op ≤ 9223372036854775807) (he : nameP op = []) (w : World) :
    Calls Tryd.prog 12 #[.int .i64 op] w fun e w' => e = .returned (.tuple #[.slice none 0 0, .slice none 0 0, .bool false]) ∧ Grew w w' := by
  have C := refNm op h0 h1 w
  have hz : (BA (nameP op)).toList.isEmpty = true := by rw [BA_toList, he]; rfl
  clear he
  generalize BA (nameP op) = N at *
  go_enter Tryd.func12, Tryd.ntmps12
  go_wp2_with fail
  refine C.mono ?_
  rintro e w1 ⟨rfl, g1⟩
  have G1 : Hid (Grew w w1) := g1
  clear g1 C
  go_wp2_with fail
  exact bodyPost_ret (v := .tuple #[.slice none 0 0, .slice none 0 0, .bool false]) (by simp [results, Tryd.results12, go_sem]) rfl ⟨rfl, G1.out⟩
set_option maxRecDepth 100000 in
set_option maxHeartbeats 1000000 in
theorem rsig_a (op : Int) (h0 : -9223372036854775808 ≤ op) (h1 : op ≤ 9223372036854775807) (he : nameP op ≠ []) (a1 : ¬ 65 ≤ op) (w : World) :
    Calls Tryd.prog 12 #[.int .i64 op] w fun e w' => e = .returned (.tuple #[.slice none 0 0, .slice none 0 0, .bool false]) ∧ Grew w w' := by
  have C := refNm op h0 h1 w
  have hz : (BA (nameP op)).toList.isEmpty = false := by rw [BA_toList]; cases hc : nameP op with
    | nil => exact absurd hc he
    | cons a l => rfl
  clear he
  have a2 : ¬ 64512 ≤ op := by omega
  generalize BA (nameP op) = N at *
  go_enter Tryd.func12, Tryd.ntmps12
  go_wp2_with fail
  refine C.mono ?_
  rintro e w1 ⟨rfl, g1⟩
  have G1 : Hid (Grew w w1) := g1
  clear g1 C
  go_wp2_with fail
  exact bodyPost_ret (v := .tuple #[.slice none 0 0, .slice none 0 0, .bool false]) (by simp [results, Tryd.results12, go_sem]) rfl ⟨rfl, G1.out⟩
set_option maxRecDepth 100000 in
set_option maxHeartbeats 1000000 in
theorem rsig_b (op : Int) (h0 : -9223372036854775808 ≤ op) (h1 : op ≤ 9223372036854775807) (he : nameP op ≠ []) (a1 : 65 ≤ op) (a2 : ¬ op ≤ 196) (a3 : ¬ 64512 ≤ op) (w : World) :
    Calls Tryd.prog 12 #[.int .i64 op] w fun e w' => e = .returned (.tuple #[.slice none 0 0, .slice none 0 0, .bool false]) ∧ Grew w w' := by
  have C := refNm op h0 h1 w
  have hz : (BA (nameP op)).toList.isEmpty = false := by rw [BA_toList]; cases hc : nameP op with
    | nil => exact absurd hc he
    | cons a l => rfl
  clear he
  have e1 : decide (op ≤ 196) = false := by simpa using a2
  generalize BA (nameP op) = N at *
  go_enter Tryd.func12, Tryd.ntmps12
  go_wp2_with fail
  refine C.mono ?_
  rintro e w1 ⟨rfl, g1⟩
  have G1 : Hid (Grew w w1) := g1
  clear g1 C
  go_wp2_with fail
  exact bodyPost_ret (v := .tuple #[.slice none 0 0, .slice none 0 0, .bool false]) (by simp [results, Tryd.results12, go_sem]) rfl ⟨rfl, G1.out⟩
set_option maxRecDepth 100000 in
set_option maxHeartbeats 1000000 in
theorem rsig_c (op : Int) (h0 : -9223372036854775808 ≤ op) (h1 : op ≤ 9223372036854775807) (he : nameP op ≠ []) (a1 : 65 ≤ op) (a2 : ¬ op ≤ 196) (a3 : 64512 ≤ op) (a4 : ¬ op ≤ 64519) (w : World) :
    Calls Tryd.prog 12 #[.int .i64 op] w fun e w' => e = .returned (.tuple #[.slice none 0 0, .slice none 0 0, .bool false]) ∧ Grew w w' := by
  have C := refNm op h0 h1 w
  have hz : (BA (nameP op)).toList.isEmpty = false := by rw [BA_toList]; cases hc : nameP op with
    | nil => exact absurd hc he
    | cons a l => rfl
  clear he
  have e1 : decide (op ≤ 196) = false := by simpa using a2
  have e2 : decide (op ≤ 64519) = false := by simpa using a4
  generalize BA (nameP op) = N at *
  go_enter Tryd.func12, Tryd.ntmps12
  go_wp2_with fail
  refine C.mono ?_
  rintro e w1 ⟨rfl, g1⟩
  have G1 : Hid (Grew w w1) := g1
  clear g1 C
  go_wp2_with fail
  exact bodyPost_ret (v := .tuple #[.slice none 0 0, .slice none 0 0, .bool false]) (by simp [results, Tryd.results12, go_sem]) rfl ⟨rfl, G1.out⟩
theorem rsig_no (op : Int) (h0 : -9223372036854775808 ≤ op) (h1 : op ≤ 9223372036854775807) (h : isOpB op = false) (w : World) :
    Calls Tryd.prog 12 #[.int .i64 op] w fun e w' => e = .returned (.tuple #[.slice none 0 0, .slice none 0 0, .bool false]) ∧ Grew w w' := by
  unfold isOpB at h
  simp only [Bool.or_eq_false_iff, decide_eq_false_iff_not] at h
  by_cases he : nameP op = []
  · exact rsig_e op h0 h1 he w
  · by_cases a1 : 65 ≤ op
    · by_cases a3 : 64512 ≤ op
      · exact rsig_c op h0 h1 he a1 (by omega) a3 (by omega) w
      · exact rsig_b op h0 h1 he a1 (by omega) a3 w
    · exact rsig_a op h0 h1 he a1 w
set_option maxRecDepth 100000 in
set_option maxHeartbeats 4000000 in
theorem rsig_lo (op : Int) (a1 : 65 ≤ op) (a2 : op ≤ 196) (hN : 6 ≤ (nameP op).length) (hM : (nameP op).length ≤ 1000) (hroom : roomB (nameP op) = true) (w : World) :
    Calls Tryd.prog 12 #[.int .i64 op] w fun e w' => ∃ u v, e = .returned (.tuple #[u, v, .bool true]) ∧ RowV w.heap.size w' u ((takesD op).map NT) ∧ RowV w.heap.size w' v ((givesD op).map NT) ∧ Grew w w' := by
  have C : Hid (Calls Tryd.prog 29 #[.int .i64 op] w fun e w' => e = .returned (.string (BA (nameP op))) ∧ Grew w w') := refNm op (by omega) (by omega) w
  have hz : (BA (nameP op)).toList.isEmpty = false := by rw [BA_toList]; cases hc : nameP op with
    | nil => rw [hc] at hN; simp at hN
    | cons a l => rfl
  have hTk : Hid (takesD op = if (nameP op).drop 4 = [99, 111, 110, 115, 116] then [] else if fromP (nameP op) ≠ 0 then [fromP (nameP op)] else if oneP ((nameP op).drop 4) = true then [letterP ((nameP op).take 3)] else [letterP ((nameP op).take 3), letterP ((nameP op).take 3)]) := rfl
  have hGv : Hid (givesD op = if (nameP op).drop 4 ≠ [99, 111, 110, 115, 116] ∧ fromP (nameP op) = 0 ∧ 69 ≤ op ∧ op ≤ 102 then [1] else [letterP ((nameP op).take 3)]) := rfl
  have CL : Hid (∀ W, Calls Tryd.prog 41 #[.string (BA ((nameP op).take 3))] W fun e w' => e = .returned (.int .i64 (letterP ((nameP op).take 3))) ∧ w' = W) := fun W => letter_any _ W
  have CF : Hid (∀ W, Calls Tryd.prog 43 #[.string (BA (nameP op))] W fun e w' => e = .returned (.int .i64 (fromP (nameP op))) ∧ Grew W w') := fun W => from_any _ hM hroom W
  have CO : Hid (∀ W, Calls Tryd.prog 44 #[.string (BA ((nameP op).drop 4))] W fun e w' => e = .returned (.bool (oneP ((nameP op).drop 4))) ∧ Grew W w') := fun W => one_any _ W
  have s1 : ∀ W, (Instr.slice 9 (.string (BA (nameP op))) none (some (.int .i64 3)) none).run Tryd.prog W = .ok (.string (BA ((nameP op).take 3))) W := by
    intro W
    rw [run_slice_string_to_if W 9 _ _ _ Tryd.underlying9, if_pos ⟨by omega, by rw [BA_size]; omega⟩, show ((3 : Int)).toNat = 3 from rfl, BA_extract]
    rfl
  have s2 : ∀ W, (Instr.slice 9 (.string (BA (nameP op))) (some (.int .i64 4)) none none).run Tryd.prog W = .ok (.string (BA ((nameP op).drop 4))) W := by
    intro W
    rw [run_slice_string_from_if W 9 _ _ _ Tryd.underlying9, if_pos ⟨by omega, by rw [BA_size]; omega⟩, show ((4 : Int)).toNat = 4 from rfl, BA_extract, BA_size, List.take_length]
  have hcst := BA_lit ((nameP op).drop 4) [99, 111, 110, 115, 116]
  generalize (nameP op).drop 4 = D at *
  generalize letterP ((nameP op).take 3) = O at *
  generalize fromP (nameP op) = F at *
  generalize BA ((nameP op).take 3) = T3 at *
  generalize BA (nameP op) = N at *
  generalize BA D = DB at *
  clear hN hM hroom
  by_cases hc : D = [99, 111, 110, 115, 116]
  · rw [decide_eq_true hc] at hcst
    have hT : takesD op = [] := by rw [hTk.out, if_pos hc]
    have hG : givesD op = [O] := by rw [hGv.out, if_neg (fun h => h.1 hc)]
    clear hTk hGv hc CF CO
    go_enter Tryd.func12, Tryd.ntmps12
    go_wp2_with fail
    refine C.out.mono ?_
    rintro e w1 ⟨rfl, g1⟩
    have G1 : Hid (Grew w w1) := g1
    clear g1 C
    go_wp2_with fail
    refine (CL.out _).mono ?_
    rintro e w2 ⟨rfl, hw2⟩
    obtain rfl := hw2.symm
    clear CL
    go_wp2_with fail
    refine (num_any O _).mono ?_
    rintro e w3 ⟨rfl, g3⟩
    have G3 : Hid (Grew w w3) := G1.out.trans g3
    clear g3
    go_wp2_with fail
    have hb := G3.out.2
    rw [hT, hG]
    exact bodyPost_ret (v := .tuple #[.slice none 0 0, .slice (some ⟨w3.heap.size, 0, none⟩) 1 1, .bool true]) (by simp [results, Tryd.results12, go_sem]) rfl ⟨_, _, rfl, World.ownsRow_nil _ _ _ _, row1_new w3 O _ hb, G3.out.alloc _⟩
  · rw [decide_eq_false hc] at hcst
    by_cases hf : F = 0
    · have hF : (F != 0) = false := by simpa using hf
      by_cases ho : oneP D = true
      · rw [ho] at CO
        skip
        have hT : takesD op = [O] := by rw [hTk.out, if_neg hc, if_neg (fun h => h hf), if_pos ho]
        by_cases b1 : 69 ≤ op
        · by_cases b2 : op ≤ 102
          · have hG : givesD op = [1] := by rw [hGv.out, if_pos ⟨hc, hf, b1, b2⟩]
            clear hTk hGv hc hf ho
            go_enter Tryd.func12, Tryd.ntmps12
            go_wp2_with fail
            refine C.out.mono ?_
            rintro e w1 ⟨rfl, g1⟩
            have G1 : Hid (Grew w w1) := g1
            clear g1 C
            go_wp2_with fail
            refine (CL.out _).mono ?_
            rintro e w2 ⟨rfl, hw2⟩
            obtain rfl := hw2.symm
            clear CL
            go_wp2_with fail
            refine (CF.out _).mono ?_
            rintro e w3 ⟨rfl, g3⟩
            have G3 : Hid (Grew w w3) := G1.out.trans g3
            clear g3
            go_wp2_with fail
            refine (num_any O _).mono ?_
            rintro e w4 ⟨rfl, g4⟩
            have G4 : Hid (Grew w w4) := G3.out.trans g4
            clear g4
            go_wp2_with fail
            refine (CO.out _).mono ?_
            rintro e w5 ⟨rfl, g5⟩
            have hb4 := G4.out.2
            have G5 : Hid (Grew w w5) := (G4.out.alloc _).trans g5
            have R5 : Hid (RowV w.heap.size w5 (.slice (some ⟨w4.heap.size, 0, none⟩) 1 1) [NT O]) := (row1_new w4 O _ hb4).grow g5
            have hb5 := G5.out.2
            clear g5
            go_wp2_with fail
            refine (num_any 1 _).mono ?_
            rintro e w6 ⟨rfl, g6⟩
            have G6 : Hid (Grew w w6) := G5.out.trans g6
            have R6 : Hid (RowV w.heap.size w6 (.slice (some ⟨w4.heap.size, 0, none⟩) 1 1) [NT O]) := R5.out.grow g6
            clear g6
            go_wp2_with fail
            have hb := G6.out.2
            rw [hT, hG]
            exact bodyPost_ret (v := .tuple #[.slice (some ⟨w4.heap.size, 0, none⟩) 1 1, .slice (some ⟨w6.heap.size, 0, none⟩) 1 1, .bool true]) (by simp [results, Tryd.results12, go_sem]) rfl ⟨_, _, rfl, R6.out.grow ((Grew.refl w6).alloc _), row1_new w6 1 _ hb, G6.out.alloc _⟩
          · have hG : givesD op = [O] := by rw [hGv.out, if_neg (fun h => b2 h.2.2.2)]
            clear hTk hGv hc hf ho
            go_enter Tryd.func12, Tryd.ntmps12
            go_wp2_with fail
            refine C.out.mono ?_
            rintro e w1 ⟨rfl, g1⟩
            have G1 : Hid (Grew w w1) := g1
            clear g1 C
            go_wp2_with fail
            refine (CL.out _).mono ?_
            rintro e w2 ⟨rfl, hw2⟩
            obtain rfl := hw2.symm
            clear CL
            go_wp2_with fail
            refine (CF.out _).mono ?_
            rintro e w3 ⟨rfl, g3⟩
            have G3 : Hid (Grew w w3) := G1.out.trans g3
            clear g3
            go_wp2_with fail
            refine (num_any O _).mono ?_
            rintro e w4 ⟨rfl, g4⟩
            have G4 : Hid (Grew w w4) := G3.out.trans g4
            clear g4
            go_wp2_with fail
            refine (CO.out _).mono ?_
            rintro e w5 ⟨rfl, g5⟩
            have hb4 := G4.out.2
            have G5 : Hid (Grew w w5) := (G4.out.alloc _).trans g5
            have R5 : Hid (RowV w.heap.size w5 (.slice (some ⟨w4.heap.size, 0, none⟩) 1 1) [NT O]) := (row1_new w4 O _ hb4).grow g5
            have hb5 := G5.out.2
            clear g5
            go_wp2_with fail
            refine (num_any O _).mono ?_
            rintro e w6 ⟨rfl, g6⟩
            have G6 : Hid (Grew w w6) := G5.out.trans g6
            have R6 : Hid (RowV w.heap.size w6 (.slice (some ⟨w4.heap.size, 0, none⟩) 1 1) [NT O]) := R5.out.grow g6
            clear g6
            go_wp2_with fail
            have hb := G6.out.2
            rw [hT, hG]
            exact bodyPost_ret (v := .tuple #[.slice (some ⟨w4.heap.size, 0, none⟩) 1 1, .slice (some ⟨w6.heap.size, 0, none⟩) 1 1, .bool true]) (by simp [results, Tryd.results12, go_sem]) rfl ⟨_, _, rfl, R6.out.grow ((Grew.refl w6).alloc _), row1_new w6 O _ hb, G6.out.alloc _⟩
        · have hG : givesD op = [O] := by rw [hGv.out, if_neg (fun h => b1 h.2.2.1)]
          clear hTk hGv hc hf ho
          go_enter Tryd.func12, Tryd.ntmps12
          go_wp2_with fail
          refine C.out.mono ?_
          rintro e w1 ⟨rfl, g1⟩
          have G1 : Hid (Grew w w1) := g1
          clear g1 C
          go_wp2_with fail
          refine (CL.out _).mono ?_
          rintro e w2 ⟨rfl, hw2⟩
          obtain rfl := hw2.symm
          clear CL
          go_wp2_with fail
          refine (CF.out _).mono ?_
          rintro e w3 ⟨rfl, g3⟩
          have G3 : Hid (Grew w w3) := G1.out.trans g3
          clear g3
          go_wp2_with fail
          refine (num_any O _).mono ?_
          rintro e w4 ⟨rfl, g4⟩
          have G4 : Hid (Grew w w4) := G3.out.trans g4
          clear g4
          go_wp2_with fail
          refine (CO.out _).mono ?_
          rintro e w5 ⟨rfl, g5⟩
          have hb4 := G4.out.2
          have G5 : Hid (Grew w w5) := (G4.out.alloc _).trans g5
          have R5 : Hid (RowV w.heap.size w5 (.slice (some ⟨w4.heap.size, 0, none⟩) 1 1) [NT O]) := (row1_new w4 O _ hb4).grow g5
          have hb5 := G5.out.2
          clear g5
          go_wp2_with fail
          refine (num_any O _).mono ?_
          rintro e w6 ⟨rfl, g6⟩
          have G6 : Hid (Grew w w6) := G5.out.trans g6
          have R6 : Hid (RowV w.heap.size w6 (.slice (some ⟨w4.heap.size, 0, none⟩) 1 1) [NT O]) := R5.out.grow g6
          clear g6
          go_wp2_with fail
          have hb := G6.out.2
          rw [hT, hG]
          exact bodyPost_ret (v := .tuple #[.slice (some ⟨w4.heap.size, 0, none⟩) 1 1, .slice (some ⟨w6.heap.size, 0, none⟩) 1 1, .bool true]) (by simp [results, Tryd.results12, go_sem]) rfl ⟨_, _, rfl, R6.out.grow ((Grew.refl w6).alloc _), row1_new w6 O _ hb, G6.out.alloc _⟩
      · have ho2 : oneP D = false := by simpa using ho
        rw [ho2] at CO
        have hT : takesD op = [O, O] := by rw [hTk.out, if_neg hc, if_neg (fun h => h hf), if_neg ho]
        by_cases b1 : 69 ≤ op
        · by_cases b2 : op ≤ 102
          · have hG : givesD op = [1] := by rw [hGv.out, if_pos ⟨hc, hf, b1, b2⟩]
            clear hTk hGv hc hf ho
            go_enter Tryd.func12, Tryd.ntmps12
            go_wp2_with fail
            refine C.out.mono ?_
            rintro e w1 ⟨rfl, g1⟩
            have G1 : Hid (Grew w w1) := g1
            clear g1 C
            go_wp2_with fail
            refine (CL.out _).mono ?_
            rintro e w2 ⟨rfl, hw2⟩
            obtain rfl := hw2.symm
            clear CL
            go_wp2_with fail
            refine (CF.out _).mono ?_
            rintro e w3 ⟨rfl, g3⟩
            have G3 : Hid (Grew w w3) := G1.out.trans g3
            clear g3
            go_wp2_with fail
            refine (num_any O _).mono ?_
            rintro e w4 ⟨rfl, g4⟩
            have G4 : Hid (Grew w w4) := G3.out.trans g4
            clear g4
            go_wp2_with fail
            refine (CO.out _).mono ?_
            rintro e w5 ⟨rfl, g5⟩
            have hb4 := G4.out.2
            have G5 : Hid (Grew w w5) := (G4.out.alloc _).trans g5
            have R5 : Hid (RowV w.heap.size w5 (.slice (some ⟨w4.heap.size, 0, none⟩) 1 1) [NT O]) := (row1_new w4 O _ hb4).grow g5
            have hb5 := G5.out.2
            clear g5
            go_wp2_with fail
            refine (num_any O _).mono ?_
            rintro e w6 ⟨rfl, g6⟩
            have G6 : Hid (Grew w w6) := G5.out.trans g6
            have R6 : RowV w.heap.size w6 (.slice (some ⟨w4.heap.size, 0, none⟩) 1 1) [NT O] := R5.out.grow g6
            have hb6 := G6.out.2
            clear g6
            go_wp2_with (at_builtin; refine wp_app1 rfl (.tmp 56) (.tmp 59) 32 27 3 24 (.agg #[.int .i64 0, .bool false, .int .i64 0]) Tryd.underlying32 (by kernel_rfl) rfl (by decide) (by decide) rfl w.heap.size rfl rfl R6 (by omega) rfl (by intro u hu; simp at hu; rcases hu with rfl | rfl | rfl <;> rfl) (by simp) ?_; intro v' w' hv' ht' hb')
            have G7 : Hid (Grew w w') := grew_tb G6.out ht' (Nat.le_refl _) (Nat.le_refl _)
            have R7 : Hid (RowV w.heap.size w' v' [NT O, NT O]) := hv'
            obtain ⟨va7, vc7, hv7⟩ := row_one hv'
            subst hv7
            clear hv' ht' hb'
            go_wp2_with fail
            refine (num_any 1 _).mono ?_
            rintro e w8 ⟨rfl, g8⟩
            have G8 : Hid (Grew w w8) := G7.out.trans g8
            have R8 : Hid (RowV w.heap.size w8 (.slice va7 2 vc7) [NT O, NT O]) := R7.out.grow g8
            clear g8
            go_wp2_with fail
            have hb := G8.out.2
            rw [hT, hG]
            exact bodyPost_ret (v := .tuple #[.slice va7 2 vc7, .slice (some ⟨w8.heap.size, 0, none⟩) 1 1, .bool true]) (by simp [results, Tryd.results12, go_sem]) rfl ⟨_, _, rfl, R8.out.grow ((Grew.refl w8).alloc _), row1_new w8 1 _ hb, G8.out.alloc _⟩
          · have hG : givesD op = [O] := by rw [hGv.out, if_neg (fun h => b2 h.2.2.2)]
            clear hTk hGv hc hf ho
            go_enter Tryd.func12, Tryd.ntmps12
            go_wp2_with fail
            refine C.out.mono ?_
            rintro e w1 ⟨rfl, g1⟩
            have G1 : Hid (Grew w w1) := g1
            clear g1 C
            go_wp2_with fail
            refine (CL.out _).mono ?_
            rintro e w2 ⟨rfl, hw2⟩
            obtain rfl := hw2.symm
            clear CL
            go_wp2_with fail
            refine (CF.out _).mono ?_
            rintro e w3 ⟨rfl, g3⟩
            have G3 : Hid (Grew w w3) := G1.out.trans g3
            clear g3
            go_wp2_with fail
            refine (num_any O _).mono ?_
            rintro e w4 ⟨rfl, g4⟩
            have G4 : Hid (Grew w w4) := G3.out.trans g4
            clear g4
            go_wp2_with fail
            refine (CO.out _).mono ?_
            rintro e w5 ⟨rfl, g5⟩
            have hb4 := G4.out.2
            have G5 : Hid (Grew w w5) := (G4.out.alloc _).trans g5
            have R5 : Hid (RowV w.heap.size w5 (.slice (some ⟨w4.heap.size, 0, none⟩) 1 1) [NT O]) := (row1_new w4 O _ hb4).grow g5
            have hb5 := G5.out.2
            clear g5
            go_wp2_with fail
            refine (num_any O _).mono ?_
            rintro e w6 ⟨rfl, g6⟩
            have G6 : Hid (Grew w w6) := G5.out.trans g6
            have R6 : RowV w.heap.size w6 (.slice (some ⟨w4.heap.size, 0, none⟩) 1 1) [NT O] := R5.out.grow g6
            have hb6 := G6.out.2
            clear g6
            go_wp2_with (at_builtin; refine wp_app1 rfl (.tmp 56) (.tmp 59) 32 27 3 24 (.agg #[.int .i64 0, .bool false, .int .i64 0]) Tryd.underlying32 (by kernel_rfl) rfl (by decide) (by decide) rfl w.heap.size rfl rfl R6 (by omega) rfl (by intro u hu; simp at hu; rcases hu with rfl | rfl | rfl <;> rfl) (by simp) ?_; intro v' w' hv' ht' hb')
            have G7 : Hid (Grew w w') := grew_tb G6.out ht' (Nat.le_refl _) (Nat.le_refl _)
            have R7 : Hid (RowV w.heap.size w' v' [NT O, NT O]) := hv'
            obtain ⟨va7, vc7, hv7⟩ := row_one hv'
            subst hv7
            clear hv' ht' hb'
            go_wp2_with fail
            refine (num_any O _).mono ?_
            rintro e w8 ⟨rfl, g8⟩
            have G8 : Hid (Grew w w8) := G7.out.trans g8
            have R8 : Hid (RowV w.heap.size w8 (.slice va7 2 vc7) [NT O, NT O]) := R7.out.grow g8
            clear g8
            go_wp2_with fail
            have hb := G8.out.2
            rw [hT, hG]
            exact bodyPost_ret (v := .tuple #[.slice va7 2 vc7, .slice (some ⟨w8.heap.size, 0, none⟩) 1 1, .bool true]) (by simp [results, Tryd.results12, go_sem]) rfl ⟨_, _, rfl, R8.out.grow ((Grew.refl w8).alloc _), row1_new w8 O _ hb, G8.out.alloc _⟩
        · have hG : givesD op = [O] := by rw [hGv.out, if_neg (fun h => b1 h.2.2.1)]
          clear hTk hGv hc hf ho
          go_enter Tryd.func12, Tryd.ntmps12
          go_wp2_with fail
          refine C.out.mono ?_
          rintro e w1 ⟨rfl, g1⟩
          have G1 : Hid (Grew w w1) := g1
          clear g1 C
          go_wp2_with fail
          refine (CL.out _).mono ?_
          rintro e w2 ⟨rfl, hw2⟩
          obtain rfl := hw2.symm
          clear CL
          go_wp2_with fail
          refine (CF.out _).mono ?_
          rintro e w3 ⟨rfl, g3⟩
          have G3 : Hid (Grew w w3) := G1.out.trans g3
          clear g3
          go_wp2_with fail
          refine (num_any O _).mono ?_
          rintro e w4 ⟨rfl, g4⟩
          have G4 : Hid (Grew w w4) := G3.out.trans g4
          clear g4
          go_wp2_with fail
          refine (CO.out _).mono ?_
          rintro e w5 ⟨rfl, g5⟩
          have hb4 := G4.out.2
          have G5 : Hid (Grew w w5) := (G4.out.alloc _).trans g5
          have R5 : Hid (RowV w.heap.size w5 (.slice (some ⟨w4.heap.size, 0, none⟩) 1 1) [NT O]) := (row1_new w4 O _ hb4).grow g5
          have hb5 := G5.out.2
          clear g5
          go_wp2_with fail
          refine (num_any O _).mono ?_
          rintro e w6 ⟨rfl, g6⟩
          have G6 : Hid (Grew w w6) := G5.out.trans g6
          have R6 : RowV w.heap.size w6 (.slice (some ⟨w4.heap.size, 0, none⟩) 1 1) [NT O] := R5.out.grow g6
          have hb6 := G6.out.2
          clear g6
          go_wp2_with (at_builtin; refine wp_app1 rfl (.tmp 56) (.tmp 59) 32 27 3 24 (.agg #[.int .i64 0, .bool false, .int .i64 0]) Tryd.underlying32 (by kernel_rfl) rfl (by decide) (by decide) rfl w.heap.size rfl rfl R6 (by omega) rfl (by intro u hu; simp at hu; rcases hu with rfl | rfl | rfl <;> rfl) (by simp) ?_; intro v' w' hv' ht' hb')
          have G7 : Hid (Grew w w') := grew_tb G6.out ht' (Nat.le_refl _) (Nat.le_refl _)
          have R7 : Hid (RowV w.heap.size w' v' [NT O, NT O]) := hv'
          obtain ⟨va7, vc7, hv7⟩ := row_one hv'
          subst hv7
          clear hv' ht' hb'
          go_wp2_with fail
          refine (num_any O _).mono ?_
          rintro e w8 ⟨rfl, g8⟩
          have G8 : Hid (Grew w w8) := G7.out.trans g8
          have R8 : Hid (RowV w.heap.size w8 (.slice va7 2 vc7) [NT O, NT O]) := R7.out.grow g8
          clear g8
          go_wp2_with fail
          have hb := G8.out.2
          rw [hT, hG]
          exact bodyPost_ret (v := .tuple #[.slice va7 2 vc7, .slice (some ⟨w8.heap.size, 0, none⟩) 1 1, .bool true]) (by simp [results, Tryd.results12, go_sem]) rfl ⟨_, _, rfl, R8.out.grow ((Grew.refl w8).alloc _), row1_new w8 O _ hb, G8.out.alloc _⟩
    · have hF : (F != 0) = true := by simpa using hf
      have hT : takesD op = [F] := by rw [hTk.out, if_neg hc, if_pos hf]
      have hG : givesD op = [O] := by rw [hGv.out, if_neg (fun h => hf h.2.1)]
      clear hTk hGv hc hf CO
      go_enter Tryd.func12, Tryd.ntmps12
      go_wp2_with fail
      refine C.out.mono ?_
      rintro e w1 ⟨rfl, g1⟩
      have G1 : Hid (Grew w w1) := g1
      clear g1 C
      go_wp2_with fail
      refine (CL.out _).mono ?_
      rintro e w2 ⟨rfl, hw2⟩
      obtain rfl := hw2.symm
      clear CL
      go_wp2_with fail
      refine (CF.out _).mono ?_
      rintro e w3 ⟨rfl, g3⟩
      have G3 : Hid (Grew w w3) := G1.out.trans g3
      clear g3
      go_wp2_with fail
      refine (CF.out _).mono ?_
      rintro e w4 ⟨rfl, g4⟩
      have G4 : Hid (Grew w w4) := G3.out.trans g4
      clear g4
      go_wp2_with fail
      refine (num_any F _).mono ?_
      rintro e w5 ⟨rfl, g5⟩
      have G5 : Hid (Grew w w5) := G4.out.trans g5
      clear g5
      go_wp2_with fail
      refine (num_any O _).mono ?_
      rintro e w6 ⟨rfl, g6⟩
      have G6 : Hid (Grew w w6) := (G5.out.alloc _).trans g6
      have hb5 := G5.out.2
      have R5 : Hid (RowV w.heap.size w6 (.slice (some ⟨w5.heap.size, 0, none⟩) 1 1) [NT F]) := (row1_new w5 F _ hb5).grow g6
      clear g6
      go_wp2_with fail
      have hb := G6.out.2
      rw [hT, hG]
      exact bodyPost_ret (v := .tuple #[.slice (some ⟨w5.heap.size, 0, none⟩) 1 1, .slice (some ⟨w6.heap.size, 0, none⟩) 1 1, .bool true]) (by simp [results, Tryd.results12, go_sem]) rfl ⟨_, _, rfl, R5.out.grow ((Grew.refl w6).alloc _), row1_new w6 O _ hb, G6.out.alloc _⟩
set_option maxRecDepth 100000 in
set_option maxHeartbeats 4000000 in
theorem rsig_hi (op : Int) (a1 : 65 ≤ op) (a2 : ¬ op ≤ 196) (a3 : 64512 ≤ op) (a4 : op ≤ 64519) (hN : 6 ≤ (nameP op).length) (hM : (nameP op).length ≤ 1000) (hroom : roomB (nameP op) = true) (w : World) :
    Calls Tryd.prog 12 #[.int .i64 op] w fun e w' => ∃ u v, e = .returned (.tuple #[u, v, .bool true]) ∧ RowV w.heap.size w' u ((takesD op).map NT) ∧ RowV w.heap.size w' v ((givesD op).map NT) ∧ Grew w w' := by
  have C : Hid (Calls Tryd.prog 29 #[.int .i64 op] w fun e w' => e = .returned (.string (BA (nameP op))) ∧ Grew w w') := refNm op (by omega) (by omega) w
  have hz : (BA (nameP op)).toList.isEmpty = false := by rw [BA_toList]; cases hc : nameP op with
    | nil => rw [hc] at hN; simp at hN
    | cons a l => rfl
  have hTk : Hid (takesD op = if (nameP op).drop 4 = [99, 111, 110, 115, 116] then [] else if fromP (nameP op) ≠ 0 then [fromP (nameP op)] else if oneP ((nameP op).drop 4) = true then [letterP ((nameP op).take 3)] else [letterP ((nameP op).take 3), letterP ((nameP op).take 3)]) := rfl
  have hGv : Hid (givesD op = if (nameP op).drop 4 ≠ [99, 111, 110, 115, 116] ∧ fromP (nameP op) = 0 ∧ 69 ≤ op ∧ op ≤ 102 then [1] else [letterP ((nameP op).take 3)]) := rfl
  have CL : Hid (∀ W, Calls Tryd.prog 41 #[.string (BA ((nameP op).take 3))] W fun e w' => e = .returned (.int .i64 (letterP ((nameP op).take 3))) ∧ w' = W) := fun W => letter_any _ W
  have CF : Hid (∀ W, Calls Tryd.prog 43 #[.string (BA (nameP op))] W fun e w' => e = .returned (.int .i64 (fromP (nameP op))) ∧ Grew W w') := fun W => from_any _ hM hroom W
  have CO : Hid (∀ W, Calls Tryd.prog 44 #[.string (BA ((nameP op).drop 4))] W fun e w' => e = .returned (.bool (oneP ((nameP op).drop 4))) ∧ Grew W w') := fun W => one_any _ W
  have s1 : ∀ W, (Instr.slice 9 (.string (BA (nameP op))) none (some (.int .i64 3)) none).run Tryd.prog W = .ok (.string (BA ((nameP op).take 3))) W := by
    intro W
    rw [run_slice_string_to_if W 9 _ _ _ Tryd.underlying9, if_pos ⟨by omega, by rw [BA_size]; omega⟩, show ((3 : Int)).toNat = 3 from rfl, BA_extract]
    rfl
  have s2 : ∀ W, (Instr.slice 9 (.string (BA (nameP op))) (some (.int .i64 4)) none none).run Tryd.prog W = .ok (.string (BA ((nameP op).drop 4))) W := by
    intro W
    rw [run_slice_string_from_if W 9 _ _ _ Tryd.underlying9, if_pos ⟨by omega, by rw [BA_size]; omega⟩, show ((4 : Int)).toNat = 4 from rfl, BA_extract, BA_size, List.take_length]
  have hcst := BA_lit ((nameP op).drop 4) [99, 111, 110, 115, 116]
  generalize (nameP op).drop 4 = D at *
  generalize letterP ((nameP op).take 3) = O at *
  generalize fromP (nameP op) = F at *
  generalize BA ((nameP op).take 3) = T3 at *
  generalize BA (nameP op) = N at *
  generalize BA D = DB at *
  clear hN hM hroom
  by_cases hc : D = [99, 111, 110, 115, 116]
  · rw [decide_eq_true hc] at hcst
    have hT : takesD op = [] := by rw [hTk.out, if_pos hc]
    have hG : givesD op = [O] := by rw [hGv.out, if_neg (fun h => h.1 hc)]
    clear hTk hGv hc CF CO
    go_enter Tryd.func12, Tryd.ntmps12
    go_wp2_with fail
    refine C.out.mono ?_
    rintro e w1 ⟨rfl, g1⟩
    have G1 : Hid (Grew w w1) := g1
    clear g1 C
    go_wp2_with fail
    refine (CL.out _).mono ?_
    rintro e w2 ⟨rfl, hw2⟩
    obtain rfl := hw2.symm
    clear CL
    go_wp2_with fail
    refine (num_any O _).mono ?_
    rintro e w3 ⟨rfl, g3⟩
    have G3 : Hid (Grew w w3) := G1.out.trans g3
    clear g3
    go_wp2_with fail
    have hb := G3.out.2
    rw [hT, hG]
    exact bodyPost_ret (v := .tuple #[.slice none 0 0, .slice (some ⟨w3.heap.size, 0, none⟩) 1 1, .bool true]) (by simp [results, Tryd.results12, go_sem]) rfl ⟨_, _, rfl, World.ownsRow_nil _ _ _ _, row1_new w3 O _ hb, G3.out.alloc _⟩
  · rw [decide_eq_false hc] at hcst
    by_cases hf : F = 0
    · have hF : (F != 0) = false := by simpa using hf
      by_cases ho : oneP D = true
      · rw [ho] at CO
        skip
        have hT : takesD op = [O] := by rw [hTk.out, if_neg hc, if_neg (fun h => h hf), if_pos ho]
        have b1 : 69 ≤ op := by omega
        have b2 : ¬ op ≤ 102 := by omega
        have hG : givesD op = [O] := by rw [hGv.out, if_neg (fun h => b2 h.2.2.2)]
        clear hTk hGv hc hf ho
        go_enter Tryd.func12, Tryd.ntmps12
        go_wp2_with fail
        refine C.out.mono ?_
        rintro e w1 ⟨rfl, g1⟩
        have G1 : Hid (Grew w w1) := g1
        clear g1 C
        go_wp2_with fail
        refine (CL.out _).mono ?_
        rintro e w2 ⟨rfl, hw2⟩
        obtain rfl := hw2.symm
        clear CL
        go_wp2_with fail
        refine (CF.out _).mono ?_
        rintro e w3 ⟨rfl, g3⟩
        have G3 : Hid (Grew w w3) := G1.out.trans g3
        clear g3
        go_wp2_with fail
        refine (num_any O _).mono ?_
        rintro e w4 ⟨rfl, g4⟩
        have G4 : Hid (Grew w w4) := G3.out.trans g4
        clear g4
        go_wp2_with fail
        refine (CO.out _).mono ?_
        rintro e w5 ⟨rfl, g5⟩
        have hb4 := G4.out.2
        have G5 : Hid (Grew w w5) := (G4.out.alloc _).trans g5
        have R5 : Hid (RowV w.heap.size w5 (.slice (some ⟨w4.heap.size, 0, none⟩) 1 1) [NT O]) := (row1_new w4 O _ hb4).grow g5
        have hb5 := G5.out.2
        clear g5
        go_wp2_with fail
        refine (num_any O _).mono ?_
        rintro e w6 ⟨rfl, g6⟩
        have G6 : Hid (Grew w w6) := G5.out.trans g6
        have R6 : Hid (RowV w.heap.size w6 (.slice (some ⟨w4.heap.size, 0, none⟩) 1 1) [NT O]) := R5.out.grow g6
        clear g6
        go_wp2_with fail
        have hb := G6.out.2
        rw [hT, hG]
        exact bodyPost_ret (v := .tuple #[.slice (some ⟨w4.heap.size, 0, none⟩) 1 1, .slice (some ⟨w6.heap.size, 0, none⟩) 1 1, .bool true]) (by simp [results, Tryd.results12, go_sem]) rfl ⟨_, _, rfl, R6.out.grow ((Grew.refl w6).alloc _), row1_new w6 O _ hb, G6.out.alloc _⟩
      · have ho2 : oneP D = false := by simpa using ho
        rw [ho2] at CO
        have hT : takesD op = [O, O] := by rw [hTk.out, if_neg hc, if_neg (fun h => h hf), if_neg ho]
        have b1 : 69 ≤ op := by omega
        have b2 : ¬ op ≤ 102 := by omega
        have hG : givesD op = [O] := by rw [hGv.out, if_neg (fun h => b2 h.2.2.2)]
        clear hTk hGv hc hf ho
        go_enter Tryd.func12, Tryd.ntmps12
        go_wp2_with fail
        refine C.out.mono ?_
        rintro e w1 ⟨rfl, g1⟩
        have G1 : Hid (Grew w w1) := g1
        clear g1 C
        go_wp2_with fail
        refine (CL.out _).mono ?_
        rintro e w2 ⟨rfl, hw2⟩
        obtain rfl := hw2.symm
        clear CL
        go_wp2_with fail
        refine (CF.out _).mono ?_
        rintro e w3 ⟨rfl, g3⟩
        have G3 : Hid (Grew w w3) := G1.out.trans g3
        clear g3
        go_wp2_with fail
        refine (num_any O _).mono ?_
        rintro e w4 ⟨rfl, g4⟩
        have G4 : Hid (Grew w w4) := G3.out.trans g4
        clear g4
        go_wp2_with fail
        refine (CO.out _).mono ?_
        rintro e w5 ⟨rfl, g5⟩
        have hb4 := G4.out.2
        have G5 : Hid (Grew w w5) := (G4.out.alloc _).trans g5
        have R5 : Hid (RowV w.heap.size w5 (.slice (some ⟨w4.heap.size, 0, none⟩) 1 1) [NT O]) := (row1_new w4 O _ hb4).grow g5
        have hb5 := G5.out.2
        clear g5
        go_wp2_with fail
        refine (num_any O _).mono ?_
        rintro e w6 ⟨rfl, g6⟩
        have G6 : Hid (Grew w w6) := G5.out.trans g6
        have R6 : RowV w.heap.size w6 (.slice (some ⟨w4.heap.size, 0, none⟩) 1 1) [NT O] := R5.out.grow g6
        have hb6 := G6.out.2
        clear g6
        go_wp2_with (at_builtin; refine wp_app1 rfl (.tmp 56) (.tmp 59) 32 27 3 24 (.agg #[.int .i64 0, .bool false, .int .i64 0]) Tryd.underlying32 (by kernel_rfl) rfl (by decide) (by decide) rfl w.heap.size rfl rfl R6 (by omega) rfl (by intro u hu; simp at hu; rcases hu with rfl | rfl | rfl <;> rfl) (by simp) ?_; intro v' w' hv' ht' hb')
        have G7 : Hid (Grew w w') := grew_tb G6.out ht' (Nat.le_refl _) (Nat.le_refl _)
        have R7 : Hid (RowV w.heap.size w' v' [NT O, NT O]) := hv'
        obtain ⟨va7, vc7, hv7⟩ := row_one hv'
        subst hv7
        clear hv' ht' hb'
        go_wp2_with fail
        refine (num_any O _).mono ?_
        rintro e w8 ⟨rfl, g8⟩
        have G8 : Hid (Grew w w8) := G7.out.trans g8
        have R8 : Hid (RowV w.heap.size w8 (.slice va7 2 vc7) [NT O, NT O]) := R7.out.grow g8
        clear g8
        go_wp2_with fail
        have hb := G8.out.2
        rw [hT, hG]
        exact bodyPost_ret (v := .tuple #[.slice va7 2 vc7, .slice (some ⟨w8.heap.size, 0, none⟩) 1 1, .bool true]) (by simp [results, Tryd.results12, go_sem]) rfl ⟨_, _, rfl, R8.out.grow ((Grew.refl w8).alloc _), row1_new w8 O _ hb, G8.out.alloc _⟩
    · have hF : (F != 0) = true := by simpa using hf
      have hT : takesD op = [F] := by rw [hTk.out, if_neg hc, if_pos hf]
      have hG : givesD op = [O] := by rw [hGv.out, if_neg (fun h => hf h.2.1)]
      clear hTk hGv hc hf CO
      go_enter Tryd.func12, Tryd.ntmps12
      go_wp2_with fail
      refine C.out.mono ?_
      rintro e w1 ⟨rfl, g1⟩
      have G1 : Hid (Grew w w1) := g1
      clear g1 C
      go_wp2_with fail
      refine (CL.out _).mono ?_
      rintro e w2 ⟨rfl, hw2⟩
      obtain rfl := hw2.symm
      clear CL
      go_wp2_with fail
      refine (CF.out _).mono ?_
      rintro e w3 ⟨rfl, g3⟩
      have G3 : Hid (Grew w w3) := G1.out.trans g3
      clear g3
      go_wp2_with fail
      refine (CF.out _).mono ?_
      rintro e w4 ⟨rfl, g4⟩
      have G4 : Hid (Grew w w4) := G3.out.trans g4
      clear g4
      go_wp2_with fail
      refine (num_any F _).mono ?_
      rintro e w5 ⟨rfl, g5⟩
      have G5 : Hid (Grew w w5) := G4.out.trans g5
      clear g5
      go_wp2_with fail
      refine (num_any O _).mono ?_
      rintro e w6 ⟨rfl, g6⟩
      have G6 : Hid (Grew w w6) := (G5.out.alloc _).trans g6
      have hb5 := G5.out.2
      have R5 : Hid (RowV w.heap.size w6 (.slice (some ⟨w5.heap.size, 0, none⟩) 1 1) [NT F]) := (row1_new w5 F _ hb5).grow g6
      clear g6
      go_wp2_with fail
      have hb := G6.out.2
      rw [hT, hG]
      exact bodyPost_ret (v := .tuple #[.slice (some ⟨w5.heap.size, 0, none⟩) 1 1, .slice (some ⟨w6.heap.size, 0, none⟩) 1 1, .bool true]) (by simp [results, Tryd.results12, go_sem]) rfl ⟨_, _, rfl, R5.out.grow ((Grew.refl w6).alloc _), row1_new w6 O _ hb, G6.out.alloc _⟩
theorem rsig_yes (op : Int) (h : isOpB op = true) (w : World) :
    Calls Tryd.prog 12 #[.int .i64 op] w fun e w' => ∃ u v, e = .returned (.tuple #[u, v, .bool true]) ∧ RowV w.heap.size w' u ((takesD op).map NT) ∧ RowV w.heap.size w' v ((givesD op).map NT) ∧ Grew w w' := by
  obtain ⟨⟨_, h2, h3⟩, h4⟩ := sig_all h
  unfold isOpB at h
  simp only [Bool.or_eq_true, decide_eq_true_eq] at h
  rcases h with h | h
  · exact rsig_lo op h.1 h.2 h3 h4 h2 w
  · exact rsig_hi op (by omega) (by omega) h.1 h.2 h3 h4 h2 w
end Go.Proofs.YtjfiggkjdbnjeaaDoor
