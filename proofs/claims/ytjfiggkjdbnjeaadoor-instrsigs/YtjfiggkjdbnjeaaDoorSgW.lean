/-
  The walk of the document's Width; no statement is proved here.
-/
import Derived.Test.YtjfiggkjdbnjeaaDoorSgR
namespace Go.Proofs.YtjfiggkjdbnjeaaDoor
open Go.RowKit
set_option linter.unusedVariables false
set_option linter.unusedSimpArgs false

def rwv (n b : Int) (st sg ok : Bool) : Value := .tuple #[.agg #[.int .i64 n, .bool false, .int .i64 0], .int .i64 b, .bool st, .bool sg, .bool ok]
set_option maxRecDepth 100000 in
theorem rwidth_no (op : Int) (h : op < 40 ∨ 62 < op) (w : World) :
    Calls Tryd.prog 15 #[.int .i64 op] w fun e w' => e = .returned (rwv 0 0 false false false) ∧ Grew w w' := by
  rcases h with h | h
  · have d1 : decide (op < 40) = true := by simpa using h
    go_enter Tryd.func15, Tryd.ntmps15
    go_wp2
    exact bodyPost_ret (v := rwv 0 0 false false false) (by simp [results, Tryd.results15, go_sem, rwv]) rfl ⟨rfl, (Grew.refl w).alloc _⟩
  · have d1 : decide (op < 40) = false := by simp; omega
    have d2 : decide (62 < op) = true := by simpa using h
    go_enter Tryd.func15, Tryd.ntmps15
    go_wp2
    exact bodyPost_ret (v := rwv 0 0 false false false) (by simp [results, Tryd.results15, go_sem, rwv]) rfl ⟨rfl, (Grew.refl w).alloc _⟩
set_option maxRecDepth 100000 in
set_option maxHeartbeats 4000000 in
theorem rwidth_yes (op : Int) (h0 : 40 ≤ op) (h1 : op ≤ 62) (hN : 6 ≤ (nameP op).length) (hM : (nameP op).length ≤ 1000) (w : World) :
    Calls Tryd.prog 15 #[.int .i64 op] w fun e w' => e = .returned (rwv (letterP ((nameP op).take 3)) (widthD op) (storeD op) (signD op) true) ∧ Grew w w' := by
  have d1 : decide (op < 40) = false := by simp; omega
  have d2 : decide (62 < op) = false := by simp; omega
  have C : Hid (∀ W, Calls Tryd.prog 29 #[.int .i64 op] W fun e w' => e = .returned (.string (BA (nameP op))) ∧ Grew W w') := fun W => refNm op (by omega) (by omega) W
  have CL : Hid (∀ W, Calls Tryd.prog 41 #[.string (BA ((nameP op).take 3))] W fun e w' => e = .returned (.int .i64 (letterP ((nameP op).take 3))) ∧ w' = W) := fun W => letter_any _ W
  have CB : Hid (∀ W, Calls Tryd.prog 46 #[.agg #[.int .i64 (letterP ((nameP op).take 3)), .bool false, .int .i64 0]] W fun e w' => e = .returned (.int .i64 (bytesD (letterP ((nameP op).take 3)))) ∧ Grew W w') := fun W => bytes_any _ (letter_in _) W
  have C8 : Hid (∀ W, Calls Tryd.prog 47 #[.string (BA (nameP op)), .string (BA [56])] W fun e w' => e = .returned (.int .i64 (withinP (nameP op) [56])) ∧ w' = W) := fun W => within_any _ _ (by omega) (by simp) (by simp) W
  have C16 : Hid (∀ W, Calls Tryd.prog 47 #[.string (BA (nameP op)), .string (BA [49, 54])] W fun e w' => e = .returned (.int .i64 (withinP (nameP op) [49, 54])) ∧ w' = W) := fun W => within_any _ _ (by omega) (by simp) (by simp) W
  have C32 : Hid (∀ W, Calls Tryd.prog 47 #[.string (BA ((nameP op).drop 3)), .string (BA [51, 50])] W fun e w' => e = .returned (.int .i64 (withinP ((nameP op).drop 3) [51, 50])) ∧ w' = W) := fun W => within_any _ _ (by simp; omega) (by simp) (by simp) W
  obtain ⟨F, HF⟩ : ∃ F : ByteArray → Int, ∀ q, F (BA q) = withinP (nameP op) q := ⟨fun p => withinP (nameP op) p.data.toList, fun q => rfl⟩
  have C47 : Hid (∀ (p : ByteArray) W, p.data.toList ≠ [] → p.data.toList.length ≤ 10000 → Calls Tryd.prog 47 #[.string (BA (nameP op)), .string p] W fun e w' => e = .returned (.int .i64 (F p)) ∧ w' = W) := by
    intro p W h1 h2
    obtain ⟨q, rfl⟩ : ∃ q, p = BA q := ⟨p.data.toList, by cases p; rfl⟩
    rw [HF]
    exact within_any _ _ (by omega) h1 h2 W
  have fS : F ⟨#[115, 116, 111, 114, 101]⟩ = withinP (nameP op) [115, 116, 111, 114, 101] := HF [115, 116, 111, 114, 101]
  have fG : F ⟨#[95, 115]⟩ = withinP (nameP op) [95, 115] := HF [95, 115]
  clear HF
  have s1 : ∀ W, (Instr.slice 9 (.string (BA (nameP op))) none (some (.int .i64 3)) none).run Tryd.prog W = .ok (.string (BA ((nameP op).take 3))) W := by
    intro W
    rw [run_slice_string_to_if W 9 _ _ _ Tryd.underlying9, if_pos ⟨by omega, by rw [BA_size]; omega⟩, show ((3 : Int)).toNat = 3 from rfl, BA_extract]
    rfl
  have s2 : ∀ W, (Instr.slice 9 (.string (BA (nameP op))) (some (.int .i64 3)) none none).run Tryd.prog W = .ok (.string (BA ((nameP op).drop 3))) W := by
    intro W
    rw [run_slice_string_from_if W 9 _ _ _ Tryd.underlying9, if_pos ⟨by omega, by rw [BA_size]; omega⟩, show ((3 : Int)).toNat = 3 from rfl, BA_extract, BA_size, List.take_length]
  have hsz := BA_size (nameP op)
  obtain ⟨k, hk⟩ : ∃ k : Nat, (nameP op).length = k + 2 := ⟨(nameP op).length - 2, by omega⟩
  have s3 : ∀ W, (Instr.slice 9 (.string (BA (nameP op))) (some (.int .i64 (k : Int))) none none).run Tryd.prog W = .ok (.string (BA ((nameP op).drop ((nameP op).length - 2)))) W := by
    intro W
    rw [run_slice_string_from_if W 9 _ _ _ Tryd.underlying9, if_pos ⟨by omega, by rw [BA_size]; omega⟩, Int.toNat_natCast, BA_extract, BA_size, List.take_length, show (nameP op).length - 2 = k by omega]
  have hq := BA_lit ((nameP op).drop ((nameP op).length - 2)) [95, 115]
  have EW : Hid (widthD op = if 0 ≤ withinP ((nameP op).drop 3) [51, 50] then 4 else if 0 ≤ withinP (nameP op) [49, 54] then 2 else if 3 ≤ withinP (nameP op) [56] then 1 else bytesD (letterP ((nameP op).take 3))) := rfl
  have ES : Hid (storeD op = decide (0 ≤ withinP (nameP op) [115, 116, 111, 114, 101])) := rfl
  have EG : Hid (signD op = (decide (0 ≤ withinP (nameP op) [95, 115]) && decide ((nameP op).drop ((nameP op).length - 2) = [95, 115]))) := rfl
  generalize decide ((nameP op).drop ((nameP op).length - 2) = [95, 115]) = sgn at *
  generalize BA ((nameP op).drop ((nameP op).length - 2)) = TL at *
  generalize widthD op = WD at *
  generalize storeD op = SD at *
  generalize signD op = GD at *
  generalize withinP ((nameP op).drop 3) [51, 50] = i32 at *
  generalize withinP (nameP op) [49, 54] = i16 at *
  generalize withinP (nameP op) [56] = i8 at *
  generalize withinP (nameP op) [115, 116, 111, 114, 101] = iS at *
  generalize withinP (nameP op) [95, 115] = iG at *
  generalize letterP ((nameP op).take 3) = O at *
  generalize bytesD O = BD at *
  generalize BA ((nameP op).take 3) = T3 at *
  generalize BA ((nameP op).drop 3) = D3 at *
  generalize BA (nameP op) = N at *
  rw [hk] at hsz
  have hk1 : k ≤ 1000 := by omega
  clear hN hM hk
  have hsub : IntKind.i64.wrap ((N.size : Int) - 2) = (k : Int) := by rw [hsz]; exact (wrap_id (by omega) (by omega)).trans (by omega)
  clear hsz
  go_enter Tryd.func15, Tryd.ntmps15
  go_wp2_with fail
  refine (C.out _).mono ?_
  rintro e w1 ⟨rfl, g1⟩
  have G1 : Hid (Grew w w1) := ((Grew.refl w).alloc _).trans g1
  have hb1 : w.heap.size < w1.heap.size := by have := G1.out.2; have := g1.2; simp at this; omega
  have r0 : w1.heap[w.heap.size]? = some (.cells #[.int .i64 0, .bool false, .int .i64 0] 27 (0, 0)) := (g1.turn []).other (heap_alloc_last w _) (by simp)
  clear g1 C
  go_wp2_with fail
  refine (CL.out _).mono ?_
  rintro e w2 ⟨rfl, hw⟩
  obtain rfl := hw.symm
  clear CL hw
  go_wp2_with fail
  refine (num_any O _).mono ?_
  rintro e w3 ⟨rfl, g3⟩
  have G3 : Hid (Grew w w3) := G1.out.trans g3
  have r3 : w3.heap[w.heap.size]? = some (.cells #[.int .i64 0, .bool false, .int .i64 0] 27 (0, 0)) := (g3.turn []).other r0 (by simp)
  clear g3 r0 G1
  go_wp2_with fail
  refine (CB.out _).mono ?_
  rintro e w4 ⟨rfl, g4⟩
  have v4 : w4.heap[w3.heap.size]? = some (.cells #[.int .i64 O, .bool false, .int .i64 0] 27 (0, 0)) := (g4.turn []).other (heap_alloc_last w3 _) (by simp)
  have r4 : w4.heap[w.heap.size]? = some (.cells #[.int .i64 0, .bool false, .int .i64 0] 27 (0, 0)) := (g4.turn []).other (heap_alloc r3 _) (by simp)
  have G4 : Hid (Grew w w4) := (G3.out.alloc _).trans g4
  have hne : ¬ w.heap.size = w3.heap.size := by have := lt_of_obj r3; omega
  have hle : w.heap.size ≤ w3.heap.size := G3.out.2
  clear g4 CB r3 G3
  generalize w3.heap.size = VB at *
  go_wp2_with fail
  refine (C8.out _).mono ?_
  rintro e w5 ⟨rfl, hw⟩
  obtain rfl := hw.symm
  clear C8 hw
  by_cases a8 : 3 ≤ i8
  all_goals
    go_wp2_with fail
    refine (C16.out _).mono ?_
    rintro e w5 ⟨rfl, hw⟩
    obtain rfl := hw.symm
    clear C16 hw
    by_cases a16 : 0 ≤ i16
    all_goals
      go_wp2_with fail
      refine (C32.out _).mono ?_
      rintro e w5 ⟨rfl, hw⟩
      obtain rfl := hw.symm
      clear C32 hw
      by_cases a32 : 0 ≤ i32

      all_goals
        go_wp2_with fail
        have x0 := cell_of v4 0
        have x1 := cell_of v4 1
        have x2 := cell_of v4 2
        have y0 := cell_of r4 0
        have y1 := cell_of r4 1
        have y2 := cell_of r4 2
        have z0 := free_of r4 0
        have z1 := free_of r4 1
        have z2 := free_of r4 2
        simp at x0 x1 x2 y0 y1 y2
        by_cases aG : 0 ≤ iG
        · skip
          go_region_held3 (fun w' => w'.cell? ⟨VB, 0, none⟩ = some (.int .i64 O) ∧ w'.cell? ⟨VB, 1, none⟩ = some (.bool false) ∧ w'.cell? ⟨VB, 2, none⟩ = some (.int .i64 0)) (go_keep)
            (first
             | (go_at_call 47
                refine (C47.out _ _ (by decide) (by decide)).mono ?_
                rintro e w6 ⟨rfl, hw⟩
                obtain rfl := hw.symm))
          all_goals
            have hobj : ((((w4.setCell ⟨w.heap.size, 0, none⟩ (.int .i64 O)).setCell ⟨w.heap.size, 1, none⟩ (.bool false)).setCell ⟨w.heap.size, 2, none⟩ (.int .i64 0)).drew).heap[w.heap.size]? = some (.cells #[.int .i64 O, .bool false, .int .i64 0] 27 (0, 0)) := set3_obj r4 (.int .i64 O) (.bool false) (.int .i64 0)
            have hgr : Grew w (((w4.setCell ⟨w.heap.size, 0, none⟩ (.int .i64 O)).setCell ⟨w.heap.size, 1, none⟩ (.bool false)).setCell ⟨w.heap.size, 2, none⟩ (.int .i64 0)).drew :=
              (((G4.out.set (p := ⟨w.heap.size, 0, none⟩) (by simp) _).set (p := ⟨w.heap.size, 1, none⟩) (by simp) _).set (p := ⟨w.heap.size, 2, none⟩) (by simp) _).drew
            generalize (((w4.setCell ⟨w.heap.size, 0, none⟩ (.int .i64 O)).setCell ⟨w.heap.size, 1, none⟩ (.bool false)).setCell ⟨w.heap.size, 2, none⟩ (.int .i64 0)).drew = W5 at *
            have e0 := cell_of hobj 0
            have e1 := cell_of hobj 1
            have e2 := cell_of hobj 2
            simp at e0 e1 e2
            go_wp2_with fail
            refine bodyPost_ret (v := rwv O WD SD GD true) ?_ rfl ⟨rfl, hgr⟩
            rw [ES.out, EG.out]
            first | rw [EW.out, if_pos (by omega : 0 ≤ i32)] | rw [EW.out, if_neg (by omega : ¬ 0 ≤ i32), if_pos (by omega : 0 ≤ i16)] | rw [EW.out, if_neg (by omega : ¬ 0 ≤ i32), if_neg (by omega : ¬ 0 ≤ i16), if_pos (by omega : 3 ≤ i8)] | rw [EW.out, if_neg (by omega : ¬ 0 ≤ i32), if_neg (by omega : ¬ 0 ≤ i16), if_neg (by omega : ¬ 3 ≤ i8)]
            simp [results, Tryd.results15, go_sem, e0, e1, e2, rwv, a8, a16, a32, aG]
        · skip
          have dG : decide (0 ≤ iG) = false := by simpa using aG
          refine wp_region_held_drew (S := fun w' => w'.cell? ⟨VB, 0, none⟩ = some (.int .i64 O) ∧ w'.cell? ⟨VB, 1, none⟩ = some (.bool false) ∧ w'.cell? ⟨VB, 2, none⟩ = some (.int .i64 0)) (by kernel_rfl) ⟨x0, x1, x2⟩ (fun hHeld => ?_)
          refine wpAnyH_take (i := 0) (v := .agg #[.int .i64 O, .bool false, .int .i64 0]) rfl (by kernel_rfl) (by kernel_rfl) (by kernel_rfl) (fun _ _ _ h => h) (Or.inl ⟨by rfl, ?_⟩) hHeld ?_
          · intro W hS
            obtain ⟨s0, s1, s2⟩ := hS
            go_simp
          try simp only [Act.put, List.setIfInBounds_toArray, List.set_cons_zero, List.set_cons_succ]
          refine wpAnyH_take (i := 1) (v := _) rfl (by kernel_rfl) (by kernel_rfl) (by kernel_rfl) (fun _ _ _ h => h) (Or.inl ⟨by rfl, fun W hS => rfl⟩) hHeld ?_
          try simp only [Act.put, List.setIfInBounds_toArray, List.set_cons_zero, List.set_cons_succ]
          refine wpAnyH_take (i := 2) (v := _) rfl (by kernel_rfl) (by kernel_rfl) (by kernel_rfl) (fun _ _ _ h => h) (Or.inl ⟨by rfl, fun W hS => rfl⟩) hHeld ?_
          try simp only [Act.put, List.setIfInBounds_toArray, List.set_cons_zero, List.set_cons_succ]
          refine wpAnyH_take (i := 5) (v := _) rfl (by kernel_rfl) (by kernel_rfl) (by kernel_rfl) (fun _ _ _ h => h) (Or.inl ⟨by rfl, fun W hS => rfl⟩) hHeld ?_
          try simp only [Act.put, List.setIfInBounds_toArray, List.set_cons_zero, List.set_cons_succ]
          refine wpAnyH_ready (rs := [3]) (by kernel_rfl) (by simp) ?_
          refine AllReadyH.cons rfl (fun K hK => ?_) AllReadyH.nil
          go_simp
          refine (C47.out _ _ (by decide) (by decide)).mono ?_
          rintro e w6 ⟨rfl, hw⟩
          obtain rfl := hw.symm
          clear hw
          rw [fS]
          refine hK.out _ _ ⟨x0, x1, x2⟩ (fun hHeld => ?_)
          clear hK K
          try simp only [Act.put, List.setIfInBounds_toArray, List.set_cons_zero, List.set_cons_succ]
          refine wpAnyH_take (i := 4) (v := .bool (decide (0 ≤ iS))) rfl (by kernel_rfl) (by kernel_rfl) (by kernel_rfl) (fun _ _ _ h => h) (Or.inl ⟨by rfl, ?_⟩) hHeld ?_
          · intro W hS
            obtain ⟨s0, s1, s2⟩ := hS
            go_simp
          try simp only [Act.put, List.setIfInBounds_toArray, List.set_cons_zero, List.set_cons_succ]
          refine wpAnyH_ready (rs := [6]) (by kernel_rfl) (by simp) ?_
          refine AllReadyH.cons rfl (fun K hK => ?_) AllReadyH.nil
          go_simp
          refine (C47.out _ _ (by decide) (by decide)).mono ?_
          rintro e w6 ⟨rfl, hw⟩
          obtain rfl := hw.symm
          clear hw
          rw [fG]
          refine hK.out _ _ ⟨x0, x1, x2⟩ (fun hHeld => ?_)
          clear hK K
          try simp only [Act.put, List.setIfInBounds_toArray, List.set_cons_zero, List.set_cons_succ]
          refine wpAnyH_take (i := 7) (v := .bool false) rfl (by kernel_rfl) (by kernel_rfl) (by kernel_rfl) (fun _ _ _ h => h) (Or.inl ⟨by rfl, ?_⟩) hHeld ?_
          · intro W hS
            obtain ⟨s0, s1, s2⟩ := hS
            go_simp
          try simp only [Act.put, List.setIfInBounds_toArray, List.set_cons_zero, List.set_cons_succ]
          refine wpAnyH_take (i := 8) (v := _) rfl (by kernel_rfl) (by kernel_rfl) (by kernel_rfl) (fun _ _ _ h => h) (Or.inl ⟨by rfl, fun W hS => rfl⟩) hHeld ?_
          try simp only [Act.put, List.setIfInBounds_toArray, List.set_cons_zero, List.set_cons_succ]
          refine wpAnyH_take (i := 9) (v := undef) rfl (by kernel_rfl) (by kernel_rfl) (by kernel_rfl) (fun _ _ _ h => h) (Or.inr ⟨by kernel_rfl, rfl⟩) hHeld ?_
          try simp only [Act.put, List.setIfInBounds_toArray, List.set_cons_zero, List.set_cons_succ]
          refine wpAnyH_take (i := 10) (v := undef) rfl (by kernel_rfl) (by kernel_rfl) (by kernel_rfl) (fun _ _ _ h => h) (Or.inr ⟨by kernel_rfl, rfl⟩) hHeld ?_
          try simp only [Act.put, List.setIfInBounds_toArray, List.set_cons_zero, List.set_cons_succ]
          refine wpAnyH_take (i := 11) (v := undef) rfl (by kernel_rfl) (by kernel_rfl) (by kernel_rfl) (fun _ _ _ h => h) (Or.inr ⟨by kernel_rfl, rfl⟩) hHeld ?_
          try simp only [Act.put, List.setIfInBounds_toArray, List.set_cons_zero, List.set_cons_succ]
          refine wpAnyH_take (i := 12) (v := undef) rfl (by kernel_rfl) (by kernel_rfl) (by kernel_rfl) (fun _ _ _ h => h) (Or.inr ⟨by kernel_rfl, rfl⟩) hHeld ?_
          try simp only [Act.put, List.setIfInBounds_toArray, List.set_cons_zero, List.set_cons_succ]
          refine wpAnyH_take (i := 13) (v := undef) rfl (by kernel_rfl) (by kernel_rfl) (by kernel_rfl) (fun _ _ _ h => h) (Or.inr ⟨by kernel_rfl, rfl⟩) hHeld ?_
          try simp only [Act.put, List.setIfInBounds_toArray, List.set_cons_zero, List.set_cons_succ]
          refine wpAnyH_take (i := 14) (v := undef) rfl (by kernel_rfl) (by kernel_rfl) (by kernel_rfl) (fun _ _ _ h => h) (Or.inr ⟨by kernel_rfl, rfl⟩) hHeld ?_
          try simp only [Act.put, List.setIfInBounds_toArray, List.set_cons_zero, List.set_cons_succ]
          refine wpAnyH_take (i := 15) (v := .bool false) rfl (by kernel_rfl) (by kernel_rfl) (by kernel_rfl) (fun _ _ _ h => h) (Or.inl ⟨by rfl, ?_⟩) hHeld ?_
          · intro W hS
            obtain ⟨s0, s1, s2⟩ := hS
            go_simp
          try simp only [Act.put, List.setIfInBounds_toArray, List.set_cons_zero, List.set_cons_succ]
          refine wpAnyH_ready (rs := [16]) (by kernel_rfl) (by simp) ?_
          refine AllReadyH.cons rfl (fun K hK => ?_) AllReadyH.nil
          go_simp
          refine hK.out _ _ (by go_simp) (fun hHeld => ?_)
          clear hK K
          try simp only [Act.put, List.setIfInBounds_toArray, List.set_cons_zero, List.set_cons_succ]
          refine wpAnyH_take (i := 17) (v := _) rfl (by kernel_rfl) (by kernel_rfl) (by kernel_rfl) (fun _ _ _ h => h) (Or.inl ⟨by rfl, fun W hS => rfl⟩) hHeld ?_
          try simp only [Act.put, List.setIfInBounds_toArray, List.set_cons_zero, List.set_cons_succ]
          refine wpAnyH_take (i := 18) (v := _) rfl (by kernel_rfl) (by kernel_rfl) (by kernel_rfl) (fun _ _ _ h => h) (Or.inl ⟨by rfl, fun W hS => rfl⟩) hHeld ?_
          try simp only [Act.put, List.setIfInBounds_toArray, List.set_cons_zero, List.set_cons_succ]
          refine wpAnyH_take (i := 19) (v := _) rfl (by kernel_rfl) (by kernel_rfl) (by kernel_rfl) (fun _ _ _ h => h) (Or.inl ⟨by rfl, fun W hS => rfl⟩) hHeld ?_
          try simp only [Act.put, List.setIfInBounds_toArray, List.set_cons_zero, List.set_cons_succ]
          refine wpAnyH_take (i := 20) (v := _) rfl (by kernel_rfl) (by kernel_rfl) (by kernel_rfl) (fun _ _ _ h => h) (Or.inl ⟨by rfl, fun W hS => rfl⟩) hHeld ?_
          try simp only [Act.put, List.setIfInBounds_toArray, List.set_cons_zero, List.set_cons_succ]
          refine wpAnyH_done (by kernel_rfl) ?_ _
          all_goals
            have hobj : ((((w4.setCell ⟨w.heap.size, 0, none⟩ (.int .i64 O)).setCell ⟨w.heap.size, 1, none⟩ (.bool false)).setCell ⟨w.heap.size, 2, none⟩ (.int .i64 0)).drew).heap[w.heap.size]? = some (.cells #[.int .i64 O, .bool false, .int .i64 0] 27 (0, 0)) := set3_obj r4 (.int .i64 O) (.bool false) (.int .i64 0)
            have hgr : Grew w (((w4.setCell ⟨w.heap.size, 0, none⟩ (.int .i64 O)).setCell ⟨w.heap.size, 1, none⟩ (.bool false)).setCell ⟨w.heap.size, 2, none⟩ (.int .i64 0)).drew :=
              (((G4.out.set (p := ⟨w.heap.size, 0, none⟩) (by simp) _).set (p := ⟨w.heap.size, 1, none⟩) (by simp) _).set (p := ⟨w.heap.size, 2, none⟩) (by simp) _).drew
            generalize (((w4.setCell ⟨w.heap.size, 0, none⟩ (.int .i64 O)).setCell ⟨w.heap.size, 1, none⟩ (.bool false)).setCell ⟨w.heap.size, 2, none⟩ (.int .i64 0)).drew = W5 at *
            have e0 := cell_of hobj 0
            have e1 := cell_of hobj 1
            have e2 := cell_of hobj 2
            simp at e0 e1 e2
            go_wp2_with fail
            refine bodyPost_ret (v := rwv O WD SD GD true) ?_ rfl ⟨rfl, hgr⟩
            rw [ES.out, EG.out, dG]
            first | rw [EW.out, if_pos (by omega : 0 ≤ i32)] | rw [EW.out, if_neg (by omega : ¬ 0 ≤ i32), if_pos (by omega : 0 ≤ i16)] | rw [EW.out, if_neg (by omega : ¬ 0 ≤ i32), if_neg (by omega : ¬ 0 ≤ i16), if_pos (by omega : 3 ≤ i8)] | rw [EW.out, if_neg (by omega : ¬ 0 ≤ i32), if_neg (by omega : ¬ 0 ≤ i16), if_neg (by omega : ¬ 3 ≤ i8)]
            simp [results, Tryd.results15, go_sem, e0, e1, e2, rwv, a8, a16, a32, aG]
end Go.Proofs.YtjfiggkjdbnjeaaDoor
