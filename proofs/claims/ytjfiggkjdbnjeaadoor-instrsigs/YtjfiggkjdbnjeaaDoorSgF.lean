/-
  The walks of the document's from, one, Bytes; no statement is proved here.
-/
import Derived.Test.YtjfiggkjdbnjeaaDoorSgD
namespace Go.Proofs.YtjfiggkjdbnjeaaDoor
open Go.RowKit
set_option linter.unusedVariables false
set_option linter.unusedSimpArgs false

theorem words_ne : (∀ x ∈ cutW fromW [], x ≠ []) ∧ (∀ x ∈ cutW fromW [], x.length ≤ 1000) := by decide +kernel
theorem fromF_no {name x : List UInt8} {l : List (List UInt8)} {j : Nat} (h : l[j]? = some x) (hn : ¬ 0 ≤ withinP name x) : fromF name (l.drop j) = fromF name (l.drop (j + 1)) := by
  obtain ⟨h', he⟩ := List.getElem?_eq_some_iff.1 h
  rw [List.drop_eq_getElem_cons h', he, fromF, if_neg hn]
theorem fromF_yes {name x : List UInt8} {l : List (List UInt8)} {j : Nat} (h : l[j]? = some x) (hn : 0 ≤ withinP name x) : fromF name (l.drop j) = letterP ((name.drop ((withinP name x).toNat + x.length)).take 3) := by
  obtain ⟨h', he⟩ := List.getElem?_eq_some_iff.1 h
  rw [List.drop_eq_getElem_cons h', he, fromF, if_pos hn]
theorem room_at {name x : List UInt8} (h : roomB name = true) (hx : x ∈ cutW fromW []) (hn : 0 ≤ withinP name x) : (withinP name x).toNat + x.length + 3 ≤ name.length := by
  unfold roomB at h
  have := List.all_eq_true.1 h x hx
  simp only [Bool.or_eq_true, decide_eq_true_eq] at this
  omega
def FWB : ByteArray := BA fromW
set_option maxRecDepth 100000 in
set_option maxHeartbeats 2000000 in
theorem from_any (name : List UInt8) (hn : name.length ≤ 1000) (hroom : roomB name = true) (w : World) :
    Calls Tryd.prog 43 #[.string (BA name)] w fun e w' => e = .returned (.int .i64 (fromP name)) ∧ Grew w w' := by
  obtain ⟨⟨a1, _⟩, a2, _, a4, _⟩ := words_fine
  have C : Hid (Calls Tryd.prog 67 #[.string (BA fromW)] w fun e w' => ∃ v, e = .returned v ∧ w'.ownsRow w.heap.size 9 1 v (cutW fromW []).length ((cutW fromW []).map ST) ∧ Grew w w') := words_any fromW a1 w
  have CW : Hid (∀ (x : List UInt8) (W : World), x ∈ cutW fromW [] → Calls Tryd.prog 47 #[.string (BA name), .string (BA x)] W fun e w' => e = .returned (.int .i64 (withinP name x)) ∧ w' = W) := fun x W hx => within_any name x (by omega) (words_ne.1 x hx) (by have := words_ne.2 x hx; omega) W
  have HSL : Hid (∀ (x : List UInt8) (W : World), x ∈ cutW fromW [] → 0 ≤ withinP name x → (Instr.slice 9 (.string (BA name)) (some (.int .i64 (withinP name x + (x.length : Int)))) (some (.int .i64 (withinP name x + (x.length : Int) + 3))) none).run Tryd.prog W = .ok (.string (BA ((name.drop ((withinP name x).toNat + x.length)).take 3))) W) := by
    intro x W hx h0
    have hr := room_at hroom hx h0
    rw [run_slice_string W 9 (BA name) .i64 .i64 _ _ Tryd.underlying9 (by omega) (by omega) (by rw [BA_size]; omega)]
    have e1 : (withinP name x + (x.length : Int)).toNat = (withinP name x).toNat + x.length := by omega
    have e2 : (withinP name x + (x.length : Int) + 3).toNat = (withinP name x).toNat + x.length + 3 := by omega
    rw [e1, e2, BA_extract, List.drop_take]
    congr 4
    omega
  have HRm : Hid (∀ x ∈ cutW fromW [], 0 ≤ withinP name x → (withinP name x).toNat + x.length + 3 ≤ name.length) := fun x hx h0 => room_at hroom hx h0
  have HF : Hid (fromP name = fromF name ((cutW fromW []).drop 0)) := rfl
  obtain ⟨L, hL⟩ : ∃ L, cutW fromW [] = L := ⟨_, rfl⟩
  rw [hL] at C CW HSL HRm HF a4 a2
  obtain ⟨R, hR⟩ : ∃ R, fromP name = R := ⟨_, rfl⟩
  rw [hR] at HF ⊢
  generalize BA name = N at *
  clear hL hR hroom
  generalize hFW : BA fromW = SF at *
  have hSF : SF = ⟨List.toArray fromW⟩ := by rw [← hFW]; rfl
  clear hFW
  subst hSF
  go_enter Tryd.func43, Tryd.ntmps43
  go_wp2_with fail
  refine C.out.mono ?_
  rintro e w1 ⟨v, rfl, hv, g1⟩
  obtain ⟨g, c, rfl, hc1, hc2, hg⟩ := row_at hv (by omega)
  have V1 : Hid (w1.ownsRow w.heap.size 9 1 (.slice (some ⟨g, 0, none⟩) L.length c) L.length (L.map ST)) := hv
  have G1 : Hid (Grew w w1) := g1
  clear hv g1 C
  go_wp2_with fail
  go_loop [4, 5] (fun i a => ∃ j : Nat, j ≤ L.length ∧ i = .int .i64 j ∧ R = fromF name (L.drop j)) (fun i a => L.length - (intOf i).toNat)
  case atStart => exact ⟨0, by omega, rfl, HF.out⟩
  case round =>
    obtain ⟨j, hj, rfl, hr⟩ := hrel
    have HRR : Hid (R = fromF name (L.drop j)) := hr
    clear hr HF
    by_cases hlt : j < L.length
    · have hx : L[j]? = some L[j] := List.getElem?_eq_getElem hlt
      have hm : L[j] ∈ L := List.getElem_mem hlt
      have q0 := V1.out.cellAt j (by omega)
      rw [List.getElem?_map, hx] at q0
      simp only [Option.map_some, ST] at q0
      have hxl := a2 L[j] hm
      have hzz := BA_size L[j]
      have CWx := fun W => CW.out L[j] W hm
      have HSx := fun W => HSL.out L[j] W hm
      have HRx := HRm.out L[j] hm
      generalize L[j] = X at *
      have HX : Hid (L[j]? = some X) := hx
      have d1 : decide ((j : Int) < L.length) = true := by simp; omega
      have HCW : Hid _ := CWx
      have HHS : Hid _ := HSx
      have HHR : Hid (0 ≤ withinP name X → (withinP name X).toNat + X.length + 3 ≤ name.length) := HRx
      have HV : Hid (¬ 0 ≤ withinP name X → R = fromF name (L.drop (j + 1))) := fun h => by rw [HRR.out, fromF_no HX.out h]
      have HY : Hid (0 ≤ withinP name X → R = letterP ((name.drop ((withinP name X).toNat + X.length)).take 3)) := fun h => by rw [HRR.out, fromF_yes HX.out h]
      obtain ⟨A, hA⟩ : ∃ A, withinP name X = A := ⟨_, rfl⟩
      rw [hA] at HCW HHS HHR HV HY
      clear hA hx CWx HSx HRx CW HSL HRm
      go_wp2_with fail
      refine (HCW.out _).mono ?_
      rintro e w2 ⟨rfl, rfl⟩
      by_cases h0 : 0 ≤ A
      · have hroom := HHR.out h0
        have hsl := fun W => HHS.out W h0
        have e0 := HY.out h0
        have CL := fun W => letter_any ((name.drop (A.toNat + X.length)).take 3) W
        rw [← e0] at CL
        have HCL : Hid _ := CL
        have ha : A ≤ 1000 := by omega
        generalize BA ((name.drop (A.toNat + X.length)).take 3) = Z at *
        clear HHS HHR HV HY e0 CL
        go_wp2_with fail
        refine (HCL.out _).mono ?_
        rintro e w3 ⟨rfl, rfl⟩
        go_wp2_with fail
        go_ret
        exact ⟨rfl, G1.out⟩
      · have e0 : Hid _ := HV.out (by omega)
        clear HHS HHR HV HY
        go_wp2_with fail
        go_round
        case rel => exact ⟨j + 1, by omega, by go_num, e0.out⟩
        case measure => simp [intOf]; omega
    · have HE : Hid (R = 0) := by
        show R = 0
        rw [HRR.out, List.drop_eq_nil_of_le (by omega)]
        rfl
      have d1 : decide ((j : Int) < L.length) = false := by simp; omega
      clear CW HSL HRm
      go_wp2_with fail
      go_ret
      rw [HE.out]
      exact ⟨rfl, G1.out⟩
theorem any_step {l : List (List UInt8)} {j : Nat} {y x : List UInt8} (h : l[j]? = some y) : (l.take (j + 1)).any (fun z => decide (z = x)) = ((l.take j).any (fun z => decide (z = x)) || decide (y = x)) := by
  obtain ⟨h', he⟩ := List.getElem?_eq_some_iff.1 h
  rw [List.take_succ_eq_append_getElem h', he, List.any_append]
  simp
set_option maxRecDepth 100000 in
set_option maxHeartbeats 2000000 in
theorem one_any (x : List UInt8) (w : World) :
    Calls Tryd.prog 44 #[.string (BA x)] w fun e w' => e = .returned (.bool (oneP x)) ∧ Grew w w' := by
  obtain ⟨⟨_, a1⟩, _, a3, _, a5⟩ := words_fine
  have C : Hid (Calls Tryd.prog 67 #[.string (BA oneW)] w fun e w' => ∃ v, e = .returned v ∧ w'.ownsRow w.heap.size 9 1 v (cutW oneW []).length ((cutW oneW []).map ST) ∧ Grew w w') := words_any oneW a1 w
  have HQ : Hid (∀ y, ((BA y).toList == (BA x).toList) = decide (y = x)) := fun y => BA_eq y x
  have HF : Hid (oneP x = (cutW oneW []).any (fun z => decide (z = x))) := rfl
  obtain ⟨L, hL⟩ : ∃ L, cutW oneW [] = L := ⟨_, rfl⟩
  rw [hL] at C HF a5
  obtain ⟨R, hR⟩ : ∃ R, oneP x = R := ⟨_, rfl⟩
  rw [hR] at HF ⊢
  obtain ⟨N, hN⟩ : ∃ N, BA x = N := ⟨_, rfl⟩
  rw [hN] at HQ ⊢
  clear hL hR hN a3
  generalize hFW : BA oneW = SF at *
  have hSF : SF = ⟨List.toArray oneW⟩ := by rw [← hFW]; rfl
  clear hFW
  subst hSF
  go_enter Tryd.func44, Tryd.ntmps44
  go_wp2_with fail
  refine C.out.mono ?_
  rintro e w1 ⟨v, rfl, hv, g1⟩
  obtain ⟨g, c, rfl, hc1, hc2, hg⟩ := row_at hv (by omega)
  have V1 : Hid (w1.ownsRow w.heap.size 9 1 (.slice (some ⟨g, 0, none⟩) L.length c) L.length (L.map ST)) := hv
  have G1 : Hid (Grew w w1) := g1
  clear hv g1 C
  go_wp2_with fail
  go_loop [4] (fun i => ∃ j : Nat, j ≤ L.length ∧ i = .int .i64 j ∧ (L.take j).any (fun z => decide (z = x)) = false) (fun i => L.length - (intOf i).toNat)
  case atStart => exact ⟨0, by omega, rfl, rfl⟩
  case round =>
    obtain ⟨j, hj, rfl, hr⟩ := hrel
    have HRR : Hid ((L.take j).any (fun z => decide (z = x)) = false) := hr
    clear hr
    by_cases hlt : j < L.length
    · have hx : L[j]? = some L[j] := List.getElem?_eq_getElem hlt
      have q0 := V1.out.cellAt j (by omega)
      rw [List.getElem?_map, hx] at q0
      simp only [Option.map_some, ST] at q0
      have hq := HQ.out L[j]
      have hst := any_step (x := x) hx
      have hm : L[j] ∈ L := List.getElem_mem hlt
      generalize L[j] = X at *
      rw [HRR.out] at hst
      have HST : Hid ((L.take (j + 1)).any (fun z => decide (z = x)) = decide (X = x)) := by
        rw [Bool.false_or] at hst
        exact hst
      have HM : Hid (X ∈ L) := hm
      have d1 : decide ((j : Int) < L.length) = true := by simp; omega
      clear hx hst HQ hm
      by_cases he : X = x
      · rw [decide_eq_true he] at hq
        have HE : Hid (R = true) := by
          show R = true
          rw [HF.out, List.any_eq_true]
          exact ⟨X, HM.out, by simpa using he⟩
        clear he HST
        go_wp2_with fail
        go_ret
        rw [HE.out]
        exact ⟨rfl, G1.out⟩
      · rw [decide_eq_false he] at hq
        have HN : Hid ((L.take (j + 1)).any (fun z => decide (z = x)) = false) := by rw [HST.out]; exact decide_eq_false he
        clear he HST
        go_wp2_with fail
        go_round
        case rel => exact ⟨j + 1, by omega, by go_num, HN.out⟩
        case measure => simp [intOf]; omega
    · have hjl : j = L.length := by omega
      have HE : Hid (R = false) := by
        show R = false
        have := HRR.out
        rw [hjl, List.take_length] at this
        rw [HF.out]
        exact this
      have d1 : decide ((j : Int) < L.length) = false := by simp; omega
      clear HQ hjl
      go_wp2_with fail
      go_ret
      rw [HE.out]
      exact ⟨rfl, G1.out⟩
set_option maxRecDepth 100000 in
theorem bytes_any (n : Int) (h : n = 1 ∨ n = 2 ∨ n = 3 ∨ n = 4) (w : World) :
    Calls Tryd.prog 46 #[.agg #[.int .i64 n, .bool false, .int .i64 0]] w fun e w' => e = .returned (.int .i64 (bytesD n)) ∧ Grew w w' := by
  rcases h with rfl | rfl | rfl | rfl
  all_goals
    go_enter Tryd.func46, Tryd.ntmps46
    go_wp2
    go_ret
    exact ⟨rfl, (Grew.refl w).alloc _⟩
end Go.Proofs.YtjfiggkjdbnjeaaDoor
