/-
  The walks of InstrNames and InstrOps; no statement is proved here.
-/
import Derived.Test.YtjfiggkjdbnjeaaROps
import Derived.BigQuiet
namespace Go.Proofs.Ytjfiggkjdbnjeaa
open Go.RowKit
set_option linter.unusedVariables false
set_option linter.unusedSimpArgs false

theorem op_some {s : List UInt8} {n : Int} (h : opP s = some n) : nameP n = s ∧ 0 ≤ n ∧ n ≤ 70000 := by
  unfold opP at h
  cases hf : PL.find? (fun p => decide (p.2 = s)) with
  | none => rw [hf] at h; cases h
  | some p =>
    rw [hf] at h
    simp only [Option.map_some, Option.some.injEq] at h
    have hm := List.mem_of_find?_eq_some hf
    have hs : p.2 = s := by simpa using List.find?_some hf
    have hb := OL_in p.1 (List.mem_map.2 ⟨p, hm, rfl⟩)
    rw [← h]
    exact ⟨by rw [PL_name p hm]; exact hs, by omega, by omega⟩
theorem op_back {op : Int} (h : inOL op = true) : opP (nameP op) = some op := by
  unfold inOL at h
  rw [List.any_eq_true] at h
  obtain ⟨x, hx, he⟩ := h
  obtain ⟨p, hp, rfl⟩ := List.mem_map.1 hx
  have he' : p.1 = op := by simpa using he
  rw [← he', PL_name p hp, PL_back p hp]
set_option maxRecDepth 100000 in
set_option maxHeartbeats 2000000 in
theorem names_any (op : Int) (h0 : -9223372036854775808 ≤ op) (h1 : op ≤ 9223372036854775807) (s : List UInt8) (hl : s.length ≤ 9223372036854775807) (w : World) :
    Calls Try.prog 3 #[.int .i64 op, .string (BA s)] w fun e w' => e = .returned (.bool true) ∧ Grew w w' := by
  have C1 : Hid (∀ W, Calls Try.prog 5 #[.int .i64 op] W fun e w' => e = .returned (.string (BA (nameP op))) ∧ Grew W w') := fun W => name_any op h0 h1 W
  have C2 : Hid (∀ W, Calls Try.prog 6 #[.int .i64 op] W fun e w' => e = .returned (.string (BA (nameP op))) ∧ Grew W w') := fun W => by
    have := refName_any op h0 h1 W
    rwa [← names_same] at this
  have C3 : Hid (∀ W, Calls Try.prog 7 #[.int .i64 op] W fun e w' => e = .returned (.string (BA (formD op))) ∧ Grew W w') := fun W => Form_any op W
  have C4 : Hid (∀ W, Calls Try.prog 8 #[.int .i64 op] W fun e w' => e = .returned (.string (BA (formD op))) ∧ Grew W w') := fun W => refForm_any op h0 h1 W
  have C5 : Hid (∀ W, Calls Try.prog 9 #[.string (BA s)] W fun e w' => e = .returned (opV (opP s)) ∧ Grew W w') := fun W => op_any s hl W
  have C6 : Hid (∀ W, Calls Try.prog 10 #[.string (BA s)] W fun e w' => e = .returned (.int .i64 (opW (opP s))) ∧ Grew W w') := fun W => refOp_any s W
  have C7 : Hid (∀ n, opP s = some n → ∀ W, Calls Try.prog 5 #[.int .i64 n] W fun e w' => e = .returned (.string (BA s)) ∧ Grew W w') := fun n hn W => by
    obtain ⟨a1, a2, a3⟩ := op_some hn
    have := name_any n (by omega) (by omega) W
    rwa [a1] at this
  have hb : Hid (∀ n, opP s = some n → 0 ≤ n ∧ n ≤ 70000) := fun n hn => (op_some hn).2
  generalize BA (nameP op) = X at *
  generalize BA (formD op) = Y at *
  generalize BA s = S at *
  cases ho : opP s with
  | none =>
    rw [ho] at C5 C6
    simp only [opV, opW] at C5 C6
    clear C7 hb ho hl
    go_enter Try.func3, Try.ntmps3
    go_wp2_with fail
    refine (C1.out _).mono ?_
    rintro e w1 ⟨rfl, g1⟩
    have G1 : Hid (Grew w w1) := g1
    clear g1 C1
    go_wp2_with fail
    refine (C2.out _).mono ?_
    rintro e w2 ⟨rfl, g2⟩
    have G2 : Hid (Grew w w2) := G1.out.trans g2
    clear g2 G1 C2
    go_wp2_with fail
    refine (C3.out _).mono ?_
    rintro e w3 ⟨rfl, g3⟩
    have G3 : Hid (Grew w w3) := G2.out.trans g3
    clear g3 G2 C3
    go_wp2_with fail
    refine (C4.out _).mono ?_
    rintro e w4 ⟨rfl, g4⟩
    have G4 : Hid (Grew w w4) := G3.out.trans g4
    clear g4 G3 C4
    go_wp2_with fail
    refine (C5.out _).mono ?_
    rintro e w5 ⟨rfl, g5⟩
    have G5 : Hid (Grew w w5) := G4.out.trans g5
    clear g5 G4 C5
    go_wp2_with fail
    refine (C6.out _).mono ?_
    rintro e w6 ⟨rfl, g6⟩
    have G6 : Hid (Grew w w6) := G5.out.trans g6
    clear g6 G5 C6
    go_wp2_with fail
    refine (awake_any _).mono ?_
    rintro e w7 ⟨rfl, g7⟩
    have G7 : Hid (Grew w w7) := G6.out.trans g7
    clear g7 G6
    go_wp2_with fail
    go_ret
    exact ⟨rfl, G7.out⟩
  | some n =>
    obtain ⟨n0, n1⟩ := hb.out n ho
    have C8 := C7.out n ho
    have H8 : Hid _ := C8
    rw [ho] at C5 C6
    simp only [opV, opW] at C5 C6
    clear C7 hb ho hl C8
    go_enter Try.func3, Try.ntmps3
    go_wp2_with fail
    refine (C1.out _).mono ?_
    rintro e w1 ⟨rfl, g1⟩
    have G1 : Hid (Grew w w1) := g1
    clear g1 C1
    go_wp2_with fail
    refine (C2.out _).mono ?_
    rintro e w2 ⟨rfl, g2⟩
    have G2 : Hid (Grew w w2) := G1.out.trans g2
    clear g2 G1 C2
    go_wp2_with fail
    refine (C3.out _).mono ?_
    rintro e w3 ⟨rfl, g3⟩
    have G3 : Hid (Grew w w3) := G2.out.trans g3
    clear g3 G2 C3
    go_wp2_with fail
    refine (C4.out _).mono ?_
    rintro e w4 ⟨rfl, g4⟩
    have G4 : Hid (Grew w w4) := G3.out.trans g4
    clear g4 G3 C4
    go_wp2_with fail
    refine (C5.out _).mono ?_
    rintro e w5 ⟨rfl, g5⟩
    have G5 : Hid (Grew w w5) := G4.out.trans g5
    clear g5 G4 C5
    go_wp2_with fail
    refine (C6.out _).mono ?_
    rintro e w6 ⟨rfl, g6⟩
    have G6 : Hid (Grew w w6) := G5.out.trans g6
    clear g6 G5 C6
    go_wp2_with fail
    refine (H8.out _).mono ?_
    rintro e w7 ⟨rfl, g7⟩
    have G7 : Hid (Grew w w7) := G6.out.trans g7
    clear g7 G6
    go_wp2_with fail
    go_ret
    exact ⟨rfl, G7.out⟩
theorem rise_at : ∀ (l : List Int) (j : Nat) (a b : Int), riseB l = true → l[j]? = some a → l[j + 1]? = some b → a < b
  | [], j, a, b, h, h1, h2 => by simp at h1
  | [x], j, a, b, h, h1, h2 => by simp at h2
  | x :: y :: l, 0, a, b, h, h1, h2 => by
    simp only [riseB, Bool.and_eq_true, decide_eq_true_eq] at h
    simp at h1 h2
    subst h1
    subst h2
    exact h.1
  | x :: y :: l, j + 1, a, b, h, h1, h2 => by
    simp only [riseB, Bool.and_eq_true, decide_eq_true_eq] at h
    rw [List.getElem?_cons_succ] at h1 h2
    exact rise_at (y :: l) j a b h.2 h1 h2
theorem has_step {op n : Int} {j : Nat} (h : OL[j]? = some n) : (OL.take (j + 1)).any (fun x => decide (x = op)) = ((OL.take j).any (fun x => decide (x = op)) || decide (n = op)) := by
  obtain ⟨h', he⟩ := List.getElem?_eq_some_iff.1 h
  rw [List.take_succ_eq_append_getElem h', he, List.any_append]
  simp
theorem len1 : ∀ k : Fin 256, (nameP (k.val : Int)).length ≤ 1000 := by decide +kernel
theorem len2 : ∀ k : Fin 64, (nameP (64256 + (k.val : Int))).length ≤ 1000 := by decide +kernel
theorem len3 : ∀ k : Fin 64, (nameP (64512 + (k.val : Int))).length ≤ 1000 := by decide +kernel
set_option maxRecDepth 100000 in
set_option maxHeartbeats 4000000 in
theorem opsL_any (op : Int) (h0 : -9223372036854775808 ≤ op) (h1 : op ≤ 9223372036854775807) (w : World) :
    Calls Try.prog 4 #[.int .i64 op] w fun e w' => e = .returned (.bool true) ∧ Grew w w' := by
  have C1 : Hid (∀ W, Calls Try.prog 5 #[.int .i64 op] W fun e w' => e = .returned (.string (BA (nameP op))) ∧ Grew W w') := fun W => name_any op h0 h1 W
  go_enter Try.func4, Try.ntmps4
  go_wp2_with fail
  refine (ops_any _).mono ?_
  rintro e w1 ⟨v, rfl, hv, g1⟩
  rw [OL_len] at hv
  obtain ⟨g, c, rfl, hc1, hc2, hg⟩ := row_at hv (by omega)
  have V1 : Hid (w1.ownsRow w.heap.size 3 1 (.slice (some ⟨g, 0, none⟩) 243 c) 243 (IV OL)) := hv
  have G1 : Hid (Grew w w1) := g1
  clear hv g1
  go_wp2_with fail
  go_loopw [4, 5] (fun b i wx => ∃ j : Nat, j ≤ 243 ∧ i = .int .i64 j ∧ b = .bool ((OL.take j).any (fun x => decide (x = op))) ∧ Grew w1 wx) (fun _ i _ => 243 - (intOf i).toNat)
  case atStart => exact ⟨0, by omega, rfl, rfl, Grew.refl w1⟩
  case round =>
    obtain ⟨j, hj, rfl, rfl, pg⟩ := hrel
    have PG : Hid (Grew w1 wr) := pg
    by_cases hlt : j < 243
    · obtain ⟨n, hn⟩ : ∃ n, OL[j]? = some n := ⟨OL[j]'(by rw [OL_len]; exact hlt), List.getElem?_eq_getElem (by rw [OL_len]; exact hlt)⟩
      have HS : Hid ((OL.take (j + 1)).any (fun x => decide (x = op)) = ((OL.take j).any (fun x => decide (x = op)) || decide (n = op))) := has_step hn
      have CE : ∀ k m, OL[k]? = some m → k < 243 → wr.cell? ⟨g, k, none⟩ = some (.int .i64 m) := by
        intro k m hk hk2
        rw [pg.1.cell hg, V1.out.cellAt k (by omega)]
        unfold IV
        rw [List.getElem?_map, hk]
        rfl
      have q0 := CE j n hn hlt
      have d1 : decide ((j : Int) < 243) = true := by simp; omega
      generalize (OL.take j).any (fun x => decide (x = op)) = B at *
      have hgr : g < wr.heap.size := Nat.lt_of_lt_of_le hg pg.2
      have heq : (n == op) = decide (n = op) := rfl
      by_cases hj0 : j = 0
      · have d2 : decide ((0 : Int) < (j : Int)) = false := by simp; omega
        have d2n : decide (0 < j) = false := by simp; omega
        have m : Int := 0
        clear CE pg hn hj0
        go_wp2_with fail
        refine wp_region_ck [(g, j, .int .i64 n), (g, j, .int .i64 n)] (by kernel_rfl) (by kernel_rfl) ⟨⟨hgr, q0⟩, ⟨hgr, q0⟩, trivial⟩ ?_
        repeat (first
          | go_big_quiet_skip
          | (go_big_quiet_want
             go_big_quiet_op
             first
             | (refine ⟨.bool true, fun w' hw' => ?_, ?_⟩
                · (go_simp; done)
                go_big_quiet_on)
             | (refine ⟨.bool false, fun w' hw' => ?_, ?_⟩
                · (go_simp; done)
                go_big_quiet_on)
             | (refine ⟨.int .i64 (j : Int), fun w' hw' => ?_, ?_⟩
                · (go_simp; done)
                go_big_quiet_on)
             | go_big_quiet_on
             | (refine ⟨_, fun _ _ => rfl, ?_⟩; go_big_quiet_on)
             | (refine ⟨.int .i64 n, fun w' hw' => ?_, ?_⟩
                · (obtain ⟨_, ⟨_, hc0⟩, ⟨_, hc1⟩, _⟩ := hw'; go_simp; done)
                go_big_quiet_on)
             | (refine ⟨.int .i64 m, fun w' hw' => ?_, ?_⟩
                · (obtain ⟨_, ⟨_, hc0⟩, ⟨_, hc1⟩, _⟩ := hw'; go_simp; done)
                go_big_quiet_on)))
        refine wpQuiet_nil ?_
        rintro w6 ⟨g6, _⟩
        have G6 : Hid (Grew w1 w6) := PG.out.trans g6
        have r0 : w6.cell? ⟨g, j, none⟩ = some (.int .i64 n) := by rw [g6.1.cell hgr]; exact q0
        clear g6 q0
        cases B with
        | true =>
          go_wp2_with fail
          go_roundw
          case rel => exact ⟨j + 1, by omega, by go_num, by rw [HS.out]; rfl, G6.out⟩
          case measure => simp [intOf]; omega
        | false =>
          go_wp2_with fail
          go_roundw
          case rel => exact ⟨j + 1, by omega, by go_num, by rw [HS.out]; rfl, G6.out⟩
          case measure => simp [intOf]; omega
      · obtain ⟨i, hi⟩ : ∃ i, j = i + 1 := ⟨j - 1, by omega⟩
        obtain ⟨m, hm⟩ : ∃ m, OL[i]? = some m := ⟨OL[i]'(by rw [OL_len]; omega), List.getElem?_eq_getElem (by rw [OL_len]; omega)⟩
        have hrise := rise_at OL i m n OL_rise hm (by rw [← hi]; exact hn)
        have q1 := CE i m hm (by omega)
        have d2 : decide ((0 : Int) < (j : Int)) = true := by simp; omega
        have d2n : decide (0 < j) = true := by simp; omega
        have hw : IntKind.i64.wrap ((j : Int) - 1) = (i : Int) := by rw [wrap_id (by omega) (by omega)]; omega
        have hs : (j : Int) - 1 = (i : Int) := by omega
        have d3 : decide (n ≤ m) = false := by simp; omega
        have b1 : (i : Int) < 243 := by omega
        have b2 : (j : Int) < 243 := by omega
        clear CE pg hn hm hj0 hi hrise
        go_wp2_with fail
        refine wp_region_ck [(g, j, .int .i64 n), (g, i, .int .i64 m)] (by kernel_rfl) (by kernel_rfl) ⟨⟨hgr, q0⟩, ⟨hgr, q1⟩, trivial⟩ ?_
        repeat (first
          | go_big_quiet_skip
          | (go_big_quiet_want
             go_big_quiet_op
             first
             | (refine ⟨.bool true, fun w' hw' => ?_, ?_⟩
                · (go_simp; done)
                go_big_quiet_on)
             | (refine ⟨.bool false, fun w' hw' => ?_, ?_⟩
                · (go_simp; done)
                go_big_quiet_on)
             | (refine ⟨.int .i64 (i : Int), fun w' hw' => ?_, ?_⟩
                · (go_simp; done)
                go_big_quiet_on)
             | go_big_quiet_on
             | (refine ⟨_, fun _ _ => rfl, ?_⟩; go_big_quiet_on)
             | (refine ⟨.int .i64 n, fun w' hw' => ?_, ?_⟩
                · (obtain ⟨_, ⟨_, hc0⟩, ⟨_, hc1⟩, _⟩ := hw'; go_simp; done)
                go_big_quiet_on)
             | (refine ⟨.int .i64 m, fun w' hw' => ?_, ?_⟩
                · (obtain ⟨_, ⟨_, hc0⟩, ⟨_, hc1⟩, _⟩ := hw'; go_simp; done)
                go_big_quiet_on)))
        refine wpQuiet_nil ?_
        rintro w6 ⟨g6, _⟩
        have G6 : Hid (Grew w1 w6) := PG.out.trans g6
        have r0 : w6.cell? ⟨g, j, none⟩ = some (.int .i64 n) := by rw [g6.1.cell hgr]; exact q0
        clear g6 q0
        cases B with
        | true =>
          go_wp2_with fail
          go_roundw
          case rel => exact ⟨j + 1, by omega, by go_num, by rw [HS.out]; rfl, G6.out⟩
          case measure => simp [intOf]; omega
        | false =>
          go_wp2_with fail
          go_roundw
          case rel => exact ⟨j + 1, by omega, by go_num, by rw [HS.out]; rfl, G6.out⟩
          case measure => simp [intOf]; omega
    · have hjn : j = 243 := by omega
      have e243 : OL.take 243 = OL := by rw [← OL_len, List.take_length]
      have HB : (OL.take j).any (fun x => decide (x = op)) = inOL op := by rw [hjn, e243]; rfl
      have hN := has_name op
      rw [HB]
      have hz := BA_nil (nameP op)
      have CO : Hid (∀ W, Calls Try.prog 9 #[.string (BA (nameP op))] W fun e w' => e = .returned (opV (opP (nameP op))) ∧ Grew W w') := fun W => op_any (nameP op) (by
        rcases op_parts op with h | ⟨k, rfl⟩ | h | ⟨k, rfl⟩ | h | ⟨k, rfl⟩ | h
        · rw [(names_far (Or.inl h)).1]; decide
        · exact Nat.le_trans (len1 k) (by decide)
        · rw [(names_far (Or.inr (Or.inl h))).1]; decide
        · exact Nat.le_trans (len2 k) (by decide)
        · rw [(names_far (Or.inr (Or.inr (Or.inl h)))).1]; decide
        · exact Nat.le_trans (len3 k) (by decide)
        · rw [(names_far (Or.inr (Or.inr (Or.inr h)))).1]; decide) W
      have hd : decide ((j : Int) < 243) = false := by simp; omega
      rw [← hz] at hN
      cases hH : inOL op with
      | true =>
        rw [hH] at hN
        rw [op_back hH] at CO
        simp only [opV] at CO
        have hz2 : (BA (nameP op)).toList.isEmpty = false := by simpa using hN.symm
        clear hz hN HB hH pg e243 hjn
        generalize BA (nameP op) = X at *
        go_wp2_with fail
        refine (C1.out _).mono ?_
        rintro e w2 ⟨rfl, g2⟩
        have G2 : Hid (Grew w w2) := (G1.out.trans PG.out).trans g2
        clear g2 C1
        go_wp2_with fail
        refine (refOps_any _).mono ?_
        rintro e w3 ⟨v3, rfl, hv3, g3⟩
        rw [OL_len] at hv3
        obtain ⟨va3, vc3, rfl⟩ := row_one hv3
        have G3 : Hid (Grew w w3) := G2.out.trans g3
        clear g3 hv3
        go_wp2_with fail
        refine (CO.out _).mono ?_
        rintro e w4 ⟨rfl, g4⟩
        have G4 : Hid (Grew w w4) := G3.out.trans g4
        clear g4
        go_wp2_with fail
        go_ret
        exact ⟨rfl, G4.out⟩
      | false =>
        rw [hH] at hN
        have hz2 : (BA (nameP op)).toList.isEmpty = true := by simpa using hN.symm
        clear hz hN HB hH pg e243 hjn
        generalize opP (nameP op) = O at *
        generalize BA (nameP op) = X at *
        cases O with
        | none =>
          simp only [opV] at CO
          go_wp2_with fail
          refine (C1.out _).mono ?_
          rintro e w2 ⟨rfl, g2⟩
          have G2 : Hid (Grew w w2) := (G1.out.trans PG.out).trans g2
          clear g2 C1
          go_wp2_with fail
          refine (refOps_any _).mono ?_
          rintro e w3 ⟨v3, rfl, hv3, g3⟩
          rw [OL_len] at hv3
          obtain ⟨va3, vc3, rfl⟩ := row_one hv3
          have G3 : Hid (Grew w w3) := G2.out.trans g3
          clear g3 hv3
          go_wp2_with fail
          refine (CO.out _).mono ?_
          rintro e w4 ⟨rfl, g4⟩
          have G4 : Hid (Grew w w4) := G3.out.trans g4
          clear g4
          go_wp2_with fail
          go_ret
          exact ⟨rfl, G4.out⟩
        | some o =>
          simp only [opV] at CO
          go_wp2_with fail
          refine (C1.out _).mono ?_
          rintro e w2 ⟨rfl, g2⟩
          have G2 : Hid (Grew w w2) := (G1.out.trans PG.out).trans g2
          clear g2 C1
          go_wp2_with fail
          refine (refOps_any _).mono ?_
          rintro e w3 ⟨v3, rfl, hv3, g3⟩
          rw [OL_len] at hv3
          obtain ⟨va3, vc3, rfl⟩ := row_one hv3
          have G3 : Hid (Grew w w3) := G2.out.trans g3
          clear g3 hv3
          go_wp2_with fail
          refine (CO.out _).mono ?_
          rintro e w4 ⟨rfl, g4⟩
          have G4 : Hid (Grew w w4) := G3.out.trans g4
          clear g4
          go_wp2_with fail
          go_ret
          exact ⟨rfl, G4.out⟩
end Go.Proofs.Ytjfiggkjdbnjeaa
