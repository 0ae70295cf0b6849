/-
  The walks of times and parts; no statement is proved here.
-/
import Derived.Test.YtjkebimmddlccaaDoorWideC
namespace Go.Proofs.YtjkebimmddlccaaDoor
open Go.RowKit
set_option linter.unusedVariables false
set_option linter.unusedSimpArgs false

theorem wv_lt {W : Nat} (h : W < 340282366920938463463374607431768211456) : Wd W (W / 18446744073709551616) (W % 18446744073709551616) := Wd.of h
theorem plus_any (W V : Nat) (m m' : Bool) (hs : W + V < 340282366920938463463374607431768211456) (w : World) :
    Calls Tryd.prog 104 #[wv W m, wv V m'] w fun e w' => e = .returned (wv (W + V) (m || m')) ∧ Grew w w' := by
  have h1 : Wd W _ _ := Wd.of (by omega)
  have h2 : Wd V _ _ := Wd.of (by omega)
  rw [h1.wv, h2.wv]
  exact plus_w W V _ _ _ _ m m' h1 h2 hs w
theorem minus_any (W V : Nat) (m m' : Bool) (hW : W < 340282366920938463463374607431768211456) (hs : V + m'.toNat ≤ W) (w : World) :
    Calls Tryd.prog 105 #[wv W m, wv V m'] w fun e w' => e = .returned (wv (W - V - m'.toNat) (m || m')) ∧ Grew w w' := by
  have h1 : Wd W _ _ := Wd.of (by omega)
  have h2 : Wd V _ _ := Wd.of (by omega)
  rw [h1.wv, h2.wv]
  cases m'
  · exact minus_f W V _ _ _ _ m h1 h2 hs w
  · exact minus_t W V _ _ _ _ m h1 h2 hs w
theorem less_any (W V : Nat) (m m' : Bool) (hW : W < 340282366920938463463374607431768211456) (hV : V < 340282366920938463463374607431768211456) (w : World) :
    Calls Tryd.prog 91 #[wv W m, wv V m'] w fun e w' => e = .returned (.bool (decide (W < V))) ∧ Grew w w' := by
  have h1 : Wd W _ _ := Wd.of hW
  have h2 : Wd V _ _ := Wd.of hV
  rw [h1.wv, h2.wv]
  exact less_w W V _ _ _ _ m m' h1 h2 w
theorem long_any (W : Nat) (m : Bool) (hW : W < 340282366920938463463374607431768211456) (w : World) :
    Calls Tryd.prog 97 #[wv W m] w fun e w' => e = .returned (.int .i64 (bl W : Int)) ∧ Grew w w' := by
  have h1 : Wd W _ _ := Wd.of hW
  rw [h1.wv]
  exact long_w W _ _ m h1 w
theorem wv_small (a : Nat) (h : a < 18446744073709551616) (m : Bool) : wv a m = .agg #[.int .u64 0, .int .u64 (a : Int), .bool m] := Wd.wv (H := 0) (L := a) ⟨h, by decide, by omega⟩ m
theorem mul_bit (a b j : Nat) : a * (b / 2 ^ j) = a * (b / 2 ^ (j + 1)) * 2 + (if b / 2 ^ j % 2 = 1 then a else 0) := by
  have e : b / 2 ^ (j + 1) = b / 2 ^ j / 2 := (half_div b j).symm
  rw [e]
  generalize b / 2 ^ j = q
  have : q = q / 2 * 2 + q % 2 := by omega
  split
  · rename_i h
    conv => lhs; rw [this, h, Nat.mul_add, Nat.mul_one, ← Nat.mul_assoc]
  · rename_i h
    have h0 : q % 2 = 0 := by omega
    conv => lhs; rw [this, h0, Nat.add_zero, ← Nat.mul_assoc]
    rfl
set_option maxRecDepth 100000 in
set_option maxHeartbeats 2000000 in
theorem times_any (a b : Nat) (ha : a < 18446744073709551616) (hb : b < 18446744073709551616) (w : World) :
    Calls Tryd.prog 92 #[.int .u64 (a : Int), .int .u64 (b : Int)] w fun e w' => e = .returned (wv (a * b) false) ∧ Grew w w' := by
  have hab : a * b < 340282366920938463463374607431768211456 := by
    have : a * b ≤ 18446744073709551615 * 18446744073709551615 := Nat.mul_le_mul (by omega) (by omega)
    omega
  obtain ⟨R, hR⟩ : ∃ R, R = wv (a * b) false := ⟨_, rfl⟩
  rw [← hR]
  have HR : Hid (R = wv (a * b) false) := hR
  clear hR
  go_enter Tryd.func92, Tryd.ntmps92
  go_wp2_with fail
  go_loopw [6] (fun i_ wr => ∃ (k H L : Nat), i_ = .int .i64 ((k : Int) - 1) ∧ k ≤ 64 ∧ Wd (a * (b / 2 ^ k)) H L ∧ WC wr (w.heap.size + 1) H L false ∧ WC wr w.heap.size 0 0 false ∧ w.heap.size + 1 < wr.heap.size ∧ Grew w wr) (fun i_ _ => (intOf i_ + 1).toNat)
  case atStart =>
    refine ⟨64, 0, 0, rfl, by omega, ?_, ?_, ?_, by simp, ((Grew.refl _).alloc _).alloc _⟩
    · rw [Nat.div_eq_of_lt hb]; exact ⟨by omega, by omega, by omega⟩
    · unfold WC; go_simp
    · unfold WC; go_simp
  case round =>
    obtain ⟨k, H, L, rfl, hk, hd, ⟨c0, c1, c2, z0, z1, z2⟩, ⟨d0, d1, d2, y0, y1, y2⟩, hs, gr⟩ := hrel
    have GR : Hid (Grew w wr) := gr
    clear gr
    cases k with
    | zero =>
      have E : Hid (wv (a * b) false = .agg #[.int .u64 (H : Int), .int .u64 (L : Int), .bool false]) := by
        rw [Nat.pow_zero, Nat.div_one] at hd
        exact hd.wv false
      have E2 : Hid (R = .agg #[.int .u64 (H : Int), .int .u64 (L : Int), .bool false]) := HR.out.trans E.out
      clear hd hab E
      go_wp2
      have f0 : ((((wr).setCell ⟨w.heap.size, 0, none⟩ (.int .u64 (H : Int))).setCell ⟨w.heap.size, 1, none⟩ (.int .u64 (L : Int))).setCell ⟨w.heap.size, 2, none⟩ (.bool false)).cell? ⟨w.heap.size, 0, none⟩ = some (.int .u64 (H : Int)) := by go_simp
      have f1 : ((((wr).setCell ⟨w.heap.size, 0, none⟩ (.int .u64 (H : Int))).setCell ⟨w.heap.size, 1, none⟩ (.int .u64 (L : Int))).setCell ⟨w.heap.size, 2, none⟩ (.bool false)).cell? ⟨w.heap.size, 1, none⟩ = some (.int .u64 (L : Int)) := by go_simp
      have f2 : ((((wr).setCell ⟨w.heap.size, 0, none⟩ (.int .u64 (H : Int))).setCell ⟨w.heap.size, 1, none⟩ (.int .u64 (L : Int))).setCell ⟨w.heap.size, 2, none⟩ (.bool false)).cell? ⟨w.heap.size, 2, none⟩ = some (.bool false) := by go_simp
      refine bodyPost_ret (v := .agg #[.int .u64 (H : Int), .int .u64 (L : Int), .bool false]) (by simp [results, Tryd.results92, go_sem, f0, f1, f2]) rfl ?_
      refine ⟨by rw [E2.out], ?_⟩
      repeat (first | exact Grew.refl _ | refine Grew.drew ?_ | refine Grew.drewN ?_ _ | refine Grew.alloc ?_ _ | refine Grew.set ?_ (by first | (simp; done) | (simp; omega) | omega) _ | exact GR.out)
    | succ j =>
      have ej : (((j + 1 : Nat) : Int) - 1) = (j : Int) := by omega
      rw [ej]
      have hm := mul_bit a b j
      have hle : a * (b / 2 ^ j) ≤ a * b := Nat.mul_le_mul_left a (Nat.div_le_self _ _)
      have hX2 : a * (b / 2 ^ (j + 1)) * 2 ^ 1 < 340282366920938463463374607431768211456 := by
        rw [Nat.pow_one]
        split at hm <;> omega
      have L1' := fun w : World => left_w (a * (b / 2 ^ (j + 1))) 1 H L false hd hX2 (by decide) w
      have h2 : Wd (a * (b / 2 ^ (j + 1)) * 2 ^ 1) _ _ := Wd.of hX2
      rw [h2.wv] at L1'
      obtain ⟨H2, hH2⟩ : ∃ n, n = a * (b / 2 ^ (j + 1)) * 2 ^ 1 / 18446744073709551616 := ⟨_, rfl⟩
      obtain ⟨L2, hL2⟩ : ∃ n, n = a * (b / 2 ^ (j + 1)) * 2 ^ 1 % 18446744073709551616 := ⟨_, rfl⟩
      rw [← hH2, ← hL2] at L1' h2
      clear hH2 hL2
      have L1 : CG 89 #[.agg #[.int .u64 (H : Int), .int .u64 (L : Int), .bool false], .int .i64 1] (.agg #[.int .u64 (H2 : Int), .int .u64 (L2 : Int), .bool false]) := L1'
      clear L1'
      have hq : b / 2 ^ j < 18446744073709551616 := Nat.lt_of_le_of_lt (Nat.div_le_self _ _) hb
      have hj : j ≤ 63 := by omega
      have ed : ((b / 2 ^ j : Nat) : Int) = (b : Int) / 2 ^ j := by push_cast; rfl
      have ba := and_1 (b / 2 ^ j) hq
      rw [ed] at ba
      by_cases hbit : b / 2 ^ j % 2 = 1
      · have bp : (bits .and .u64 ((b : Int) / 2 ^ j) 1 == 1) = true := by rw [ba, hbit]; rfl
        rw [if_pos hbit] at hm
        have hs3 : a * (b / 2 ^ (j + 1)) * 2 ^ 1 + a < 340282366920938463463374607431768211456 := by rw [Nat.pow_one, ← hm]; omega
        have P1' := fun w : World => plus_w _ a H2 L2 0 a false false h2 ⟨ha, by decide, by omega⟩ hs3 w
        have h3 : Wd (a * (b / 2 ^ (j + 1)) * 2 ^ 1 + a) _ _ := Wd.of hs3
        rw [h3.wv] at P1'
        obtain ⟨H3, hH3⟩ : ∃ n, n = (a * (b / 2 ^ (j + 1)) * 2 ^ 1 + a) / 18446744073709551616 := ⟨_, rfl⟩
        obtain ⟨L3, hL3⟩ : ∃ n, n = (a * (b / 2 ^ (j + 1)) * 2 ^ 1 + a) % 18446744073709551616 := ⟨_, rfl⟩
        rw [← hH3, ← hL3] at P1'
        rw [Nat.pow_one] at hH3 hL3
        have N4 : Hid (Wd (a * (b / 2 ^ j)) H3 L3) := by show Wd _ _ _; rw [hH3, hL3, hm]; rw [Nat.pow_one] at h3; exact h3
        clear hH3 hL3
        have P1 : CG 104 #[.agg #[.int .u64 (H2 : Int), .int .u64 (L2 : Int), .bool false], .agg #[.int .u64 0, .int .u64 (a : Int), .bool false]] (.agg #[.int .u64 (H3 : Int), .int .u64 (L3 : Int), .bool false]) := P1'
        clear P1' hm hle hX2 hd h2 h3 hs3 ba ed ej hab hbit
        go_wp2_with fail
        refine (L1.out _).mono ?_
        rintro e w2 ⟨rfl, g2⟩
        obtain ⟨l2_0, q2_0⟩ := g2.blk (B := w.heap.size + 1) (by first | (simp; done) | (simp; omega) | omega)
        have h2_0_0 := q2_0.out 0 (.int .u64 (H : Int)) (by go_simp)
        have z2_0_0 : w2.frozen? ⟨w.heap.size + 1, 0, none⟩ = false := (by rw [g2.1.frozen (by first | (simp; done) | (simp; omega) | omega)]; go_simp)
        have h2_0_1 := q2_0.out 1 (.int .u64 (L : Int)) (by go_simp)
        have z2_0_1 : w2.frozen? ⟨w.heap.size + 1, 1, none⟩ = false := (by rw [g2.1.frozen (by first | (simp; done) | (simp; omega) | omega)]; go_simp)
        have h2_0_2 := q2_0.out 2 (.bool false) (by go_simp)
        have z2_0_2 : w2.frozen? ⟨w.heap.size + 1, 2, none⟩ = false := (by rw [g2.1.frozen (by first | (simp; done) | (simp; omega) | omega)]; go_simp)
        obtain ⟨l2_1, q2_1⟩ := g2.blk (B := w.heap.size) (by first | (simp; done) | (simp; omega) | omega)
        have h2_1_0 := q2_1.out 0 (.int .u64 0) (by go_simp)
        have z2_1_0 : w2.frozen? ⟨w.heap.size, 0, none⟩ = false := (by rw [g2.1.frozen (by first | (simp; done) | (simp; omega) | omega)]; go_simp)
        have h2_1_1 := q2_1.out 1 (.int .u64 0) (by go_simp)
        have z2_1_1 : w2.frozen? ⟨w.heap.size, 1, none⟩ = false := (by rw [g2.1.frozen (by first | (simp; done) | (simp; omega) | omega)]; go_simp)
        have h2_1_2 := q2_1.out 2 (.bool false) (by go_simp)
        have z2_1_2 : w2.frozen? ⟨w.heap.size, 2, none⟩ = false := (by rw [g2.1.frozen (by first | (simp; done) | (simp; omega) | omega)]; go_simp)
        go_wp2_with fail
        refine (P1.out _).mono ?_
        rintro e w3 ⟨rfl, g3⟩
        obtain ⟨l3_0, q3_0⟩ := g3.blk (B := w.heap.size + 1) (by first | (simp; done) | (simp; omega) | omega)
        have h3_0_0 := q3_0.out 0 (.int .u64 (H2 : Int)) (by go_simp)
        have z3_0_0 : w3.frozen? ⟨w.heap.size + 1, 0, none⟩ = false := (by rw [g3.1.frozen (by first | (simp; done) | (simp; omega) | omega)]; go_simp)
        have h3_0_1 := q3_0.out 1 (.int .u64 (L2 : Int)) (by go_simp)
        have z3_0_1 : w3.frozen? ⟨w.heap.size + 1, 1, none⟩ = false := (by rw [g3.1.frozen (by first | (simp; done) | (simp; omega) | omega)]; go_simp)
        have h3_0_2 := q3_0.out 2 (.bool false) (by go_simp)
        have z3_0_2 : w3.frozen? ⟨w.heap.size + 1, 2, none⟩ = false := (by rw [g3.1.frozen (by first | (simp; done) | (simp; omega) | omega)]; go_simp)
        obtain ⟨l3_1, q3_1⟩ := g3.blk (B := w.heap.size) (by first | (simp; done) | (simp; omega) | omega)
        have h3_1_0 := q3_1.out 0 (.int .u64 0) (by go_simp)
        have z3_1_0 : w3.frozen? ⟨w.heap.size, 0, none⟩ = false := (by rw [g3.1.frozen (by first | (simp; done) | (simp; omega) | omega)]; go_simp)
        have h3_1_1 := q3_1.out 1 (.int .u64 0) (by go_simp)
        have z3_1_1 : w3.frozen? ⟨w.heap.size, 1, none⟩ = false := (by rw [g3.1.frozen (by first | (simp; done) | (simp; omega) | omega)]; go_simp)
        have h3_1_2 := q3_1.out 2 (.bool false) (by go_simp)
        have z3_1_2 : w3.frozen? ⟨w.heap.size, 2, none⟩ = false := (by rw [g3.1.frozen (by first | (simp; done) | (simp; omega) | omega)]; go_simp)
        go_wp2
        go_roundw
        case rel =>
          refine ⟨j, H3, L3, by first | rfl | simp, by omega, N4.out, ?_, ?_, by simp; omega, ?_⟩
          · unfold WC; go_simp
          · unfold WC; go_simp
          repeat (first | exact Grew.refl _ | refine Grew.drew ?_ | refine Grew.drewN ?_ _ | refine Grew.alloc ?_ _ | refine Grew.set ?_ (by first | (simp; done) | (simp; omega) | omega) _ | refine Grew.trans ?_ g3 | refine Grew.trans ?_ g2 | exact GR.out)
        case measure => first | (simp [intOf]; done) | (simp [intOf]; omega)
      · have bp : (bits .and .u64 ((b : Int) / 2 ^ j) 1 == 1) = false := by
          have : b / 2 ^ j % 2 = 0 := by generalize b / 2 ^ j = q at *; omega
          rw [ba, this]; rfl
        rw [if_neg hbit, Nat.add_zero] at hm
        have N4 : Hid (Wd (a * (b / 2 ^ j)) H2 L2) := by rw [hm]; rw [Nat.pow_one] at h2; exact h2
        clear hm hle hX2 hd h2 ba ed ej hab hbit
        go_wp2_with fail
        refine (L1.out _).mono ?_
        rintro e w2 ⟨rfl, g2⟩
        obtain ⟨l2_0, q2_0⟩ := g2.blk (B := w.heap.size + 1) (by first | (simp; done) | (simp; omega) | omega)
        have h2_0_0 := q2_0.out 0 (.int .u64 (H : Int)) (by go_simp)
        have z2_0_0 : w2.frozen? ⟨w.heap.size + 1, 0, none⟩ = false := (by rw [g2.1.frozen (by first | (simp; done) | (simp; omega) | omega)]; go_simp)
        have h2_0_1 := q2_0.out 1 (.int .u64 (L : Int)) (by go_simp)
        have z2_0_1 : w2.frozen? ⟨w.heap.size + 1, 1, none⟩ = false := (by rw [g2.1.frozen (by first | (simp; done) | (simp; omega) | omega)]; go_simp)
        have h2_0_2 := q2_0.out 2 (.bool false) (by go_simp)
        have z2_0_2 : w2.frozen? ⟨w.heap.size + 1, 2, none⟩ = false := (by rw [g2.1.frozen (by first | (simp; done) | (simp; omega) | omega)]; go_simp)
        obtain ⟨l2_1, q2_1⟩ := g2.blk (B := w.heap.size) (by first | (simp; done) | (simp; omega) | omega)
        have h2_1_0 := q2_1.out 0 (.int .u64 0) (by go_simp)
        have z2_1_0 : w2.frozen? ⟨w.heap.size, 0, none⟩ = false := (by rw [g2.1.frozen (by first | (simp; done) | (simp; omega) | omega)]; go_simp)
        have h2_1_1 := q2_1.out 1 (.int .u64 0) (by go_simp)
        have z2_1_1 : w2.frozen? ⟨w.heap.size, 1, none⟩ = false := (by rw [g2.1.frozen (by first | (simp; done) | (simp; omega) | omega)]; go_simp)
        have h2_1_2 := q2_1.out 2 (.bool false) (by go_simp)
        have z2_1_2 : w2.frozen? ⟨w.heap.size, 2, none⟩ = false := (by rw [g2.1.frozen (by first | (simp; done) | (simp; omega) | omega)]; go_simp)
        go_wp2
        go_roundw
        case rel =>
          refine ⟨j, H2, L2, by first | rfl | simp, by omega, N4.out, ?_, ?_, by simp; omega, ?_⟩
          · unfold WC; go_simp
          · unfold WC; go_simp
          repeat (first | exact Grew.refl _ | refine Grew.drew ?_ | refine Grew.drewN ?_ _ | refine Grew.alloc ?_ _ | refine Grew.set ?_ (by first | (simp; done) | (simp; omega) | omega) _ | refine Grew.trans ?_ g2 | exact GR.out)
        case measure => first | (simp [intOf]; done) | (simp [intOf]; omega)
end Go.Proofs.YtjkebimmddlccaaDoor
