/-
  The walk of the document's quotient; no statement is proved here.
-/
import Derived.Test.YtjkebimmddlccaaDoorWideD
import Derived.Test.YtjkebimmddlccaaDoorParts
namespace Go.Proofs.YtjkebimmddlccaaDoor
open Go.RowKit
set_option linter.unusedVariables false
set_option linter.unusedSimpArgs false

theorem quo_step (P P' n bit : Nat) (hn : 0 < n) (h : P' = 2 * P + bit) (hb : bit ≤ 1) :
    (n ≤ 2 * (P % n) + bit → P' / n = 2 * (P / n) + 1 ∧ P' % n = 2 * (P % n) + bit - n) ∧ (¬ n ≤ 2 * (P % n) + bit → P' / n = 2 * (P / n) ∧ P' % n = 2 * (P % n) + bit) := by
  have dm := Nat.div_add_mod P n
  have ml := Nat.mod_lt P hn
  generalize P / n = Q at *
  generalize P % n = r at *
  have e : P' = n * (2 * Q) + (2 * r + bit) := by rw [h, ← dm, Nat.mul_add, ← Nat.mul_assoc, ← Nat.mul_assoc, Nat.mul_comm 2 n]; omega
  constructor
  · intro hc
    have e2 : P' = n * (2 * Q + 1) + (2 * r + bit - n) := by rw [e, Nat.mul_add, Nat.mul_one]; omega
    rw [e2, Nat.mul_add_div hn, Nat.mul_add_mod, Nat.div_eq_of_lt (by omega), Nat.mod_eq_of_lt (by omega)]
    exact ⟨by omega, rfl⟩
  · intro hc
    rw [e, Nat.mul_add_div hn, Nat.mul_add_mod, Nat.div_eq_of_lt (by omega), Nat.mod_eq_of_lt (by omega)]
    exact ⟨by omega, rfl⟩
theorem wv_agg0 (M : Nat) (h : M < 18446744073709551616) {m : Bool} : wv M m = .agg #[.int .u64 0, .int .u64 (M : Int), .bool m] := wv_small M h m
theorem bit_hi (m t : Nat) : m * 2 ^ 60 / 2 ^ (t + 60) = m / 2 ^ t := by
  rw [Nat.pow_add, Nat.mul_comm (2 ^ t), ← Nat.div_div_eq_div_mul, Nat.mul_div_cancel _ (by decide)]
theorem bit_lo (m j : Nat) (h : j < 60) : m * 2 ^ 60 / 2 ^ j = 2 * (m * 2 ^ 60 / 2 ^ (j + 1)) := by
  have e1 : 2 ^ 60 = 2 ^ (60 - j) * 2 ^ j := by rw [← Nat.pow_add]; congr 1; omega
  have e2 : 2 ^ 60 = 2 ^ (59 - j) * 2 ^ (j + 1) := by rw [← Nat.pow_add]; congr 1; omega
  have r1 : m * 2 ^ 60 / 2 ^ j = m * 2 ^ (60 - j) := by rw [e1, ← Nat.mul_assoc, Nat.mul_div_cancel _ (Nat.two_pow_pos _)]
  have r2 : m * 2 ^ 60 / 2 ^ (j + 1) = m * 2 ^ (59 - j) := by rw [e2, ← Nat.mul_assoc, Nat.mul_div_cancel _ (Nat.two_pow_pos _)]
  rw [r1, r2, show 60 - j = (59 - j) + 1 from by omega, Nat.pow_succ, ← Nat.mul_assoc, Nat.mul_comm 2]
set_option maxRecDepth 100000 in
set_option maxHeartbeats 16000000 in
theorem quotient_w {f : Ieee.Format} (a b e d R : Int) (m n c : Nat) (p q : Bool) (w : World) (e0 : -2000 ≤ e) (e1 : e ≤ 2000) (d0 : -2000 ≤ d) (d1 : d ≤ 2000) (c0 : 1 ≤ c) (c1 : c ≤ 63) (hm : m * 2 ^ c < 18446744073709551616) (hn : n < 18014398509481984) (hn0 : 0 < n)
    (PX : CG 80 #[.agg #[.int .i64 (f.fractionBits : Int), .int .i64 (f.exponentBits : Int)], .int .u64 a] (.tuple #[.int .u64 (m : Int), .int .i64 e]))
    (PY : CG 80 #[.agg #[.int .i64 (f.fractionBits : Int), .int .i64 (f.exponentBits : Int)], .int .u64 b] (.tuple #[.int .u64 (n : Int), .int .i64 d]))
    (Bt : Hid (∀ w : World, Calls Tryd.prog 90 #[.int .u64 (m : Int)] w fun en w' => en = .returned (.int .i64 (64 - (c : Int))) ∧ w' = w))
    (NX : CG 63 #[.agg #[.int .i64 (f.fractionBits : Int), .int .i64 (f.exponentBits : Int)], .int .u64 a] (.bool p))
    (NY : CG 63 #[.agg #[.int .i64 (f.fractionBits : Int), .int .i64 (f.exponentBits : Int)], .int .u64 b] (.bool q))
    (Rd : Hid (∀ w : World, ∀ H1 K1 : Nat, Wd (m * 2 ^ c * 2 ^ 60 / n) H1 K1 → Calls Tryd.prog 79 #[.agg #[.int .i64 (f.fractionBits : Int), .int .i64 (f.exponentBits : Int)], .bool (p != q), .agg #[.int .u64 (H1 : Int), .int .u64 (K1 : Int), .bool (decide (m * 2 ^ c * 2 ^ 60 % n ≠ 0))], .int .i64 (e - c - d - 60)] w fun en w' => en = .returned (.int .u64 R) ∧ Grew w w')) :
    Calls Tryd.prog 96 #[.agg #[.int .i64 (f.fractionBits : Int), .int .i64 (f.exponentBits : Int)], .int .u64 a, .int .u64 b] w fun en w' => en = .returned (.int .u64 R) ∧ Grew w w' := by
  obtain ⟨m', hm'⟩ : ∃ x, x = m * 2 ^ c := ⟨_, rfl⟩
  have em : (m : Int) * 2 ^ c = (m' : Int) := by rw [hm']; push_cast; rfl
  rw [← hm'] at hm
  have RD : Hid (∀ w : World, ∀ H1 K1 : Nat, Wd (m' * 2 ^ 60 / n) H1 K1 → Calls Tryd.prog 79 #[.agg #[.int .i64 (f.fractionBits : Int), .int .i64 (f.exponentBits : Int)], .bool (p != q), .agg #[.int .u64 (H1 : Int), .int .u64 (K1 : Int), .bool (decide (m' * 2 ^ 60 % n ≠ 0))], .int .i64 (e - c - d - 60)] w fun en w' => en = .returned (.int .u64 R) ∧ Grew w w') := by rw [hm']; exact Rd.out
  clear hm' Rd
  have hmw : (m : Int) * 2 ^ c < 18446744073709551616 := by rw [em]; omega
  have hc6 : (64 : Int) - (64 - (c : Int)) = c := by omega
  have hc7 : 64 - (64 - c) = c := by omega
  go_enter Tryd.func96, Tryd.ntmps96
  go_wp2_with fail
  refine (PX.out _).mono ?_
  rintro e w1 ⟨rfl, g1⟩
  obtain ⟨l1_0, h1_0_0, h1_0_1⟩ := g1.c2 (w.heap.size) (.int .i64 (f.fractionBits : Int)) (.int .i64 (f.exponentBits : Int))
  go_wp2_with fail
  refine (PY.out _).mono ?_
  rintro e w2 ⟨rfl, g2⟩
  obtain ⟨l2_0, h2_0_0, h2_0_1⟩ := g2.c2 (w.heap.size) (.int .i64 (f.fractionBits : Int)) (.int .i64 (f.exponentBits : Int))
  go_wp2_with (go_at_call 90; refine (Bt.out _).mono ?_; rintro en wz ⟨rfl, hwz⟩; obtain rfl := hwz.symm)
  try simp only [em]
  clear hmw em hc6 hc7
  have S2 : Hid (Grew w w2) := ((((Grew.refl _).alloc _).trans g1).trans g2)
  have SL : w.heap.size < w2.heap.size := l2_0
  clear g1 g2 l1_0 h1_0_0 h1_0_1
  go_loopw [13] (fun i_ wr => ∃ (k Hq Kq r : Nat), i_ = .int .i64 ((k : Int) - 1) ∧ k ≤ 124 ∧ Wd (m' * 2 ^ 60 / 2 ^ k / n) Hq Kq ∧ r = m' * 2 ^ 60 / 2 ^ k % n ∧ WC wr w2.heap.size Hq Kq false ∧ WC wr (w2.heap.size + 1) 0 r false
      ∧ wr.cell? ⟨w.heap.size, 0, none⟩ = some (.int .i64 (f.fractionBits : Int)) ∧ wr.cell? ⟨w.heap.size, 1, none⟩ = some (.int .i64 (f.exponentBits : Int)) ∧ w2.heap.size + 1 < wr.heap.size ∧ Grew w wr) (fun i_ _ => (intOf i_ + 1).toNat)
  case atStart =>
    have h00 : m' * 2 ^ 60 < 18446744073709551616 * 2 ^ 60 := Nat.mul_lt_mul_of_pos_right hm (by decide)
    have h0 : m' * 2 ^ 60 / 2 ^ 124 = 0 := Nat.div_eq_of_lt (Nat.lt_of_lt_of_le h00 (by decide))
    refine ⟨124, 0, 0, 0, rfl, by omega, ?_, ?_, ?_, ?_, ?_, ?_, by simp, ?_⟩
    · rw [h0, Nat.zero_div]; exact ⟨by omega, by omega, by omega⟩
    · rw [h0, Nat.zero_mod]
    · unfold WC; go_simp
    · unfold WC; go_simp
    · go_simp
    · go_simp
    · exact (S2.out.alloc _).alloc _
  case round =>
    obtain ⟨k, Hq, Kq, r, rfl, hk, hq, hr, ⟨c0', c1', c2', z0, z1, z2⟩, ⟨d0', d1', d2', y0, y1, y2⟩, b0, b1, hs, gr⟩ := hrel
    have GR : Hid (Grew w wr) := gr
    have SW : Hid (w.heap.size ≤ w2.heap.size) := S2.out.2
    clear gr h2_0_0 h2_0_1
    cases k with
    | zero =>
      rw [Nat.pow_zero, Nat.div_one] at hq hr
      have RD2 : CG 79 #[.agg #[.int .i64 (f.fractionBits : Int), .int .i64 (f.exponentBits : Int)], .bool (p != q), .agg #[.int .u64 (Hq : Int), .int .u64 (Kq : Int), .bool (decide (0 < (r : Int)))], .int .i64 (e - c - d - 60)] (.int .u64 R) := fun w => by
        have := RD.out w Hq Kq hq
        rw [← hr] at this
        have e1 : decide (r ≠ 0) = decide (0 < (r : Int)) := decide_eq_decide.2 (by omega)
        rw [e1] at this
        exact this
      clear hq hr RD
      have wz1 : IntKind.i64.wrap (e - (c : Int) - d) = e - c - d := by rw [IntKind.wrap_i64]; omega
      have wz2 : IntKind.i64.wrap (e - (c : Int) - d - 60) = e - c - d - 60 := by rw [IntKind.wrap_i64]; omega
      by_cases hr0 : 0 < r
      · have hri : 0 < (r : Int) := by omega
        have hrd : decide (0 < r) = true := decide_eq_true hr0
        simp only [hri, decide_true] at RD2
        clear hri hr0
        go_wp2_with fail
        try simp only [hrd]
        have k0 : (wr.setCell ⟨w2.heap.size, 2, none⟩ (.bool true)).cell? ⟨w.heap.size, 0, none⟩ = some (.int .i64 (f.fractionBits : Int)) := by go_simp
        have k1 : (wr.setCell ⟨w2.heap.size, 2, none⟩ (.bool true)).cell? ⟨w.heap.size, 1, none⟩ = some (.int .i64 (f.exponentBits : Int)) := by go_simp
        have k2 : (wr.setCell ⟨w2.heap.size, 2, none⟩ (.bool true)).cell? ⟨w2.heap.size, 0, none⟩ = some (.int .u64 (Hq : Int)) := by go_simp
        have k3 : (wr.setCell ⟨w2.heap.size, 2, none⟩ (.bool true)).cell? ⟨w2.heap.size, 1, none⟩ = some (.int .u64 (Kq : Int)) := by go_simp
        have k4 : (wr.setCell ⟨w2.heap.size, 2, none⟩ (.bool true)).cell? ⟨w2.heap.size, 2, none⟩ = some (.bool true) := by go_simp
        have kg : Hid (Grew w (wr.setCell ⟨w2.heap.size, 2, none⟩ (.bool true))) := GR.out.set (by have := SW.out; simp; omega) _
        have ks : (wr.setCell ⟨w2.heap.size, 2, none⟩ (.bool true)).heap.size = wr.heap.size := by simp
        generalize (wr.setCell ⟨w2.heap.size, 2, none⟩ (.bool true)) = wx at *
        clear c0' c1' c2' z0 z1 z2 d0' d1' d2' y0 y1 y2 b0 b1
        have hs' : w2.heap.size + 1 < wx.heap.size := by rw [ks]; exact hs
        clear ks hs PX PY Bt hm hn hn0 S2 GR hrd
        go_region_held3 (fun w' => w'.cell? ⟨w.heap.size, 0, none⟩ = some (.int .i64 (f.fractionBits : Int)) ∧ w'.cell? ⟨w.heap.size, 1, none⟩ = some (.int .i64 (f.exponentBits : Int)) ∧ w'.cell? ⟨w2.heap.size, 0, none⟩ = some (.int .u64 (Hq : Int)) ∧ w'.cell? ⟨w2.heap.size, 1, none⟩ = some (.int .u64 (Kq : Int)) ∧ w'.cell? ⟨w2.heap.size, 2, none⟩ = some (.bool true)) (go_keep)
          (first
          | (go_at_call_of 63 (Value.int IntKind.u64 a); refine (NX.out _).mono ?_; rintro e w3 ⟨rfl, g3⟩; obtain ⟨l3_0, h3_0_0, h3_0_1⟩ := g3.c2 (w.heap.size) (.int .i64 (f.fractionBits : Int)) (.int .i64 (f.exponentBits : Int)); obtain ⟨l3_1, h3_1_0, h3_1_1, h3_1_2⟩ := g3.c3 (w2.heap.size) (.int .u64 (Hq : Int)) (.int .u64 (Kq : Int)) (.bool true))
          | (go_at_call_of 63 (Value.int IntKind.u64 b); refine (NY.out _).mono ?_; rintro e w4 ⟨rfl, g4⟩; obtain ⟨l4_0, h4_0_0, h4_0_1⟩ := g4.c2 (w.heap.size) (.int .i64 (f.fractionBits : Int)) (.int .i64 (f.exponentBits : Int)); obtain ⟨l4_1, h4_1_0, h4_1_1, h4_1_2⟩ := g4.c3 (w2.heap.size) (.int .u64 (Hq : Int)) (.int .u64 (Kq : Int)) (.bool true))
          | (go_at_call 79; refine (RD2.out _).mono ?_; rintro e w5 ⟨rfl, g5⟩; obtain ⟨l5_0, h5_0_0, h5_0_1⟩ := g5.c2 (w.heap.size) (.int .i64 (f.fractionBits : Int)) (.int .i64 (f.exponentBits : Int)); obtain ⟨l5_1, h5_1_0, h5_1_1, h5_1_2⟩ := g5.c3 (w2.heap.size) (.int .u64 (Hq : Int)) (.int .u64 (Kq : Int)) (.bool true)))
        all_goals go_wp2
        all_goals go_ret
        all_goals go_light
        all_goals refine ⟨by first | rfl | simp, ?_⟩
        all_goals have sw := SW.out
        all_goals have sg3 := g3.2
        all_goals have sg4 := g4.2
        all_goals have sg5 := g5.2
        all_goals simp at sg3 sg4 sg5
        all_goals repeat (first | exact Grew.refl _ | refine Grew.drew ?_ | refine Grew.drewN ?_ _ | refine Grew.alloc ?_ _ | refine Grew.set ?_ (by first | (simp; done) | (simp; omega) | omega) _ | refine Grew.trans ?_ g3 | refine Grew.trans ?_ g4 | refine Grew.trans ?_ g5 | exact kg.out)
      · have hri : ¬ 0 < (r : Int) := by omega
        have hrd : decide (0 < r) = false := decide_eq_false hr0
        simp only [hri, decide_false] at RD2
        clear hri hr0
        go_wp2_with fail
        try simp only [hrd]
        have k0 : (wr.setCell ⟨w2.heap.size, 2, none⟩ (.bool false)).cell? ⟨w.heap.size, 0, none⟩ = some (.int .i64 (f.fractionBits : Int)) := by go_simp
        have k1 : (wr.setCell ⟨w2.heap.size, 2, none⟩ (.bool false)).cell? ⟨w.heap.size, 1, none⟩ = some (.int .i64 (f.exponentBits : Int)) := by go_simp
        have k2 : (wr.setCell ⟨w2.heap.size, 2, none⟩ (.bool false)).cell? ⟨w2.heap.size, 0, none⟩ = some (.int .u64 (Hq : Int)) := by go_simp
        have k3 : (wr.setCell ⟨w2.heap.size, 2, none⟩ (.bool false)).cell? ⟨w2.heap.size, 1, none⟩ = some (.int .u64 (Kq : Int)) := by go_simp
        have k4 : (wr.setCell ⟨w2.heap.size, 2, none⟩ (.bool false)).cell? ⟨w2.heap.size, 2, none⟩ = some (.bool false) := by go_simp
        have kg : Hid (Grew w (wr.setCell ⟨w2.heap.size, 2, none⟩ (.bool false))) := GR.out.set (by have := SW.out; simp; omega) _
        have ks : (wr.setCell ⟨w2.heap.size, 2, none⟩ (.bool false)).heap.size = wr.heap.size := by simp
        generalize (wr.setCell ⟨w2.heap.size, 2, none⟩ (.bool false)) = wx at *
        clear c0' c1' c2' z0 z1 z2 d0' d1' d2' y0 y1 y2 b0 b1
        have hs' : w2.heap.size + 1 < wx.heap.size := by rw [ks]; exact hs
        clear ks hs PX PY Bt hm hn hn0 S2 GR hrd
        go_region_held3 (fun w' => w'.cell? ⟨w.heap.size, 0, none⟩ = some (.int .i64 (f.fractionBits : Int)) ∧ w'.cell? ⟨w.heap.size, 1, none⟩ = some (.int .i64 (f.exponentBits : Int)) ∧ w'.cell? ⟨w2.heap.size, 0, none⟩ = some (.int .u64 (Hq : Int)) ∧ w'.cell? ⟨w2.heap.size, 1, none⟩ = some (.int .u64 (Kq : Int)) ∧ w'.cell? ⟨w2.heap.size, 2, none⟩ = some (.bool false)) (go_keep)
          (first
          | (go_at_call_of 63 (Value.int IntKind.u64 a); refine (NX.out _).mono ?_; rintro e w3 ⟨rfl, g3⟩; obtain ⟨l3_0, h3_0_0, h3_0_1⟩ := g3.c2 (w.heap.size) (.int .i64 (f.fractionBits : Int)) (.int .i64 (f.exponentBits : Int)); obtain ⟨l3_1, h3_1_0, h3_1_1, h3_1_2⟩ := g3.c3 (w2.heap.size) (.int .u64 (Hq : Int)) (.int .u64 (Kq : Int)) (.bool false))
          | (go_at_call_of 63 (Value.int IntKind.u64 b); refine (NY.out _).mono ?_; rintro e w4 ⟨rfl, g4⟩; obtain ⟨l4_0, h4_0_0, h4_0_1⟩ := g4.c2 (w.heap.size) (.int .i64 (f.fractionBits : Int)) (.int .i64 (f.exponentBits : Int)); obtain ⟨l4_1, h4_1_0, h4_1_1, h4_1_2⟩ := g4.c3 (w2.heap.size) (.int .u64 (Hq : Int)) (.int .u64 (Kq : Int)) (.bool false))
          | (go_at_call 79; refine (RD2.out _).mono ?_; rintro e w5 ⟨rfl, g5⟩; obtain ⟨l5_0, h5_0_0, h5_0_1⟩ := g5.c2 (w.heap.size) (.int .i64 (f.fractionBits : Int)) (.int .i64 (f.exponentBits : Int)); obtain ⟨l5_1, h5_1_0, h5_1_1, h5_1_2⟩ := g5.c3 (w2.heap.size) (.int .u64 (Hq : Int)) (.int .u64 (Kq : Int)) (.bool false)))
        all_goals go_wp2
        all_goals go_ret
        all_goals go_light
        all_goals refine ⟨by first | rfl | simp, ?_⟩
        all_goals have sw := SW.out
        all_goals have sg3 := g3.2
        all_goals have sg4 := g4.2
        all_goals have sg5 := g5.2
        all_goals simp at sg3 sg4 sg5
        all_goals repeat (first | exact Grew.refl _ | refine Grew.drew ?_ | refine Grew.drewN ?_ _ | refine Grew.alloc ?_ _ | refine Grew.set ?_ (by first | (simp; done) | (simp; omega) | omega) _ | refine Grew.trans ?_ g3 | refine Grew.trans ?_ g4 | refine Grew.trans ?_ g5 | exact kg.out)
    | succ j =>
      have ej : (((j + 1 : Nat) : Int) - 1) = (j : Int) := by omega
      rw [ej]
      clear ej RD
      have hrn : r < n := by rw [hr]; exact Nat.mod_lt _ hn0
      have LR' := fun w : World => left_w r 1 0 r false ⟨by omega, by decide, by omega⟩ (by omega) (by decide) w
      rw [wv_agg0 (r * 2 ^ 1) (by omega)] at LR'
      have er2 : ((r * 2 ^ 1 : Nat) : Int) = (r : Int) * 2 := by omega
      rw [er2] at LR'
      have LR : CG 89 #[.agg #[.int .u64 0, .int .u64 (r : Int), .bool false], .int .i64 1] (.agg #[.int .u64 0, .int .u64 ((r : Int) * 2), .bool false]) := LR'
      have hQ : m' * 2 ^ 60 / 2 ^ (j + 1) / n * 2 ^ 1 < 340282366920938463463374607431768211456 := by
        have h1 : m' * 2 ^ 60 / 2 ^ (j + 1) / n ≤ m' * 2 ^ 60 := Nat.le_trans (Nat.div_le_self _ _) (Nat.div_le_self _ _)
        have h2 : m' * 2 ^ 60 * 2 ^ 1 ≤ 18446744073709551616 * 2 ^ 60 * 2 ^ 1 := Nat.mul_le_mul_right _ (Nat.mul_le_mul_right _ (Nat.le_of_lt hm))
        exact Nat.lt_of_le_of_lt (Nat.mul_le_mul_right _ h1) (Nat.lt_of_le_of_lt h2 (by decide))
      have LQ' := fun w : World => left_w _ 1 Hq Kq false hq hQ (by decide) w
      have h2 : Wd (m' * 2 ^ 60 / 2 ^ (j + 1) / n * 2 ^ 1) _ _ := Wd.of hQ
      rw [h2.wv] at LQ'
      obtain ⟨H2, hH2⟩ : ∃ x, x = m' * 2 ^ 60 / 2 ^ (j + 1) / n * 2 ^ 1 / 18446744073709551616 := ⟨_, rfl⟩
      obtain ⟨K2, hK2⟩ : ∃ x, x = m' * 2 ^ 60 / 2 ^ (j + 1) / n * 2 ^ 1 % 18446744073709551616 := ⟨_, rfl⟩
      rw [← hH2, ← hK2] at LQ' h2
      have hev : K2 % 2 = 0 := by rw [hK2, Nat.pow_one]; omega
      have hK2b : K2 < 18446744073709551616 := h2.1
      clear hH2 hK2
      have LQ : CG 89 #[.agg #[.int .u64 (Hq : Int), .int .u64 (Kq : Int), .bool false], .int .i64 1] (.agg #[.int .u64 (H2 : Int), .int .u64 (K2 : Int), .bool false]) := LQ'
      clear LR' LQ' er2
      have wk : IntKind.u64.wrap ((K2 : Int) + 1) = (K2 : Int) + 1 := by rw [IntKind.wrap_u64]; omega
      clear hev
      have hj124 : j < 124 := by omega
      have LS := fun (x : Nat) (hx : x < 18446744073709551616) (w : World) => less_w x n 0 x 0 n false false ⟨hx, by decide, by omega⟩ ⟨by omega, by decide, by omega⟩ w
      have MI := fun (x : Nat) (hx : x < 18446744073709551616) (hle : n ≤ x) (w : World) => minus_f x n 0 x 0 n false ⟨hx, by decide, by omega⟩ ⟨by omega, by decide, by omega⟩ hle w
      obtain ⟨bit, hbit⟩ : ∃ x, x = m' * 2 ^ 60 / 2 ^ j % 2 := ⟨_, rfl⟩
      have hP : m' * 2 ^ 60 / 2 ^ j = 2 * (m' * 2 ^ 60 / 2 ^ (j + 1)) + bit := by
        rw [hbit, ← half_div]
        generalize m' * 2 ^ 60 / 2 ^ j = y
        omega
      have hb1 : bit ≤ 1 := by rw [hbit]; have := Nat.mod_lt (m' * 2 ^ 60 / 2 ^ j) (show 0 < 2 by decide); omega
      obtain ⟨qs1, qs2⟩ := quo_step _ _ n bit hn0 hP hb1
      rw [← hr] at qs1 qs2
      rw [Nat.pow_one, Nat.mul_comm] at h2
      have way : (j < 60 ∧ bit = 0) ∨ (∃ t : Nat, j = t + 60 ∧ bit = m' / 2 ^ t % 2) := by
        by_cases h6 : j < 60
        · left
          refine ⟨h6, ?_⟩
          have := bit_lo m' j h6
          omega
        · right
          refine ⟨j - 60, by omega, ?_⟩
          rw [hbit]
          conv => lhs; rw [show j = (j - 60) + 60 from by omega, bit_hi]
      clear hbit hP hQ hq hr
      rcases way with ⟨h6, hb0⟩ | ⟨t, hjt, hbt⟩
      · subst hb0
        by_cases hge : n ≤ 2 * r
        · have LS1' := fun w : World => LS (2 * r) (by omega) w
          have ex : (((2 * r) : Nat) : Int) = (r : Int) * 2 := by omega
          rw [ex, decide_eq_false (by omega)] at LS1'
          have LS1 : CG 91 #[.agg #[.int .u64 0, .int .u64 ((r : Int) * 2), .bool false], .agg #[.int .u64 0, .int .u64 (n : Int), .bool false]] (.bool false) := LS1'
          have MI1' := fun w : World => MI (2 * r) (by omega) (by omega) w
          rw [wv_agg0 _ (by omega), ex, show ((2 * r - n : Nat) : Int) = (r : Int) * 2 - n from by omega] at MI1'
          have MI1 : CG 105 #[.agg #[.int .u64 0, .int .u64 ((r : Int) * 2), .bool false], .agg #[.int .u64 0, .int .u64 (n : Int), .bool false]] (.agg #[.int .u64 0, .int .u64 ((r : Int) * 2 - n), .bool false]) := MI1'
          obtain ⟨qa, qb⟩ := qs1 (by omega)
          have NQ : Hid (Wd (m' * 2 ^ 60 / 2 ^ j / n) H2 (K2 + 1)) := by show Wd _ _ _; rw [qa]; obtain ⟨u0, u1, u2⟩ := h2; exact ⟨by omega, u1, by omega⟩
          have NR : Hid (2 * r - n = m' * 2 ^ 60 / 2 ^ j % n) := by show _ = _; first | (rw [qb]; done) | (rw [qb]; omega)
          clear qa qb qs1 qs2 LS1' MI1' LS MI h2 ex
          go_wp2_with fail
          refine (LR.out _).mono ?_
          rintro e w3 ⟨rfl, g3⟩
          obtain ⟨l3_0, h3_0_0, h3_0_1⟩ := g3.c2 (w.heap.size) (.int .i64 (f.fractionBits : Int)) (.int .i64 (f.exponentBits : Int))
          obtain ⟨l3_1, q3_1⟩ := g3.blk (B := w2.heap.size) (by first | (simp; done) | (simp; omega) | omega)
          have h3_1_0 := q3_1.out 0 (.int .u64 (Hq : Int)) (by go_simp)
          have z3_1_0 : w3.frozen? ⟨w2.heap.size, 0, none⟩ = false := (by rw [g3.1.frozen (by first | (simp; done) | (simp; omega) | omega)]; go_simp)
          have h3_1_1 := q3_1.out 1 (.int .u64 (Kq : Int)) (by go_simp)
          have z3_1_1 : w3.frozen? ⟨w2.heap.size, 1, none⟩ = false := (by rw [g3.1.frozen (by first | (simp; done) | (simp; omega) | omega)]; go_simp)
          have h3_1_2 := q3_1.out 2 (.bool false) (by go_simp)
          have z3_1_2 : w3.frozen? ⟨w2.heap.size, 2, none⟩ = false := (by rw [g3.1.frozen (by first | (simp; done) | (simp; omega) | omega)]; go_simp)
          obtain ⟨l3_2, q3_2⟩ := g3.blk (B := w2.heap.size + 1) (by first | (simp; done) | (simp; omega) | omega)
          have h3_2_0 := q3_2.out 0 (.int .u64 0) (by go_simp)
          have z3_2_0 : w3.frozen? ⟨w2.heap.size + 1, 0, none⟩ = false := (by rw [g3.1.frozen (by first | (simp; done) | (simp; omega) | omega)]; go_simp)
          have h3_2_1 := q3_2.out 1 (.int .u64 ((r : Int))) (by go_simp)
          have z3_2_1 : w3.frozen? ⟨w2.heap.size + 1, 1, none⟩ = false := (by rw [g3.1.frozen (by first | (simp; done) | (simp; omega) | omega)]; go_simp)
          have h3_2_2 := q3_2.out 2 (.bool false) (by go_simp)
          have z3_2_2 : w3.frozen? ⟨w2.heap.size + 1, 2, none⟩ = false := (by rw [g3.1.frozen (by first | (simp; done) | (simp; omega) | omega)]; go_simp)
          go_wp2_with fail
          refine (LQ.out _).mono ?_
          rintro e w4 ⟨rfl, g4⟩
          obtain ⟨l4_0, h4_0_0, h4_0_1⟩ := g4.c2 (w.heap.size) (.int .i64 (f.fractionBits : Int)) (.int .i64 (f.exponentBits : Int))
          obtain ⟨l4_1, q4_1⟩ := g4.blk (B := w2.heap.size) (by first | (simp; done) | (simp; omega) | omega)
          have h4_1_0 := q4_1.out 0 (.int .u64 (Hq : Int)) (by go_simp)
          have z4_1_0 : w4.frozen? ⟨w2.heap.size, 0, none⟩ = false := (by rw [g4.1.frozen (by first | (simp; done) | (simp; omega) | omega)]; go_simp)
          have h4_1_1 := q4_1.out 1 (.int .u64 (Kq : Int)) (by go_simp)
          have z4_1_1 : w4.frozen? ⟨w2.heap.size, 1, none⟩ = false := (by rw [g4.1.frozen (by first | (simp; done) | (simp; omega) | omega)]; go_simp)
          have h4_1_2 := q4_1.out 2 (.bool false) (by go_simp)
          have z4_1_2 : w4.frozen? ⟨w2.heap.size, 2, none⟩ = false := (by rw [g4.1.frozen (by first | (simp; done) | (simp; omega) | omega)]; go_simp)
          obtain ⟨l4_2, q4_2⟩ := g4.blk (B := w2.heap.size + 1) (by first | (simp; done) | (simp; omega) | omega)
          have h4_2_0 := q4_2.out 0 (.int .u64 0) (by go_simp)
          have z4_2_0 : w4.frozen? ⟨w2.heap.size + 1, 0, none⟩ = false := (by rw [g4.1.frozen (by first | (simp; done) | (simp; omega) | omega)]; go_simp)
          have h4_2_1 := q4_2.out 1 (.int .u64 ((r : Int) * 2)) (by go_simp)
          have z4_2_1 : w4.frozen? ⟨w2.heap.size + 1, 1, none⟩ = false := (by rw [g4.1.frozen (by first | (simp; done) | (simp; omega) | omega)]; go_simp)
          have h4_2_2 := q4_2.out 2 (.bool false) (by go_simp)
          have z4_2_2 : w4.frozen? ⟨w2.heap.size + 1, 2, none⟩ = false := (by rw [g4.1.frozen (by first | (simp; done) | (simp; omega) | omega)]; go_simp)
          go_wp2_with fail
          refine (LS1.out _).mono ?_
          rintro e w5 ⟨rfl, g5⟩
          obtain ⟨l5_0, h5_0_0, h5_0_1⟩ := g5.c2 (w.heap.size) (.int .i64 (f.fractionBits : Int)) (.int .i64 (f.exponentBits : Int))
          obtain ⟨l5_1, q5_1⟩ := g5.blk (B := w2.heap.size) (by first | (simp; done) | (simp; omega) | omega)
          have h5_1_0 := q5_1.out 0 (.int .u64 (H2 : Int)) (by go_simp)
          have z5_1_0 : w5.frozen? ⟨w2.heap.size, 0, none⟩ = false := (by rw [g5.1.frozen (by first | (simp; done) | (simp; omega) | omega)]; go_simp)
          have h5_1_1 := q5_1.out 1 (.int .u64 (K2 : Int)) (by go_simp)
          have z5_1_1 : w5.frozen? ⟨w2.heap.size, 1, none⟩ = false := (by rw [g5.1.frozen (by first | (simp; done) | (simp; omega) | omega)]; go_simp)
          have h5_1_2 := q5_1.out 2 (.bool false) (by go_simp)
          have z5_1_2 : w5.frozen? ⟨w2.heap.size, 2, none⟩ = false := (by rw [g5.1.frozen (by first | (simp; done) | (simp; omega) | omega)]; go_simp)
          obtain ⟨l5_2, q5_2⟩ := g5.blk (B := w2.heap.size + 1) (by first | (simp; done) | (simp; omega) | omega)
          have h5_2_0 := q5_2.out 0 (.int .u64 0) (by go_simp)
          have z5_2_0 : w5.frozen? ⟨w2.heap.size + 1, 0, none⟩ = false := (by rw [g5.1.frozen (by first | (simp; done) | (simp; omega) | omega)]; go_simp)
          have h5_2_1 := q5_2.out 1 (.int .u64 ((r : Int) * 2)) (by go_simp)
          have z5_2_1 : w5.frozen? ⟨w2.heap.size + 1, 1, none⟩ = false := (by rw [g5.1.frozen (by first | (simp; done) | (simp; omega) | omega)]; go_simp)
          have h5_2_2 := q5_2.out 2 (.bool false) (by go_simp)
          have z5_2_2 : w5.frozen? ⟨w2.heap.size + 1, 2, none⟩ = false := (by rw [g5.1.frozen (by first | (simp; done) | (simp; omega) | omega)]; go_simp)
          go_wp2_with fail
          refine (MI1.out _).mono ?_
          rintro e w6 ⟨rfl, g6⟩
          obtain ⟨l6_0, h6_0_0, h6_0_1⟩ := g6.c2 (w.heap.size) (.int .i64 (f.fractionBits : Int)) (.int .i64 (f.exponentBits : Int))
          obtain ⟨l6_1, q6_1⟩ := g6.blk (B := w2.heap.size) (by first | (simp; done) | (simp; omega) | omega)
          have h6_1_0 := q6_1.out 0 (.int .u64 (H2 : Int)) (by go_simp)
          have z6_1_0 : w6.frozen? ⟨w2.heap.size, 0, none⟩ = false := (by rw [g6.1.frozen (by first | (simp; done) | (simp; omega) | omega)]; go_simp)
          have h6_1_1 := q6_1.out 1 (.int .u64 (K2 : Int)) (by go_simp)
          have z6_1_1 : w6.frozen? ⟨w2.heap.size, 1, none⟩ = false := (by rw [g6.1.frozen (by first | (simp; done) | (simp; omega) | omega)]; go_simp)
          have h6_1_2 := q6_1.out 2 (.bool false) (by go_simp)
          have z6_1_2 : w6.frozen? ⟨w2.heap.size, 2, none⟩ = false := (by rw [g6.1.frozen (by first | (simp; done) | (simp; omega) | omega)]; go_simp)
          obtain ⟨l6_2, q6_2⟩ := g6.blk (B := w2.heap.size + 1) (by first | (simp; done) | (simp; omega) | omega)
          have h6_2_0 := q6_2.out 0 (.int .u64 0) (by go_simp)
          have z6_2_0 : w6.frozen? ⟨w2.heap.size + 1, 0, none⟩ = false := (by rw [g6.1.frozen (by first | (simp; done) | (simp; omega) | omega)]; go_simp)
          have h6_2_1 := q6_2.out 1 (.int .u64 ((r : Int) * 2)) (by go_simp)
          have z6_2_1 : w6.frozen? ⟨w2.heap.size + 1, 1, none⟩ = false := (by rw [g6.1.frozen (by first | (simp; done) | (simp; omega) | omega)]; go_simp)
          have h6_2_2 := q6_2.out 2 (.bool false) (by go_simp)
          have z6_2_2 : w6.frozen? ⟨w2.heap.size + 1, 2, none⟩ = false := (by rw [g6.1.frozen (by first | (simp; done) | (simp; omega) | omega)]; go_simp)
          go_wp2
          go_roundw
          case rel =>
            refine ⟨j, H2, K2 + 1, _, by first | rfl | simp, by omega, NQ.out, NR.out, ?_, ?_, ?_, ?_, by first | (simp; done) | (simp; omega) | omega, ?_⟩
            · unfold WC; go_simp
            · have e9 : (((2 * r - n) : Nat) : Int) = (r : Int) * 2 - n := by omega
              unfold WC; rw [e9]; go_simp
            · go_simp
            · go_simp
            have sw := SW.out
            have sg3 := g3.2
            have sg4 := g4.2
            have sg5 := g5.2
            have sg6 := g6.2
            simp at sg3 sg4 sg5 sg6
            repeat (first | exact Grew.refl _ | refine Grew.drew ?_ | refine Grew.drewN ?_ _ | refine Grew.alloc ?_ _ | refine Grew.set ?_ (by first | (simp; done) | (simp; omega) | omega) _ | refine Grew.trans ?_ g6 | refine Grew.trans ?_ g5 | refine Grew.trans ?_ g4 | refine Grew.trans ?_ g3 | exact GR.out)
          case measure => first | (simp [intOf]; done) | (simp [intOf]; omega)
        · have LS1' := fun w : World => LS (2 * r) (by omega) w
          have ex : (((2 * r) : Nat) : Int) = (r : Int) * 2 := by omega
          rw [ex, decide_eq_true (by omega)] at LS1'
          have LS1 : CG 91 #[.agg #[.int .u64 0, .int .u64 ((r : Int) * 2), .bool false], .agg #[.int .u64 0, .int .u64 (n : Int), .bool false]] (.bool true) := LS1'
          obtain ⟨qa, qb⟩ := qs2 (by omega)
          have NQ : Hid (Wd (m' * 2 ^ 60 / 2 ^ j / n) H2 K2) := by show Wd _ _ _; rw [qa]; exact h2
          have NR : Hid (2 * r = m' * 2 ^ 60 / 2 ^ j % n) := by show _ = _; first | (rw [qb]; done) | (rw [qb]; omega)
          clear qa qb qs1 qs2 LS1'  LS MI h2 ex
          go_wp2_with fail
          refine (LR.out _).mono ?_
          rintro e w3 ⟨rfl, g3⟩
          obtain ⟨l3_0, h3_0_0, h3_0_1⟩ := g3.c2 (w.heap.size) (.int .i64 (f.fractionBits : Int)) (.int .i64 (f.exponentBits : Int))
          obtain ⟨l3_1, q3_1⟩ := g3.blk (B := w2.heap.size) (by first | (simp; done) | (simp; omega) | omega)
          have h3_1_0 := q3_1.out 0 (.int .u64 (Hq : Int)) (by go_simp)
          have z3_1_0 : w3.frozen? ⟨w2.heap.size, 0, none⟩ = false := (by rw [g3.1.frozen (by first | (simp; done) | (simp; omega) | omega)]; go_simp)
          have h3_1_1 := q3_1.out 1 (.int .u64 (Kq : Int)) (by go_simp)
          have z3_1_1 : w3.frozen? ⟨w2.heap.size, 1, none⟩ = false := (by rw [g3.1.frozen (by first | (simp; done) | (simp; omega) | omega)]; go_simp)
          have h3_1_2 := q3_1.out 2 (.bool false) (by go_simp)
          have z3_1_2 : w3.frozen? ⟨w2.heap.size, 2, none⟩ = false := (by rw [g3.1.frozen (by first | (simp; done) | (simp; omega) | omega)]; go_simp)
          obtain ⟨l3_2, q3_2⟩ := g3.blk (B := w2.heap.size + 1) (by first | (simp; done) | (simp; omega) | omega)
          have h3_2_0 := q3_2.out 0 (.int .u64 0) (by go_simp)
          have z3_2_0 : w3.frozen? ⟨w2.heap.size + 1, 0, none⟩ = false := (by rw [g3.1.frozen (by first | (simp; done) | (simp; omega) | omega)]; go_simp)
          have h3_2_1 := q3_2.out 1 (.int .u64 ((r : Int))) (by go_simp)
          have z3_2_1 : w3.frozen? ⟨w2.heap.size + 1, 1, none⟩ = false := (by rw [g3.1.frozen (by first | (simp; done) | (simp; omega) | omega)]; go_simp)
          have h3_2_2 := q3_2.out 2 (.bool false) (by go_simp)
          have z3_2_2 : w3.frozen? ⟨w2.heap.size + 1, 2, none⟩ = false := (by rw [g3.1.frozen (by first | (simp; done) | (simp; omega) | omega)]; go_simp)
          go_wp2_with fail
          refine (LQ.out _).mono ?_
          rintro e w4 ⟨rfl, g4⟩
          obtain ⟨l4_0, h4_0_0, h4_0_1⟩ := g4.c2 (w.heap.size) (.int .i64 (f.fractionBits : Int)) (.int .i64 (f.exponentBits : Int))
          obtain ⟨l4_1, q4_1⟩ := g4.blk (B := w2.heap.size) (by first | (simp; done) | (simp; omega) | omega)
          have h4_1_0 := q4_1.out 0 (.int .u64 (Hq : Int)) (by go_simp)
          have z4_1_0 : w4.frozen? ⟨w2.heap.size, 0, none⟩ = false := (by rw [g4.1.frozen (by first | (simp; done) | (simp; omega) | omega)]; go_simp)
          have h4_1_1 := q4_1.out 1 (.int .u64 (Kq : Int)) (by go_simp)
          have z4_1_1 : w4.frozen? ⟨w2.heap.size, 1, none⟩ = false := (by rw [g4.1.frozen (by first | (simp; done) | (simp; omega) | omega)]; go_simp)
          have h4_1_2 := q4_1.out 2 (.bool false) (by go_simp)
          have z4_1_2 : w4.frozen? ⟨w2.heap.size, 2, none⟩ = false := (by rw [g4.1.frozen (by first | (simp; done) | (simp; omega) | omega)]; go_simp)
          obtain ⟨l4_2, q4_2⟩ := g4.blk (B := w2.heap.size + 1) (by first | (simp; done) | (simp; omega) | omega)
          have h4_2_0 := q4_2.out 0 (.int .u64 0) (by go_simp)
          have z4_2_0 : w4.frozen? ⟨w2.heap.size + 1, 0, none⟩ = false := (by rw [g4.1.frozen (by first | (simp; done) | (simp; omega) | omega)]; go_simp)
          have h4_2_1 := q4_2.out 1 (.int .u64 ((r : Int) * 2)) (by go_simp)
          have z4_2_1 : w4.frozen? ⟨w2.heap.size + 1, 1, none⟩ = false := (by rw [g4.1.frozen (by first | (simp; done) | (simp; omega) | omega)]; go_simp)
          have h4_2_2 := q4_2.out 2 (.bool false) (by go_simp)
          have z4_2_2 : w4.frozen? ⟨w2.heap.size + 1, 2, none⟩ = false := (by rw [g4.1.frozen (by first | (simp; done) | (simp; omega) | omega)]; go_simp)
          go_wp2_with fail
          refine (LS1.out _).mono ?_
          rintro e w5 ⟨rfl, g5⟩
          obtain ⟨l5_0, h5_0_0, h5_0_1⟩ := g5.c2 (w.heap.size) (.int .i64 (f.fractionBits : Int)) (.int .i64 (f.exponentBits : Int))
          obtain ⟨l5_1, q5_1⟩ := g5.blk (B := w2.heap.size) (by first | (simp; done) | (simp; omega) | omega)
          have h5_1_0 := q5_1.out 0 (.int .u64 (H2 : Int)) (by go_simp)
          have z5_1_0 : w5.frozen? ⟨w2.heap.size, 0, none⟩ = false := (by rw [g5.1.frozen (by first | (simp; done) | (simp; omega) | omega)]; go_simp)
          have h5_1_1 := q5_1.out 1 (.int .u64 (K2 : Int)) (by go_simp)
          have z5_1_1 : w5.frozen? ⟨w2.heap.size, 1, none⟩ = false := (by rw [g5.1.frozen (by first | (simp; done) | (simp; omega) | omega)]; go_simp)
          have h5_1_2 := q5_1.out 2 (.bool false) (by go_simp)
          have z5_1_2 : w5.frozen? ⟨w2.heap.size, 2, none⟩ = false := (by rw [g5.1.frozen (by first | (simp; done) | (simp; omega) | omega)]; go_simp)
          obtain ⟨l5_2, q5_2⟩ := g5.blk (B := w2.heap.size + 1) (by first | (simp; done) | (simp; omega) | omega)
          have h5_2_0 := q5_2.out 0 (.int .u64 0) (by go_simp)
          have z5_2_0 : w5.frozen? ⟨w2.heap.size + 1, 0, none⟩ = false := (by rw [g5.1.frozen (by first | (simp; done) | (simp; omega) | omega)]; go_simp)
          have h5_2_1 := q5_2.out 1 (.int .u64 ((r : Int) * 2)) (by go_simp)
          have z5_2_1 : w5.frozen? ⟨w2.heap.size + 1, 1, none⟩ = false := (by rw [g5.1.frozen (by first | (simp; done) | (simp; omega) | omega)]; go_simp)
          have h5_2_2 := q5_2.out 2 (.bool false) (by go_simp)
          have z5_2_2 : w5.frozen? ⟨w2.heap.size + 1, 2, none⟩ = false := (by rw [g5.1.frozen (by first | (simp; done) | (simp; omega) | omega)]; go_simp)
          go_wp2
          go_roundw
          case rel =>
            refine ⟨j, H2, K2, _, by first | rfl | simp, by omega, NQ.out, NR.out, ?_, ?_, ?_, ?_, by first | (simp; done) | (simp; omega) | omega, ?_⟩
            · unfold WC; go_simp
            · have e9 : (((2 * r) : Nat) : Int) = (r : Int) * 2 := by omega
              unfold WC; rw [e9]; go_simp
            · go_simp
            · go_simp
            have sw := SW.out
            have sg3 := g3.2
            have sg4 := g4.2
            have sg5 := g5.2
            simp at sg3 sg4 sg5
            repeat (first | exact Grew.refl _ | refine Grew.drew ?_ | refine Grew.drewN ?_ _ | refine Grew.alloc ?_ _ | refine Grew.set ?_ (by first | (simp; done) | (simp; omega) | omega) _ | refine Grew.trans ?_ g5 | refine Grew.trans ?_ g4 | refine Grew.trans ?_ g3 | exact GR.out)
          case measure => first | (simp [intOf]; done) | (simp [intOf]; omega)
      · subst hjt
        have ht : t ≤ 63 := by omega
        have ej : (((t + 60 : Nat)) : Int) = (t : Int) + 60 := by omega
        rw [ej]
        have hq2 : m' / 2 ^ t < 18446744073709551616 := Nat.lt_of_le_of_lt (Nat.div_le_self _ _) hm
        have ed : ((m' / 2 ^ t : Nat) : Int) = (m' : Int) / 2 ^ t := by push_cast; rfl
        have ba := and_1 (m' / 2 ^ t) hq2
        rw [ed] at ba
        by_cases hbb : bit = 1
        · have bp : (bits .and .u64 ((m' : Int) / 2 ^ t) 1 == 1) = true := by rw [ba, ← hbt]; rw [hbb]; rfl
          subst hbb
          clear ba ed hbt ej hb1
          by_cases hge : n ≤ 2 * r + 1
          · have LS1' := fun w : World => LS (2 * r + 1) (by omega) w
            have ex : (((2 * r + 1) : Nat) : Int) = (r : Int) * 2 + 1 := by omega
            rw [ex, decide_eq_false (by omega)] at LS1'
            have LS1 : CG 91 #[.agg #[.int .u64 0, .int .u64 ((r : Int) * 2 + 1), .bool false], .agg #[.int .u64 0, .int .u64 (n : Int), .bool false]] (.bool false) := LS1'
            have MI1' := fun w : World => MI (2 * r + 1) (by omega) (by omega) w
            rw [wv_agg0 _ (by omega), ex, show ((2 * r + 1 - n : Nat) : Int) = (r : Int) * 2 + 1 - n from by omega] at MI1'
            have MI1 : CG 105 #[.agg #[.int .u64 0, .int .u64 ((r : Int) * 2 + 1), .bool false], .agg #[.int .u64 0, .int .u64 (n : Int), .bool false]] (.agg #[.int .u64 0, .int .u64 ((r : Int) * 2 + 1 - n), .bool false]) := MI1'
            obtain ⟨qa, qb⟩ := qs1 (by omega)
            have NQ : Hid (Wd (m' * 2 ^ 60 / 2 ^ (t + 60) / n) H2 (K2 + 1)) := by show Wd _ _ _; rw [qa]; obtain ⟨u0, u1, u2⟩ := h2; exact ⟨by omega, u1, by omega⟩
            have NR : Hid (2 * r + 1 - n = m' * 2 ^ 60 / 2 ^ (t + 60) % n) := by show _ = _; first | (rw [qb]; done) | (rw [qb]; omega)
            clear qa qb qs1 qs2 LS1' MI1' LS MI h2 ex
            go_wp2_with fail
            refine (LR.out _).mono ?_
            rintro e w3 ⟨rfl, g3⟩
            obtain ⟨l3_0, h3_0_0, h3_0_1⟩ := g3.c2 (w.heap.size) (.int .i64 (f.fractionBits : Int)) (.int .i64 (f.exponentBits : Int))
            obtain ⟨l3_1, q3_1⟩ := g3.blk (B := w2.heap.size) (by first | (simp; done) | (simp; omega) | omega)
            have h3_1_0 := q3_1.out 0 (.int .u64 (Hq : Int)) (by go_simp)
            have z3_1_0 : w3.frozen? ⟨w2.heap.size, 0, none⟩ = false := (by rw [g3.1.frozen (by first | (simp; done) | (simp; omega) | omega)]; go_simp)
            have h3_1_1 := q3_1.out 1 (.int .u64 (Kq : Int)) (by go_simp)
            have z3_1_1 : w3.frozen? ⟨w2.heap.size, 1, none⟩ = false := (by rw [g3.1.frozen (by first | (simp; done) | (simp; omega) | omega)]; go_simp)
            have h3_1_2 := q3_1.out 2 (.bool false) (by go_simp)
            have z3_1_2 : w3.frozen? ⟨w2.heap.size, 2, none⟩ = false := (by rw [g3.1.frozen (by first | (simp; done) | (simp; omega) | omega)]; go_simp)
            obtain ⟨l3_2, q3_2⟩ := g3.blk (B := w2.heap.size + 1) (by first | (simp; done) | (simp; omega) | omega)
            have h3_2_0 := q3_2.out 0 (.int .u64 0) (by go_simp)
            have z3_2_0 : w3.frozen? ⟨w2.heap.size + 1, 0, none⟩ = false := (by rw [g3.1.frozen (by first | (simp; done) | (simp; omega) | omega)]; go_simp)
            have h3_2_1 := q3_2.out 1 (.int .u64 ((r : Int))) (by go_simp)
            have z3_2_1 : w3.frozen? ⟨w2.heap.size + 1, 1, none⟩ = false := (by rw [g3.1.frozen (by first | (simp; done) | (simp; omega) | omega)]; go_simp)
            have h3_2_2 := q3_2.out 2 (.bool false) (by go_simp)
            have z3_2_2 : w3.frozen? ⟨w2.heap.size + 1, 2, none⟩ = false := (by rw [g3.1.frozen (by first | (simp; done) | (simp; omega) | omega)]; go_simp)
            have hin : (((w3.setCell ⟨w2.heap.size + 1, 0, none⟩ (.int .u64 0)).setCell ⟨w2.heap.size + 1, 1, none⟩ (.int .u64 ((r : Int) * 2))).setCell ⟨w2.heap.size + 1, 2, none⟩ (.bool false)).cell? ⟨w2.heap.size + 1, 1, none⟩ = some (.int .u64 ((r : Int) * 2)) := by go_simp
            go_wp2_with fail
            refine (LQ.out _).mono ?_
            rintro e w4 ⟨rfl, g4⟩
            obtain ⟨l4_0, h4_0_0, h4_0_1⟩ := g4.c2 (w.heap.size) (.int .i64 (f.fractionBits : Int)) (.int .i64 (f.exponentBits : Int))
            obtain ⟨l4_1, q4_1⟩ := g4.blk (B := w2.heap.size) (by first | (simp; done) | (simp; omega) | omega)
            have h4_1_0 := q4_1.out 0 (.int .u64 (Hq : Int)) (by go_simp)
            have z4_1_0 : w4.frozen? ⟨w2.heap.size, 0, none⟩ = false := (by rw [g4.1.frozen (by first | (simp; done) | (simp; omega) | omega)]; go_simp)
            have h4_1_1 := q4_1.out 1 (.int .u64 (Kq : Int)) (by go_simp)
            have z4_1_1 : w4.frozen? ⟨w2.heap.size, 1, none⟩ = false := (by rw [g4.1.frozen (by first | (simp; done) | (simp; omega) | omega)]; go_simp)
            have h4_1_2 := q4_1.out 2 (.bool false) (by go_simp)
            have z4_1_2 : w4.frozen? ⟨w2.heap.size, 2, none⟩ = false := (by rw [g4.1.frozen (by first | (simp; done) | (simp; omega) | omega)]; go_simp)
            obtain ⟨l4_2, q4_2⟩ := g4.blk (B := w2.heap.size + 1) (by first | (simp; done) | (simp; omega) | omega)
            have h4_2_0 := q4_2.out 0 (.int .u64 0) (by go_simp)
            have z4_2_0 : w4.frozen? ⟨w2.heap.size + 1, 0, none⟩ = false := (by rw [g4.1.frozen (by first | (simp; done) | (simp; omega) | omega)]; go_simp)
            have h4_2_1 := q4_2.out 1 (.int .u64 ((r : Int) * 2 + 1)) (by go_simp)
            have z4_2_1 : w4.frozen? ⟨w2.heap.size + 1, 1, none⟩ = false := (by rw [g4.1.frozen (by first | (simp; done) | (simp; omega) | omega)]; go_simp)
            have h4_2_2 := q4_2.out 2 (.bool false) (by go_simp)
            have z4_2_2 : w4.frozen? ⟨w2.heap.size + 1, 2, none⟩ = false := (by rw [g4.1.frozen (by first | (simp; done) | (simp; omega) | omega)]; go_simp)
            go_wp2_with fail
            refine (LS1.out _).mono ?_
            rintro e w5 ⟨rfl, g5⟩
            obtain ⟨l5_0, h5_0_0, h5_0_1⟩ := g5.c2 (w.heap.size) (.int .i64 (f.fractionBits : Int)) (.int .i64 (f.exponentBits : Int))
            obtain ⟨l5_1, q5_1⟩ := g5.blk (B := w2.heap.size) (by first | (simp; done) | (simp; omega) | omega)
            have h5_1_0 := q5_1.out 0 (.int .u64 (H2 : Int)) (by go_simp)
            have z5_1_0 : w5.frozen? ⟨w2.heap.size, 0, none⟩ = false := (by rw [g5.1.frozen (by first | (simp; done) | (simp; omega) | omega)]; go_simp)
            have h5_1_1 := q5_1.out 1 (.int .u64 (K2 : Int)) (by go_simp)
            have z5_1_1 : w5.frozen? ⟨w2.heap.size, 1, none⟩ = false := (by rw [g5.1.frozen (by first | (simp; done) | (simp; omega) | omega)]; go_simp)
            have h5_1_2 := q5_1.out 2 (.bool false) (by go_simp)
            have z5_1_2 : w5.frozen? ⟨w2.heap.size, 2, none⟩ = false := (by rw [g5.1.frozen (by first | (simp; done) | (simp; omega) | omega)]; go_simp)
            obtain ⟨l5_2, q5_2⟩ := g5.blk (B := w2.heap.size + 1) (by first | (simp; done) | (simp; omega) | omega)
            have h5_2_0 := q5_2.out 0 (.int .u64 0) (by go_simp)
            have z5_2_0 : w5.frozen? ⟨w2.heap.size + 1, 0, none⟩ = false := (by rw [g5.1.frozen (by first | (simp; done) | (simp; omega) | omega)]; go_simp)
            have h5_2_1 := q5_2.out 1 (.int .u64 ((r : Int) * 2 + 1)) (by go_simp)
            have z5_2_1 : w5.frozen? ⟨w2.heap.size + 1, 1, none⟩ = false := (by rw [g5.1.frozen (by first | (simp; done) | (simp; omega) | omega)]; go_simp)
            have h5_2_2 := q5_2.out 2 (.bool false) (by go_simp)
            have z5_2_2 : w5.frozen? ⟨w2.heap.size + 1, 2, none⟩ = false := (by rw [g5.1.frozen (by first | (simp; done) | (simp; omega) | omega)]; go_simp)
            go_wp2_with fail
            refine (MI1.out _).mono ?_
            rintro e w6 ⟨rfl, g6⟩
            obtain ⟨l6_0, h6_0_0, h6_0_1⟩ := g6.c2 (w.heap.size) (.int .i64 (f.fractionBits : Int)) (.int .i64 (f.exponentBits : Int))
            obtain ⟨l6_1, q6_1⟩ := g6.blk (B := w2.heap.size) (by first | (simp; done) | (simp; omega) | omega)
            have h6_1_0 := q6_1.out 0 (.int .u64 (H2 : Int)) (by go_simp)
            have z6_1_0 : w6.frozen? ⟨w2.heap.size, 0, none⟩ = false := (by rw [g6.1.frozen (by first | (simp; done) | (simp; omega) | omega)]; go_simp)
            have h6_1_1 := q6_1.out 1 (.int .u64 (K2 : Int)) (by go_simp)
            have z6_1_1 : w6.frozen? ⟨w2.heap.size, 1, none⟩ = false := (by rw [g6.1.frozen (by first | (simp; done) | (simp; omega) | omega)]; go_simp)
            have h6_1_2 := q6_1.out 2 (.bool false) (by go_simp)
            have z6_1_2 : w6.frozen? ⟨w2.heap.size, 2, none⟩ = false := (by rw [g6.1.frozen (by first | (simp; done) | (simp; omega) | omega)]; go_simp)
            obtain ⟨l6_2, q6_2⟩ := g6.blk (B := w2.heap.size + 1) (by first | (simp; done) | (simp; omega) | omega)
            have h6_2_0 := q6_2.out 0 (.int .u64 0) (by go_simp)
            have z6_2_0 : w6.frozen? ⟨w2.heap.size + 1, 0, none⟩ = false := (by rw [g6.1.frozen (by first | (simp; done) | (simp; omega) | omega)]; go_simp)
            have h6_2_1 := q6_2.out 1 (.int .u64 ((r : Int) * 2 + 1)) (by go_simp)
            have z6_2_1 : w6.frozen? ⟨w2.heap.size + 1, 1, none⟩ = false := (by rw [g6.1.frozen (by first | (simp; done) | (simp; omega) | omega)]; go_simp)
            have h6_2_2 := q6_2.out 2 (.bool false) (by go_simp)
            have z6_2_2 : w6.frozen? ⟨w2.heap.size + 1, 2, none⟩ = false := (by rw [g6.1.frozen (by first | (simp; done) | (simp; omega) | omega)]; go_simp)
            go_wp2
            go_roundw
            case rel =>
              refine ⟨(t + 60), H2, K2 + 1, _, by first | rfl | simp, by omega, NQ.out, NR.out, ?_, ?_, ?_, ?_, by first | (simp; done) | (simp; omega) | omega, ?_⟩
              · unfold WC; go_simp
              · have e9 : (((2 * r + 1 - n) : Nat) : Int) = (r : Int) * 2 + 1 - n := by omega
                unfold WC; rw [e9]; go_simp
              · go_simp
              · go_simp
              have sw := SW.out
              have sg3 := g3.2
              have sg4 := g4.2
              have sg5 := g5.2
              have sg6 := g6.2
              simp at sg3 sg4 sg5 sg6
              repeat (first | exact Grew.refl _ | refine Grew.drew ?_ | refine Grew.drewN ?_ _ | refine Grew.alloc ?_ _ | refine Grew.set ?_ (by first | (simp; done) | (simp; omega) | omega) _ | refine Grew.trans ?_ g6 | refine Grew.trans ?_ g5 | refine Grew.trans ?_ g4 | refine Grew.trans ?_ g3 | exact GR.out)
            case measure => first | (simp [intOf]; done) | (simp [intOf]; omega)
          · have LS1' := fun w : World => LS (2 * r + 1) (by omega) w
            have ex : (((2 * r + 1) : Nat) : Int) = (r : Int) * 2 + 1 := by omega
            rw [ex, decide_eq_true (by omega)] at LS1'
            have LS1 : CG 91 #[.agg #[.int .u64 0, .int .u64 ((r : Int) * 2 + 1), .bool false], .agg #[.int .u64 0, .int .u64 (n : Int), .bool false]] (.bool true) := LS1'
            obtain ⟨qa, qb⟩ := qs2 (by omega)
            have NQ : Hid (Wd (m' * 2 ^ 60 / 2 ^ (t + 60) / n) H2 K2) := by show Wd _ _ _; rw [qa]; exact h2
            have NR : Hid (2 * r + 1 = m' * 2 ^ 60 / 2 ^ (t + 60) % n) := by show _ = _; first | (rw [qb]; done) | (rw [qb]; omega)
            clear qa qb qs1 qs2 LS1'  LS MI h2 ex
            go_wp2_with fail
            refine (LR.out _).mono ?_
            rintro e w3 ⟨rfl, g3⟩
            obtain ⟨l3_0, h3_0_0, h3_0_1⟩ := g3.c2 (w.heap.size) (.int .i64 (f.fractionBits : Int)) (.int .i64 (f.exponentBits : Int))
            obtain ⟨l3_1, q3_1⟩ := g3.blk (B := w2.heap.size) (by first | (simp; done) | (simp; omega) | omega)
            have h3_1_0 := q3_1.out 0 (.int .u64 (Hq : Int)) (by go_simp)
            have z3_1_0 : w3.frozen? ⟨w2.heap.size, 0, none⟩ = false := (by rw [g3.1.frozen (by first | (simp; done) | (simp; omega) | omega)]; go_simp)
            have h3_1_1 := q3_1.out 1 (.int .u64 (Kq : Int)) (by go_simp)
            have z3_1_1 : w3.frozen? ⟨w2.heap.size, 1, none⟩ = false := (by rw [g3.1.frozen (by first | (simp; done) | (simp; omega) | omega)]; go_simp)
            have h3_1_2 := q3_1.out 2 (.bool false) (by go_simp)
            have z3_1_2 : w3.frozen? ⟨w2.heap.size, 2, none⟩ = false := (by rw [g3.1.frozen (by first | (simp; done) | (simp; omega) | omega)]; go_simp)
            obtain ⟨l3_2, q3_2⟩ := g3.blk (B := w2.heap.size + 1) (by first | (simp; done) | (simp; omega) | omega)
            have h3_2_0 := q3_2.out 0 (.int .u64 0) (by go_simp)
            have z3_2_0 : w3.frozen? ⟨w2.heap.size + 1, 0, none⟩ = false := (by rw [g3.1.frozen (by first | (simp; done) | (simp; omega) | omega)]; go_simp)
            have h3_2_1 := q3_2.out 1 (.int .u64 ((r : Int))) (by go_simp)
            have z3_2_1 : w3.frozen? ⟨w2.heap.size + 1, 1, none⟩ = false := (by rw [g3.1.frozen (by first | (simp; done) | (simp; omega) | omega)]; go_simp)
            have h3_2_2 := q3_2.out 2 (.bool false) (by go_simp)
            have z3_2_2 : w3.frozen? ⟨w2.heap.size + 1, 2, none⟩ = false := (by rw [g3.1.frozen (by first | (simp; done) | (simp; omega) | omega)]; go_simp)
            have hin : (((w3.setCell ⟨w2.heap.size + 1, 0, none⟩ (.int .u64 0)).setCell ⟨w2.heap.size + 1, 1, none⟩ (.int .u64 ((r : Int) * 2))).setCell ⟨w2.heap.size + 1, 2, none⟩ (.bool false)).cell? ⟨w2.heap.size + 1, 1, none⟩ = some (.int .u64 ((r : Int) * 2)) := by go_simp
            go_wp2_with fail
            refine (LQ.out _).mono ?_
            rintro e w4 ⟨rfl, g4⟩
            obtain ⟨l4_0, h4_0_0, h4_0_1⟩ := g4.c2 (w.heap.size) (.int .i64 (f.fractionBits : Int)) (.int .i64 (f.exponentBits : Int))
            obtain ⟨l4_1, q4_1⟩ := g4.blk (B := w2.heap.size) (by first | (simp; done) | (simp; omega) | omega)
            have h4_1_0 := q4_1.out 0 (.int .u64 (Hq : Int)) (by go_simp)
            have z4_1_0 : w4.frozen? ⟨w2.heap.size, 0, none⟩ = false := (by rw [g4.1.frozen (by first | (simp; done) | (simp; omega) | omega)]; go_simp)
            have h4_1_1 := q4_1.out 1 (.int .u64 (Kq : Int)) (by go_simp)
            have z4_1_1 : w4.frozen? ⟨w2.heap.size, 1, none⟩ = false := (by rw [g4.1.frozen (by first | (simp; done) | (simp; omega) | omega)]; go_simp)
            have h4_1_2 := q4_1.out 2 (.bool false) (by go_simp)
            have z4_1_2 : w4.frozen? ⟨w2.heap.size, 2, none⟩ = false := (by rw [g4.1.frozen (by first | (simp; done) | (simp; omega) | omega)]; go_simp)
            obtain ⟨l4_2, q4_2⟩ := g4.blk (B := w2.heap.size + 1) (by first | (simp; done) | (simp; omega) | omega)
            have h4_2_0 := q4_2.out 0 (.int .u64 0) (by go_simp)
            have z4_2_0 : w4.frozen? ⟨w2.heap.size + 1, 0, none⟩ = false := (by rw [g4.1.frozen (by first | (simp; done) | (simp; omega) | omega)]; go_simp)
            have h4_2_1 := q4_2.out 1 (.int .u64 ((r : Int) * 2 + 1)) (by go_simp)
            have z4_2_1 : w4.frozen? ⟨w2.heap.size + 1, 1, none⟩ = false := (by rw [g4.1.frozen (by first | (simp; done) | (simp; omega) | omega)]; go_simp)
            have h4_2_2 := q4_2.out 2 (.bool false) (by go_simp)
            have z4_2_2 : w4.frozen? ⟨w2.heap.size + 1, 2, none⟩ = false := (by rw [g4.1.frozen (by first | (simp; done) | (simp; omega) | omega)]; go_simp)
            go_wp2_with fail
            refine (LS1.out _).mono ?_
            rintro e w5 ⟨rfl, g5⟩
            obtain ⟨l5_0, h5_0_0, h5_0_1⟩ := g5.c2 (w.heap.size) (.int .i64 (f.fractionBits : Int)) (.int .i64 (f.exponentBits : Int))
            obtain ⟨l5_1, q5_1⟩ := g5.blk (B := w2.heap.size) (by first | (simp; done) | (simp; omega) | omega)
            have h5_1_0 := q5_1.out 0 (.int .u64 (H2 : Int)) (by go_simp)
            have z5_1_0 : w5.frozen? ⟨w2.heap.size, 0, none⟩ = false := (by rw [g5.1.frozen (by first | (simp; done) | (simp; omega) | omega)]; go_simp)
            have h5_1_1 := q5_1.out 1 (.int .u64 (K2 : Int)) (by go_simp)
            have z5_1_1 : w5.frozen? ⟨w2.heap.size, 1, none⟩ = false := (by rw [g5.1.frozen (by first | (simp; done) | (simp; omega) | omega)]; go_simp)
            have h5_1_2 := q5_1.out 2 (.bool false) (by go_simp)
            have z5_1_2 : w5.frozen? ⟨w2.heap.size, 2, none⟩ = false := (by rw [g5.1.frozen (by first | (simp; done) | (simp; omega) | omega)]; go_simp)
            obtain ⟨l5_2, q5_2⟩ := g5.blk (B := w2.heap.size + 1) (by first | (simp; done) | (simp; omega) | omega)
            have h5_2_0 := q5_2.out 0 (.int .u64 0) (by go_simp)
            have z5_2_0 : w5.frozen? ⟨w2.heap.size + 1, 0, none⟩ = false := (by rw [g5.1.frozen (by first | (simp; done) | (simp; omega) | omega)]; go_simp)
            have h5_2_1 := q5_2.out 1 (.int .u64 ((r : Int) * 2 + 1)) (by go_simp)
            have z5_2_1 : w5.frozen? ⟨w2.heap.size + 1, 1, none⟩ = false := (by rw [g5.1.frozen (by first | (simp; done) | (simp; omega) | omega)]; go_simp)
            have h5_2_2 := q5_2.out 2 (.bool false) (by go_simp)
            have z5_2_2 : w5.frozen? ⟨w2.heap.size + 1, 2, none⟩ = false := (by rw [g5.1.frozen (by first | (simp; done) | (simp; omega) | omega)]; go_simp)
            go_wp2
            go_roundw
            case rel =>
              refine ⟨(t + 60), H2, K2, _, by first | rfl | simp, by omega, NQ.out, NR.out, ?_, ?_, ?_, ?_, by first | (simp; done) | (simp; omega) | omega, ?_⟩
              · unfold WC; go_simp
              · have e9 : (((2 * r + 1) : Nat) : Int) = (r : Int) * 2 + 1 := by omega
                unfold WC; rw [e9]; go_simp
              · go_simp
              · go_simp
              have sw := SW.out
              have sg3 := g3.2
              have sg4 := g4.2
              have sg5 := g5.2
              simp at sg3 sg4 sg5
              repeat (first | exact Grew.refl _ | refine Grew.drew ?_ | refine Grew.drewN ?_ _ | refine Grew.alloc ?_ _ | refine Grew.set ?_ (by first | (simp; done) | (simp; omega) | omega) _ | refine Grew.trans ?_ g5 | refine Grew.trans ?_ g4 | refine Grew.trans ?_ g3 | exact GR.out)
            case measure => first | (simp [intOf]; done) | (simp [intOf]; omega)
        · have bp : (bits .and .u64 ((m' : Int) / 2 ^ t) 1 == 1) = false := by rw [ba, ← hbt]; rw [show bit = 0 from by omega]; rfl
          have hb0 : bit = 0 := by omega
          subst hb0
          clear ba ed hbt ej hb1
          by_cases hge : n ≤ 2 * r
          · have LS1' := fun w : World => LS (2 * r) (by omega) w
            have ex : (((2 * r) : Nat) : Int) = (r : Int) * 2 := by omega
            rw [ex, decide_eq_false (by omega)] at LS1'
            have LS1 : CG 91 #[.agg #[.int .u64 0, .int .u64 ((r : Int) * 2), .bool false], .agg #[.int .u64 0, .int .u64 (n : Int), .bool false]] (.bool false) := LS1'
            have MI1' := fun w : World => MI (2 * r) (by omega) (by omega) w
            rw [wv_agg0 _ (by omega), ex, show ((2 * r - n : Nat) : Int) = (r : Int) * 2 - n from by omega] at MI1'
            have MI1 : CG 105 #[.agg #[.int .u64 0, .int .u64 ((r : Int) * 2), .bool false], .agg #[.int .u64 0, .int .u64 (n : Int), .bool false]] (.agg #[.int .u64 0, .int .u64 ((r : Int) * 2 - n), .bool false]) := MI1'
            obtain ⟨qa, qb⟩ := qs1 (by omega)
            have NQ : Hid (Wd (m' * 2 ^ 60 / 2 ^ (t + 60) / n) H2 (K2 + 1)) := by show Wd _ _ _; rw [qa]; obtain ⟨u0, u1, u2⟩ := h2; exact ⟨by omega, u1, by omega⟩
            have NR : Hid (2 * r - n = m' * 2 ^ 60 / 2 ^ (t + 60) % n) := by show _ = _; first | (rw [qb]; done) | (rw [qb]; omega)
            clear qa qb qs1 qs2 LS1' MI1' LS MI h2 ex
            go_wp2_with fail
            refine (LR.out _).mono ?_
            rintro e w3 ⟨rfl, g3⟩
            obtain ⟨l3_0, h3_0_0, h3_0_1⟩ := g3.c2 (w.heap.size) (.int .i64 (f.fractionBits : Int)) (.int .i64 (f.exponentBits : Int))
            obtain ⟨l3_1, q3_1⟩ := g3.blk (B := w2.heap.size) (by first | (simp; done) | (simp; omega) | omega)
            have h3_1_0 := q3_1.out 0 (.int .u64 (Hq : Int)) (by go_simp)
            have z3_1_0 : w3.frozen? ⟨w2.heap.size, 0, none⟩ = false := (by rw [g3.1.frozen (by first | (simp; done) | (simp; omega) | omega)]; go_simp)
            have h3_1_1 := q3_1.out 1 (.int .u64 (Kq : Int)) (by go_simp)
            have z3_1_1 : w3.frozen? ⟨w2.heap.size, 1, none⟩ = false := (by rw [g3.1.frozen (by first | (simp; done) | (simp; omega) | omega)]; go_simp)
            have h3_1_2 := q3_1.out 2 (.bool false) (by go_simp)
            have z3_1_2 : w3.frozen? ⟨w2.heap.size, 2, none⟩ = false := (by rw [g3.1.frozen (by first | (simp; done) | (simp; omega) | omega)]; go_simp)
            obtain ⟨l3_2, q3_2⟩ := g3.blk (B := w2.heap.size + 1) (by first | (simp; done) | (simp; omega) | omega)
            have h3_2_0 := q3_2.out 0 (.int .u64 0) (by go_simp)
            have z3_2_0 : w3.frozen? ⟨w2.heap.size + 1, 0, none⟩ = false := (by rw [g3.1.frozen (by first | (simp; done) | (simp; omega) | omega)]; go_simp)
            have h3_2_1 := q3_2.out 1 (.int .u64 ((r : Int))) (by go_simp)
            have z3_2_1 : w3.frozen? ⟨w2.heap.size + 1, 1, none⟩ = false := (by rw [g3.1.frozen (by first | (simp; done) | (simp; omega) | omega)]; go_simp)
            have h3_2_2 := q3_2.out 2 (.bool false) (by go_simp)
            have z3_2_2 : w3.frozen? ⟨w2.heap.size + 1, 2, none⟩ = false := (by rw [g3.1.frozen (by first | (simp; done) | (simp; omega) | omega)]; go_simp)
            go_wp2_with fail
            refine (LQ.out _).mono ?_
            rintro e w4 ⟨rfl, g4⟩
            obtain ⟨l4_0, h4_0_0, h4_0_1⟩ := g4.c2 (w.heap.size) (.int .i64 (f.fractionBits : Int)) (.int .i64 (f.exponentBits : Int))
            obtain ⟨l4_1, q4_1⟩ := g4.blk (B := w2.heap.size) (by first | (simp; done) | (simp; omega) | omega)
            have h4_1_0 := q4_1.out 0 (.int .u64 (Hq : Int)) (by go_simp)
            have z4_1_0 : w4.frozen? ⟨w2.heap.size, 0, none⟩ = false := (by rw [g4.1.frozen (by first | (simp; done) | (simp; omega) | omega)]; go_simp)
            have h4_1_1 := q4_1.out 1 (.int .u64 (Kq : Int)) (by go_simp)
            have z4_1_1 : w4.frozen? ⟨w2.heap.size, 1, none⟩ = false := (by rw [g4.1.frozen (by first | (simp; done) | (simp; omega) | omega)]; go_simp)
            have h4_1_2 := q4_1.out 2 (.bool false) (by go_simp)
            have z4_1_2 : w4.frozen? ⟨w2.heap.size, 2, none⟩ = false := (by rw [g4.1.frozen (by first | (simp; done) | (simp; omega) | omega)]; go_simp)
            obtain ⟨l4_2, q4_2⟩ := g4.blk (B := w2.heap.size + 1) (by first | (simp; done) | (simp; omega) | omega)
            have h4_2_0 := q4_2.out 0 (.int .u64 0) (by go_simp)
            have z4_2_0 : w4.frozen? ⟨w2.heap.size + 1, 0, none⟩ = false := (by rw [g4.1.frozen (by first | (simp; done) | (simp; omega) | omega)]; go_simp)
            have h4_2_1 := q4_2.out 1 (.int .u64 ((r : Int) * 2)) (by go_simp)
            have z4_2_1 : w4.frozen? ⟨w2.heap.size + 1, 1, none⟩ = false := (by rw [g4.1.frozen (by first | (simp; done) | (simp; omega) | omega)]; go_simp)
            have h4_2_2 := q4_2.out 2 (.bool false) (by go_simp)
            have z4_2_2 : w4.frozen? ⟨w2.heap.size + 1, 2, none⟩ = false := (by rw [g4.1.frozen (by first | (simp; done) | (simp; omega) | omega)]; go_simp)
            go_wp2_with fail
            refine (LS1.out _).mono ?_
            rintro e w5 ⟨rfl, g5⟩
            obtain ⟨l5_0, h5_0_0, h5_0_1⟩ := g5.c2 (w.heap.size) (.int .i64 (f.fractionBits : Int)) (.int .i64 (f.exponentBits : Int))
            obtain ⟨l5_1, q5_1⟩ := g5.blk (B := w2.heap.size) (by first | (simp; done) | (simp; omega) | omega)
            have h5_1_0 := q5_1.out 0 (.int .u64 (H2 : Int)) (by go_simp)
            have z5_1_0 : w5.frozen? ⟨w2.heap.size, 0, none⟩ = false := (by rw [g5.1.frozen (by first | (simp; done) | (simp; omega) | omega)]; go_simp)
            have h5_1_1 := q5_1.out 1 (.int .u64 (K2 : Int)) (by go_simp)
            have z5_1_1 : w5.frozen? ⟨w2.heap.size, 1, none⟩ = false := (by rw [g5.1.frozen (by first | (simp; done) | (simp; omega) | omega)]; go_simp)
            have h5_1_2 := q5_1.out 2 (.bool false) (by go_simp)
            have z5_1_2 : w5.frozen? ⟨w2.heap.size, 2, none⟩ = false := (by rw [g5.1.frozen (by first | (simp; done) | (simp; omega) | omega)]; go_simp)
            obtain ⟨l5_2, q5_2⟩ := g5.blk (B := w2.heap.size + 1) (by first | (simp; done) | (simp; omega) | omega)
            have h5_2_0 := q5_2.out 0 (.int .u64 0) (by go_simp)
            have z5_2_0 : w5.frozen? ⟨w2.heap.size + 1, 0, none⟩ = false := (by rw [g5.1.frozen (by first | (simp; done) | (simp; omega) | omega)]; go_simp)
            have h5_2_1 := q5_2.out 1 (.int .u64 ((r : Int) * 2)) (by go_simp)
            have z5_2_1 : w5.frozen? ⟨w2.heap.size + 1, 1, none⟩ = false := (by rw [g5.1.frozen (by first | (simp; done) | (simp; omega) | omega)]; go_simp)
            have h5_2_2 := q5_2.out 2 (.bool false) (by go_simp)
            have z5_2_2 : w5.frozen? ⟨w2.heap.size + 1, 2, none⟩ = false := (by rw [g5.1.frozen (by first | (simp; done) | (simp; omega) | omega)]; go_simp)
            go_wp2_with fail
            refine (MI1.out _).mono ?_
            rintro e w6 ⟨rfl, g6⟩
            obtain ⟨l6_0, h6_0_0, h6_0_1⟩ := g6.c2 (w.heap.size) (.int .i64 (f.fractionBits : Int)) (.int .i64 (f.exponentBits : Int))
            obtain ⟨l6_1, q6_1⟩ := g6.blk (B := w2.heap.size) (by first | (simp; done) | (simp; omega) | omega)
            have h6_1_0 := q6_1.out 0 (.int .u64 (H2 : Int)) (by go_simp)
            have z6_1_0 : w6.frozen? ⟨w2.heap.size, 0, none⟩ = false := (by rw [g6.1.frozen (by first | (simp; done) | (simp; omega) | omega)]; go_simp)
            have h6_1_1 := q6_1.out 1 (.int .u64 (K2 : Int)) (by go_simp)
            have z6_1_1 : w6.frozen? ⟨w2.heap.size, 1, none⟩ = false := (by rw [g6.1.frozen (by first | (simp; done) | (simp; omega) | omega)]; go_simp)
            have h6_1_2 := q6_1.out 2 (.bool false) (by go_simp)
            have z6_1_2 : w6.frozen? ⟨w2.heap.size, 2, none⟩ = false := (by rw [g6.1.frozen (by first | (simp; done) | (simp; omega) | omega)]; go_simp)
            obtain ⟨l6_2, q6_2⟩ := g6.blk (B := w2.heap.size + 1) (by first | (simp; done) | (simp; omega) | omega)
            have h6_2_0 := q6_2.out 0 (.int .u64 0) (by go_simp)
            have z6_2_0 : w6.frozen? ⟨w2.heap.size + 1, 0, none⟩ = false := (by rw [g6.1.frozen (by first | (simp; done) | (simp; omega) | omega)]; go_simp)
            have h6_2_1 := q6_2.out 1 (.int .u64 ((r : Int) * 2)) (by go_simp)
            have z6_2_1 : w6.frozen? ⟨w2.heap.size + 1, 1, none⟩ = false := (by rw [g6.1.frozen (by first | (simp; done) | (simp; omega) | omega)]; go_simp)
            have h6_2_2 := q6_2.out 2 (.bool false) (by go_simp)
            have z6_2_2 : w6.frozen? ⟨w2.heap.size + 1, 2, none⟩ = false := (by rw [g6.1.frozen (by first | (simp; done) | (simp; omega) | omega)]; go_simp)
            go_wp2
            go_roundw
            case rel =>
              refine ⟨(t + 60), H2, K2 + 1, _, by first | rfl | simp, by omega, NQ.out, NR.out, ?_, ?_, ?_, ?_, by first | (simp; done) | (simp; omega) | omega, ?_⟩
              · unfold WC; go_simp
              · have e9 : (((2 * r - n) : Nat) : Int) = (r : Int) * 2 - n := by omega
                unfold WC; rw [e9]; go_simp
              · go_simp
              · go_simp
              have sw := SW.out
              have sg3 := g3.2
              have sg4 := g4.2
              have sg5 := g5.2
              have sg6 := g6.2
              simp at sg3 sg4 sg5 sg6
              repeat (first | exact Grew.refl _ | refine Grew.drew ?_ | refine Grew.drewN ?_ _ | refine Grew.alloc ?_ _ | refine Grew.set ?_ (by first | (simp; done) | (simp; omega) | omega) _ | refine Grew.trans ?_ g6 | refine Grew.trans ?_ g5 | refine Grew.trans ?_ g4 | refine Grew.trans ?_ g3 | exact GR.out)
            case measure => first | (simp [intOf]; done) | (simp [intOf]; omega)
          · have LS1' := fun w : World => LS (2 * r) (by omega) w
            have ex : (((2 * r) : Nat) : Int) = (r : Int) * 2 := by omega
            rw [ex, decide_eq_true (by omega)] at LS1'
            have LS1 : CG 91 #[.agg #[.int .u64 0, .int .u64 ((r : Int) * 2), .bool false], .agg #[.int .u64 0, .int .u64 (n : Int), .bool false]] (.bool true) := LS1'
            obtain ⟨qa, qb⟩ := qs2 (by omega)
            have NQ : Hid (Wd (m' * 2 ^ 60 / 2 ^ (t + 60) / n) H2 K2) := by show Wd _ _ _; rw [qa]; exact h2
            have NR : Hid (2 * r = m' * 2 ^ 60 / 2 ^ (t + 60) % n) := by show _ = _; first | (rw [qb]; done) | (rw [qb]; omega)
            clear qa qb qs1 qs2 LS1'  LS MI h2 ex
            go_wp2_with fail
            refine (LR.out _).mono ?_
            rintro e w3 ⟨rfl, g3⟩
            obtain ⟨l3_0, h3_0_0, h3_0_1⟩ := g3.c2 (w.heap.size) (.int .i64 (f.fractionBits : Int)) (.int .i64 (f.exponentBits : Int))
            obtain ⟨l3_1, q3_1⟩ := g3.blk (B := w2.heap.size) (by first | (simp; done) | (simp; omega) | omega)
            have h3_1_0 := q3_1.out 0 (.int .u64 (Hq : Int)) (by go_simp)
            have z3_1_0 : w3.frozen? ⟨w2.heap.size, 0, none⟩ = false := (by rw [g3.1.frozen (by first | (simp; done) | (simp; omega) | omega)]; go_simp)
            have h3_1_1 := q3_1.out 1 (.int .u64 (Kq : Int)) (by go_simp)
            have z3_1_1 : w3.frozen? ⟨w2.heap.size, 1, none⟩ = false := (by rw [g3.1.frozen (by first | (simp; done) | (simp; omega) | omega)]; go_simp)
            have h3_1_2 := q3_1.out 2 (.bool false) (by go_simp)
            have z3_1_2 : w3.frozen? ⟨w2.heap.size, 2, none⟩ = false := (by rw [g3.1.frozen (by first | (simp; done) | (simp; omega) | omega)]; go_simp)
            obtain ⟨l3_2, q3_2⟩ := g3.blk (B := w2.heap.size + 1) (by first | (simp; done) | (simp; omega) | omega)
            have h3_2_0 := q3_2.out 0 (.int .u64 0) (by go_simp)
            have z3_2_0 : w3.frozen? ⟨w2.heap.size + 1, 0, none⟩ = false := (by rw [g3.1.frozen (by first | (simp; done) | (simp; omega) | omega)]; go_simp)
            have h3_2_1 := q3_2.out 1 (.int .u64 ((r : Int))) (by go_simp)
            have z3_2_1 : w3.frozen? ⟨w2.heap.size + 1, 1, none⟩ = false := (by rw [g3.1.frozen (by first | (simp; done) | (simp; omega) | omega)]; go_simp)
            have h3_2_2 := q3_2.out 2 (.bool false) (by go_simp)
            have z3_2_2 : w3.frozen? ⟨w2.heap.size + 1, 2, none⟩ = false := (by rw [g3.1.frozen (by first | (simp; done) | (simp; omega) | omega)]; go_simp)
            go_wp2_with fail
            refine (LQ.out _).mono ?_
            rintro e w4 ⟨rfl, g4⟩
            obtain ⟨l4_0, h4_0_0, h4_0_1⟩ := g4.c2 (w.heap.size) (.int .i64 (f.fractionBits : Int)) (.int .i64 (f.exponentBits : Int))
            obtain ⟨l4_1, q4_1⟩ := g4.blk (B := w2.heap.size) (by first | (simp; done) | (simp; omega) | omega)
            have h4_1_0 := q4_1.out 0 (.int .u64 (Hq : Int)) (by go_simp)
            have z4_1_0 : w4.frozen? ⟨w2.heap.size, 0, none⟩ = false := (by rw [g4.1.frozen (by first | (simp; done) | (simp; omega) | omega)]; go_simp)
            have h4_1_1 := q4_1.out 1 (.int .u64 (Kq : Int)) (by go_simp)
            have z4_1_1 : w4.frozen? ⟨w2.heap.size, 1, none⟩ = false := (by rw [g4.1.frozen (by first | (simp; done) | (simp; omega) | omega)]; go_simp)
            have h4_1_2 := q4_1.out 2 (.bool false) (by go_simp)
            have z4_1_2 : w4.frozen? ⟨w2.heap.size, 2, none⟩ = false := (by rw [g4.1.frozen (by first | (simp; done) | (simp; omega) | omega)]; go_simp)
            obtain ⟨l4_2, q4_2⟩ := g4.blk (B := w2.heap.size + 1) (by first | (simp; done) | (simp; omega) | omega)
            have h4_2_0 := q4_2.out 0 (.int .u64 0) (by go_simp)
            have z4_2_0 : w4.frozen? ⟨w2.heap.size + 1, 0, none⟩ = false := (by rw [g4.1.frozen (by first | (simp; done) | (simp; omega) | omega)]; go_simp)
            have h4_2_1 := q4_2.out 1 (.int .u64 ((r : Int) * 2)) (by go_simp)
            have z4_2_1 : w4.frozen? ⟨w2.heap.size + 1, 1, none⟩ = false := (by rw [g4.1.frozen (by first | (simp; done) | (simp; omega) | omega)]; go_simp)
            have h4_2_2 := q4_2.out 2 (.bool false) (by go_simp)
            have z4_2_2 : w4.frozen? ⟨w2.heap.size + 1, 2, none⟩ = false := (by rw [g4.1.frozen (by first | (simp; done) | (simp; omega) | omega)]; go_simp)
            go_wp2_with fail
            refine (LS1.out _).mono ?_
            rintro e w5 ⟨rfl, g5⟩
            obtain ⟨l5_0, h5_0_0, h5_0_1⟩ := g5.c2 (w.heap.size) (.int .i64 (f.fractionBits : Int)) (.int .i64 (f.exponentBits : Int))
            obtain ⟨l5_1, q5_1⟩ := g5.blk (B := w2.heap.size) (by first | (simp; done) | (simp; omega) | omega)
            have h5_1_0 := q5_1.out 0 (.int .u64 (H2 : Int)) (by go_simp)
            have z5_1_0 : w5.frozen? ⟨w2.heap.size, 0, none⟩ = false := (by rw [g5.1.frozen (by first | (simp; done) | (simp; omega) | omega)]; go_simp)
            have h5_1_1 := q5_1.out 1 (.int .u64 (K2 : Int)) (by go_simp)
            have z5_1_1 : w5.frozen? ⟨w2.heap.size, 1, none⟩ = false := (by rw [g5.1.frozen (by first | (simp; done) | (simp; omega) | omega)]; go_simp)
            have h5_1_2 := q5_1.out 2 (.bool false) (by go_simp)
            have z5_1_2 : w5.frozen? ⟨w2.heap.size, 2, none⟩ = false := (by rw [g5.1.frozen (by first | (simp; done) | (simp; omega) | omega)]; go_simp)
            obtain ⟨l5_2, q5_2⟩ := g5.blk (B := w2.heap.size + 1) (by first | (simp; done) | (simp; omega) | omega)
            have h5_2_0 := q5_2.out 0 (.int .u64 0) (by go_simp)
            have z5_2_0 : w5.frozen? ⟨w2.heap.size + 1, 0, none⟩ = false := (by rw [g5.1.frozen (by first | (simp; done) | (simp; omega) | omega)]; go_simp)
            have h5_2_1 := q5_2.out 1 (.int .u64 ((r : Int) * 2)) (by go_simp)
            have z5_2_1 : w5.frozen? ⟨w2.heap.size + 1, 1, none⟩ = false := (by rw [g5.1.frozen (by first | (simp; done) | (simp; omega) | omega)]; go_simp)
            have h5_2_2 := q5_2.out 2 (.bool false) (by go_simp)
            have z5_2_2 : w5.frozen? ⟨w2.heap.size + 1, 2, none⟩ = false := (by rw [g5.1.frozen (by first | (simp; done) | (simp; omega) | omega)]; go_simp)
            go_wp2
            go_roundw
            case rel =>
              refine ⟨(t + 60), H2, K2, _, by first | rfl | simp, by omega, NQ.out, NR.out, ?_, ?_, ?_, ?_, by first | (simp; done) | (simp; omega) | omega, ?_⟩
              · unfold WC; go_simp
              · have e9 : (((2 * r) : Nat) : Int) = (r : Int) * 2 := by omega
                unfold WC; rw [e9]; go_simp
              · go_simp
              · go_simp
              have sw := SW.out
              have sg3 := g3.2
              have sg4 := g4.2
              have sg5 := g5.2
              simp at sg3 sg4 sg5
              repeat (first | exact Grew.refl _ | refine Grew.drew ?_ | refine Grew.drewN ?_ _ | refine Grew.alloc ?_ _ | refine Grew.set ?_ (by first | (simp; done) | (simp; omega) | omega) _ | refine Grew.trans ?_ g5 | refine Grew.trans ?_ g4 | refine Grew.trans ?_ g3 | exact GR.out)
            case measure => first | (simp [intOf]; done) | (simp [intOf]; omega)
end Go.Proofs.YtjkebimmddlccaaDoor
