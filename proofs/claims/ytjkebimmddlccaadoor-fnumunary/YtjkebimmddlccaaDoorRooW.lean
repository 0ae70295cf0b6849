/-
  The walk of the document's root; no statement is proved here.
-/
import Derived.Test.YtjkebimmddlccaaDoorCkW
import Derived.Test.YtjkebimmddlccaaDoorRefK
import Derived.Test.YtjkebimmddlccaaDoorWideD
namespace Go.Proofs.YtjkebimmddlccaaDoor
open Go.RowKit
set_option linter.unusedVariables false
set_option linter.unusedSimpArgs false

theorem wv_two (W : Nat) : ∃ H L : Int, (∀ m, wv W m = .agg #[.int .u64 H, .int .u64 L, .bool m]) ∧ ∀ V : Nat, wv V false = .agg #[.int .u64 H, .int .u64 L, .bool false] → V = W :=
  ⟨_, _, fun _ => rfl, fun V h => by
    unfold wv at h
    simp only [Value.agg.injEq, Array.mk.injEq, List.cons.injEq, Value.int.injEq, true_and, and_true] at h
    omega⟩
theorem sq_step {V r k : Nat} (h0 : r * r ≤ V) (h1 : V < (r + 2 ^ (k + 1)) * (r + 2 ^ (k + 1))) :
    ((r + 2 ^ k) * (r + 2 ^ k) ≤ V → V < (r + 2 ^ k + 2 ^ k) * (r + 2 ^ k + 2 ^ k)) := by
  intro h
  have e : r + 2 ^ (k + 1) = r + 2 ^ k + 2 ^ k := by rw [Nat.pow_succ]; omega
  rw [← e]; exact h1
set_option maxRecDepth 100000 in
set_option maxHeartbeats 2000000 in
theorem root_e {f : Ieee.Format} (a m e R Hv Lv E2 : Int) (V c : Nat) (w : World) (e0 : -2000 ≤ e) (e1 : e ≤ 2000) (c0 : 1 ≤ c) (c1 : c ≤ 124) (hr : (Int.tmod (e - (c : Int)) 2 == 0) = true) (hq : Int.tdiv (e - (c : Int)) 2 = E2) (hE0 : -2000 ≤ E2) (hE1 : E2 ≤ 2000) (hV : Hid (∀ m, wv V m = .agg #[.int .u64 Hv, .int .u64 Lv, .bool m])) (hV1 : Hid (V < 340282366920938463463374607431768211456))
    (PX : CG 80 #[.agg #[.int .i64 (f.fractionBits : Int), .int .i64 (f.exponentBits : Int)], .int .u64 a] (.tuple #[.int .u64 m, .int .i64 e]))
    (Bt : Hid (∀ w : World, Calls Tryd.prog 90 #[.int .u64 m] w fun en w' => en = .returned (.int .i64 (124 - (c : Int))) ∧ w' = w))
    (L1 : CG 89 #[.agg #[.int .u64 0, .int .u64 m, .bool false], .int .i64 c] (.agg #[.int .u64 Hv, .int .u64 Lv, .bool false]))
    (RD : Hid (∀ r : Nat, r * r ≤ V → V < (r + 1) * (r + 1) → CG 79 #[.agg #[.int .i64 (f.fractionBits : Int), .int .i64 (f.exponentBits : Int)], .bool false, .agg #[.int .u64 0, .int .u64 (r : Int), .bool (decide (V ≠ r * r))], .int .i64 E2] (.int .u64 R))) :
    Calls Tryd.prog 65 #[.agg #[.int .i64 (f.fractionBits : Int), .int .i64 (f.exponentBits : Int)], .int .u64 a] w fun en w' => en = .returned (.int .u64 R) ∧ Grew w w' := by
  have we : IntKind.i64.wrap (124 - (124 - (c : Int))) = c := by rw [IntKind.wrap_i64]; omega
  have wf : IntKind.i64.wrap (e - (c : Int)) = e - c := by rw [IntKind.wrap_i64]; omega
  have wg : IntKind.i64.wrap (e - (c : Int) - 1) = e - c - 1 := by rw [IntKind.wrap_i64]; omega
  have wh : IntKind.i64.wrap E2 = E2 := by rw [IntKind.wrap_i64]; omega
  go_enter Tryd.func65, Tryd.ntmps65
  go_wp2_with fail
  refine (PX.out _).mono ?_
  rintro en w1 ⟨rfl, g1⟩
  obtain ⟨l1_0, h1_0_0, h1_0_1⟩ := g1.c2 (w.heap.size) (.int .i64 (f.fractionBits : Int)) (.int .i64 (f.exponentBits : Int))
  go_wp2_with (go_at_call 90; refine (Bt.out _).mono ?_; rintro en wz ⟨rfl, hwz⟩; obtain rfl := hwz.symm)
  refine (L1.out _).mono ?_
  rintro en w2 ⟨rfl, g2⟩
  obtain ⟨l2_0, h2_0_0, h2_0_1⟩ := g2.c2 (w.heap.size) (.int .i64 (f.fractionBits : Int)) (.int .i64 (f.exponentBits : Int))
  go_wp2_with (go_at_call 90; refine (Bt.out _).mono ?_; rintro en wz ⟨rfl, hwz⟩; obtain rfl := hwz.symm)
  have S2 : Hid (Grew w w2) := (((Grew.refl _).alloc _).trans g1).trans g2
  have SW : Hid (w.heap.size < w2.heap.size) := l2_0
  go_loopw [8, 9] (fun r_ i_ wr => ∃ (k r : Nat), r_ = .int .u64 (r : Int) ∧ i_ = .int .i64 ((k : Int) - 1) ∧ k ≤ 64 ∧ Hid (r * r ≤ V ∧ V < (r + 2 ^ k) * (r + 2 ^ k) ∧ r + 2 ^ k ≤ 18446744073709551616)
      ∧ wr.cell? ⟨w2.heap.size, 0, none⟩ = some (.int .u64 Hv) ∧ wr.cell? ⟨w2.heap.size, 1, none⟩ = some (.int .u64 Lv) ∧ wr.cell? ⟨w2.heap.size, 2, none⟩ = some (.bool false)
      ∧ wr.cell? ⟨w.heap.size, 0, none⟩ = some (.int .i64 (f.fractionBits : Int)) ∧ wr.cell? ⟨w.heap.size, 1, none⟩ = some (.int .i64 (f.exponentBits : Int)) ∧ w2.heap.size < wr.heap.size ∧ Grew w wr) (fun _ i_ _ => (intOf i_ + 1).toNat)
  case atStart =>
    refine ⟨64, 0, rfl, rfl, by omega, ⟨by omega, by have := hV1.out; omega, by omega⟩, ?_, ?_, ?_, ?_, ?_, by first | (simp; done) | (simp; omega) | omega, ?_⟩
    · go_simp
    · go_simp
    · go_simp
    · go_simp
    · go_simp
    · have sw := SW.out
      have s3 := S2.out
      repeat (first | exact s3 | refine Grew.alloc ?_ _ | refine Grew.set ?_ (by first | (simp; done) | (simp; omega) | omega) _)
  case round =>
    obtain ⟨k, r, rfl, rfl, hk, hin, b0, b1, b2, d0, d1, hs, gr⟩ := hrel
    have GR : Hid (Grew w wr) := gr
    have hsw := SW.out
    clear gr
    cases k with
    | zero =>
      have hi := hin.out
      rw [Nat.pow_zero] at hi
      have RD2 := RD.out r hi.1 hi.2.1
      obtain ⟨H3, L3, h3, u3⟩ := wv_two (r * r)
      have TM : CG 92 #[.int .u64 (r : Int), .int .u64 (r : Int)] (.agg #[.int .u64 H3, .int .u64 L3, .bool false]) := fun w => by
        have h := times_any r r (by omega) (by omega) w
        rw [h3] at h
        exact h
      clear hi hin
      have hVf := hV.out false
      by_cases hve : V = r * r
      · have h4 := h3 false
        rw [← hve, hVf] at h4
        simp only [Value.agg.injEq, Array.mk.injEq, List.cons.injEq, Value.int.injEq, true_and, and_true] at h4
        obtain ⟨e3, e4⟩ := h4
        subst e3
        subst e4
        rw [decide_eq_false (by simp [hve])] at RD2
        clear h3 u3 hVf hve
        have RD3 : CG 79 #[.agg #[.int .i64 (f.fractionBits : Int), .int .i64 (f.exponentBits : Int)], .bool false, .agg #[.int .u64 0, .int .u64 (r : Int), .bool false], .int .i64 E2] (.int .u64 R) := RD2
        clear RD2 RD
        go_wp2_with fail
        refine wp_region_ck [(w2.heap.size, 0, .int .u64 Hv), (w2.heap.size, 1, .int .u64 Lv), (w2.heap.size, 2, .bool false), (w.heap.size, 0, .int .i64 (f.fractionBits : Int)), (w.heap.size, 1, .int .i64 (f.exponentBits : Int))] (by kernel_rfl) (by kernel_rfl) ⟨⟨by first | (simp; done) | (simp; omega) | omega, by go_simp⟩, ⟨by first | (simp; done) | (simp; omega) | omega, by go_simp⟩, ⟨by first | (simp; done) | (simp; omega) | omega, by go_simp⟩, ⟨by first | (simp; done) | (simp; omega) | omega, by go_simp⟩, ⟨by first | (simp; done) | (simp; omega) | omega, by go_simp⟩, trivial⟩ ?_
        repeat (first
          | go_big_quiet_skip
          | (go_big_quiet_want
             go_big_quiet_op
             first
             | go_big_quiet_on
             | (refine ⟨_, fun _ _ => rfl, ?_⟩; go_big_quiet_on)
             | (refine ⟨.agg #[.int .i64 (f.fractionBits : Int), .int .i64 (f.exponentBits : Int)], fun w' hw' => ?_, ?_⟩
                · (obtain ⟨_, ⟨_, hc0⟩, ⟨_, hc1⟩, ⟨_, hc2⟩, ⟨_, hc3⟩, ⟨_, hc4⟩, _⟩ := hw'; go_simp; done)
                go_big_quiet_on)
             | (refine ⟨.agg #[.int .u64 Hv, .int .u64 Lv, .bool false], fun w' hw' => ?_, ?_⟩
                · (obtain ⟨_, ⟨_, hc0⟩, ⟨_, hc1⟩, ⟨_, hc2⟩, ⟨_, hc3⟩, ⟨_, hc4⟩, _⟩ := hw'; go_simp; done)
                go_big_quiet_on)
             | (apply Exists.intro
                refine ⟨fun w' hw' => ?_, ?_⟩
                · (first
                | (go_at_call 92; exact hw'.call (TM.out _))
                | (go_at_call 79; exact hw'.call (RD3.out _)))
                go_big_quiet_on)))
        refine wpQuiet_nil ?_
        rintro w8 ⟨g8, ⟨b8_0, c8_0⟩, ⟨b8_1, c8_1⟩, ⟨b8_2, c8_2⟩, ⟨b8_3, c8_3⟩, ⟨b8_4, c8_4⟩, _⟩
        have n8_0 : w2.heap.size < w8.heap.size := Nat.lt_of_lt_of_le b8_0 g8.2
        have n8_3 : w.heap.size < w8.heap.size := Nat.lt_of_lt_of_le b8_3 g8.2
        go_wp2
        go_ret
        go_light
        refine ⟨by first | rfl | simp, ?_⟩
        exact GR.out.trans g8
      · rw [decide_eq_true hve] at RD2
        by_cases e3 : Hv = H3
        · have e4 : ¬ Lv = L3 := fun e4 => hve (u3 V (by rw [hVf, e3, e4]))
          have q4 : (Lv == L3) = false := beq_eq_false_iff_ne.2 e4
          subst e3
          clear h3 u3 hVf hve
          have RD3 : CG 79 #[.agg #[.int .i64 (f.fractionBits : Int), .int .i64 (f.exponentBits : Int)], .bool false, .agg #[.int .u64 0, .int .u64 (r : Int), .bool true], .int .i64 E2] (.int .u64 R) := RD2
          clear RD2 RD
          go_wp2_with fail
          refine wp_region_ck [(w2.heap.size, 0, .int .u64 Hv), (w2.heap.size, 1, .int .u64 Lv), (w2.heap.size, 2, .bool false), (w.heap.size, 0, .int .i64 (f.fractionBits : Int)), (w.heap.size, 1, .int .i64 (f.exponentBits : Int))] (by kernel_rfl) (by kernel_rfl) ⟨⟨by first | (simp; done) | (simp; omega) | omega, by go_simp⟩, ⟨by first | (simp; done) | (simp; omega) | omega, by go_simp⟩, ⟨by first | (simp; done) | (simp; omega) | omega, by go_simp⟩, ⟨by first | (simp; done) | (simp; omega) | omega, by go_simp⟩, ⟨by first | (simp; done) | (simp; omega) | omega, by go_simp⟩, trivial⟩ ?_
          repeat (first
            | go_big_quiet_skip
            | (go_big_quiet_want
               go_big_quiet_op
               first
               | go_big_quiet_on
               | (refine ⟨_, fun _ _ => rfl, ?_⟩; go_big_quiet_on)
               | (refine ⟨.agg #[.int .i64 (f.fractionBits : Int), .int .i64 (f.exponentBits : Int)], fun w' hw' => ?_, ?_⟩
                  · (obtain ⟨_, ⟨_, hc0⟩, ⟨_, hc1⟩, ⟨_, hc2⟩, ⟨_, hc3⟩, ⟨_, hc4⟩, _⟩ := hw'; go_simp; done)
                  go_big_quiet_on)
               | (refine ⟨.agg #[.int .u64 Hv, .int .u64 Lv, .bool false], fun w' hw' => ?_, ?_⟩
                  · (obtain ⟨_, ⟨_, hc0⟩, ⟨_, hc1⟩, ⟨_, hc2⟩, ⟨_, hc3⟩, ⟨_, hc4⟩, _⟩ := hw'; go_simp; done)
                  go_big_quiet_on)
               | (apply Exists.intro
                  refine ⟨fun w' hw' => ?_, ?_⟩
                  · (first
                  | (go_at_call 92; exact hw'.call (TM.out _))
                  | (go_at_call 79; exact hw'.call (RD3.out _)))
                  go_big_quiet_on)))
          refine wpQuiet_nil ?_
          rintro w8 ⟨g8, ⟨b8_0, c8_0⟩, ⟨b8_1, c8_1⟩, ⟨b8_2, c8_2⟩, ⟨b8_3, c8_3⟩, ⟨b8_4, c8_4⟩, _⟩
          have n8_0 : w2.heap.size < w8.heap.size := Nat.lt_of_lt_of_le b8_0 g8.2
          have n8_3 : w.heap.size < w8.heap.size := Nat.lt_of_lt_of_le b8_3 g8.2
          go_wp2
          go_ret
          go_light
          refine ⟨by first | rfl | simp, ?_⟩
          exact GR.out.trans g8
        · have q3 : (Hv == H3) = false := beq_eq_false_iff_ne.2 e3
          clear h3 u3 hVf hve
          have RD3 : CG 79 #[.agg #[.int .i64 (f.fractionBits : Int), .int .i64 (f.exponentBits : Int)], .bool false, .agg #[.int .u64 0, .int .u64 (r : Int), .bool true], .int .i64 E2] (.int .u64 R) := RD2
          clear RD2 RD
          go_wp2_with fail
          refine wp_region_ck [(w2.heap.size, 0, .int .u64 Hv), (w2.heap.size, 1, .int .u64 Lv), (w2.heap.size, 2, .bool false), (w.heap.size, 0, .int .i64 (f.fractionBits : Int)), (w.heap.size, 1, .int .i64 (f.exponentBits : Int))] (by kernel_rfl) (by kernel_rfl) ⟨⟨by first | (simp; done) | (simp; omega) | omega, by go_simp⟩, ⟨by first | (simp; done) | (simp; omega) | omega, by go_simp⟩, ⟨by first | (simp; done) | (simp; omega) | omega, by go_simp⟩, ⟨by first | (simp; done) | (simp; omega) | omega, by go_simp⟩, ⟨by first | (simp; done) | (simp; omega) | omega, by go_simp⟩, trivial⟩ ?_
          repeat (first
            | go_big_quiet_skip
            | (go_big_quiet_want
               go_big_quiet_op
               first
               | go_big_quiet_on
               | (refine ⟨_, fun _ _ => rfl, ?_⟩; go_big_quiet_on)
               | (refine ⟨.agg #[.int .i64 (f.fractionBits : Int), .int .i64 (f.exponentBits : Int)], fun w' hw' => ?_, ?_⟩
                  · (obtain ⟨_, ⟨_, hc0⟩, ⟨_, hc1⟩, ⟨_, hc2⟩, ⟨_, hc3⟩, ⟨_, hc4⟩, _⟩ := hw'; go_simp; done)
                  go_big_quiet_on)
               | (refine ⟨.agg #[.int .u64 Hv, .int .u64 Lv, .bool false], fun w' hw' => ?_, ?_⟩
                  · (obtain ⟨_, ⟨_, hc0⟩, ⟨_, hc1⟩, ⟨_, hc2⟩, ⟨_, hc3⟩, ⟨_, hc4⟩, _⟩ := hw'; go_simp; done)
                  go_big_quiet_on)
               | (apply Exists.intro
                  refine ⟨fun w' hw' => ?_, ?_⟩
                  · (first
                  | (go_at_call 92; exact hw'.call (TM.out _))
                  | (go_at_call 79; exact hw'.call (RD3.out _)))
                  go_big_quiet_on)))
          refine wpQuiet_nil ?_
          rintro w8 ⟨g8, ⟨b8_0, c8_0⟩, ⟨b8_1, c8_1⟩, ⟨b8_2, c8_2⟩, ⟨b8_3, c8_3⟩, ⟨b8_4, c8_4⟩, _⟩
          have n8_0 : w2.heap.size < w8.heap.size := Nat.lt_of_lt_of_le b8_0 g8.2
          have n8_3 : w.heap.size < w8.heap.size := Nat.lt_of_lt_of_le b8_3 g8.2
          go_wp2
          go_ret
          go_light
          refine ⟨by first | rfl | simp, ?_⟩
          exact GR.out.trans g8
    | succ j =>
      have hi := hin.out
      have ej : (((j + 1 : Nat) : Int) - 1) = (j : Int) := by omega
      rw [ej]
      have hpow : 2 ^ (j + 1) = 2 ^ j + 2 ^ j := by rw [Nat.pow_succ]; omega
      obtain ⟨t, ht⟩ : ∃ t, t = r + 2 ^ j := ⟨_, rfl⟩
      have ht64 : t < 18446744073709551616 := by have := Nat.two_pow_pos j; omega
      have eT : (r : Int) + 1 * 2 ^ j = (t : Int) := by rw [ht]; push_cast; omega
      have eT2 : (r : Int) + 2 ^ j = (t : Int) := by rw [ht]; push_cast; omega
      have hj64 : (2 : Int) ^ j < 18446744073709551616 := by
        have h1 : 2 ^ j < 18446744073709551616 := by omega
        have h2 : ((2 ^ j : Nat) : Int) = (2 : Int) ^ j := by push_cast; rfl
        omega
      obtain ⟨H3, L3, h3, u3⟩ := wv_two (t * t)
      have htt : t * t < 340282366920938463463374607431768211456 := Nat.lt_of_lt_of_le (Nat.mul_lt_mul'' ht64 ht64) (by decide)
      have TM : CG 92 #[.int .u64 (t : Int), .int .u64 (t : Int)] (.agg #[.int .u64 H3, .int .u64 L3, .bool false]) := fun w => by
        have h := times_any t t ht64 ht64 w
        rw [h3] at h
        exact h
      have LS : CG 91 #[.agg #[.int .u64 Hv, .int .u64 Lv, .bool false], .agg #[.int .u64 H3, .int .u64 L3, .bool false]] (.bool (decide (V < t * t))) := fun w => by
        have h := less_any V (t * t) false false hV1.out htt w
        rw [h3, hV.out] at h
        exact h
      have wj : IntKind.u64.wrap ((2 : Int) ^ j) = 2 ^ j := by
        have h1 : 2 ^ j < 18446744073709551616 := by omega
        have h2 : (2 : Int) ^ j = ((2 ^ j : Nat) : Int) := by push_cast; rfl
        rw [h2]
        generalize 2 ^ j = P at h1 ⊢
        rw [IntKind.wrap_u64]
        omega
      have wt : IntKind.u64.wrap ((r : Int) + 2 ^ j) = (t : Int) := by rw [eT2, IntKind.wrap_u64]; omega
      have wd : IntKind.i64.wrap ((j : Int) - 1) = (j : Int) - 1 := by rw [IntKind.wrap_i64]; omega
      clear eT eT2 hj64 htt u3 h3
      by_cases hlt : V < t * t
      · have HI : Hid (r * r ≤ V ∧ V < (r + 2 ^ j) * (r + 2 ^ j) ∧ r + 2 ^ j ≤ 18446744073709551616) := ⟨hi.1, by rw [← ht]; exact hlt, by omega⟩
        rw [decide_eq_true hlt] at LS
        clear hi hin hpow ht hlt
        have LS2 : CG 91 #[.agg #[.int .u64 Hv, .int .u64 Lv, .bool false], .agg #[.int .u64 H3, .int .u64 L3, .bool false]] (.bool true) := LS
        clear LS RD
        go_wp2_with fail
        refine wp_region_ck [(w2.heap.size, 0, .int .u64 Hv), (w2.heap.size, 1, .int .u64 Lv), (w2.heap.size, 2, .bool false), (w.heap.size, 0, .int .i64 (f.fractionBits : Int)), (w.heap.size, 1, .int .i64 (f.exponentBits : Int))] (by kernel_rfl) (by kernel_rfl) ⟨⟨by first | (simp; done) | (simp; omega) | omega, by go_simp⟩, ⟨by first | (simp; done) | (simp; omega) | omega, by go_simp⟩, ⟨by first | (simp; done) | (simp; omega) | omega, by go_simp⟩, ⟨by first | (simp; done) | (simp; omega) | omega, by go_simp⟩, ⟨by first | (simp; done) | (simp; omega) | omega, by go_simp⟩, trivial⟩ ?_
        repeat (first
          | go_big_quiet_skip
          | (go_big_quiet_want
             go_big_quiet_op
             first
             | go_big_quiet_on
             | (refine ⟨_, fun _ _ => rfl, ?_⟩; go_big_quiet_on)
             | (refine ⟨.agg #[.int .u64 Hv, .int .u64 Lv, .bool false], fun w' hw' => ?_, ?_⟩
                · (obtain ⟨_, ⟨_, hc0⟩, ⟨_, hc1⟩, ⟨_, hc2⟩, ⟨_, hc3⟩, ⟨_, hc4⟩, _⟩ := hw'; go_simp; done)
                go_big_quiet_on)
             | (apply Exists.intro
                refine ⟨fun w' hw' => ?_, ?_⟩
                · (first
                | (go_at_call 92; exact hw'.call (TM.out _))
                | (go_at_call 91; exact hw'.call (LS2.out _)))
                go_big_quiet_on)))
        refine wpQuiet_nil ?_
        rintro w8 ⟨g8, ⟨b8_0, c8_0⟩, ⟨b8_1, c8_1⟩, ⟨b8_2, c8_2⟩, ⟨b8_3, c8_3⟩, ⟨b8_4, c8_4⟩, _⟩
        have n8_0 : w2.heap.size < w8.heap.size := Nat.lt_of_lt_of_le b8_0 g8.2
        have n8_3 : w.heap.size < w8.heap.size := Nat.lt_of_lt_of_le b8_3 g8.2
        go_wp2
        go_roundw
        case rel =>
          refine ⟨j, r, by first | rfl | simp, by first | rfl | (simp; done) | (simp; omega), by omega, HI, by assumption, by assumption, by assumption, by assumption, by assumption, by assumption, GR.out.trans g8⟩
        case measure => first | (simp [intOf]; done) | (simp [intOf]; omega)
      · have HI : Hid (t * t ≤ V ∧ V < (t + 2 ^ j) * (t + 2 ^ j) ∧ t + 2 ^ j ≤ 18446744073709551616) := ⟨by omega, by rw [ht, Nat.add_assoc, ← hpow]; exact hi.2.1, by omega⟩
        rw [decide_eq_false hlt] at LS
        clear hi hin hpow ht hlt
        have LS2 : CG 91 #[.agg #[.int .u64 Hv, .int .u64 Lv, .bool false], .agg #[.int .u64 H3, .int .u64 L3, .bool false]] (.bool false) := LS
        clear LS RD
        go_wp2_with fail
        refine wp_region_ck [(w2.heap.size, 0, .int .u64 Hv), (w2.heap.size, 1, .int .u64 Lv), (w2.heap.size, 2, .bool false), (w.heap.size, 0, .int .i64 (f.fractionBits : Int)), (w.heap.size, 1, .int .i64 (f.exponentBits : Int))] (by kernel_rfl) (by kernel_rfl) ⟨⟨by first | (simp; done) | (simp; omega) | omega, by go_simp⟩, ⟨by first | (simp; done) | (simp; omega) | omega, by go_simp⟩, ⟨by first | (simp; done) | (simp; omega) | omega, by go_simp⟩, ⟨by first | (simp; done) | (simp; omega) | omega, by go_simp⟩, ⟨by first | (simp; done) | (simp; omega) | omega, by go_simp⟩, trivial⟩ ?_
        repeat (first
          | go_big_quiet_skip
          | (go_big_quiet_want
             go_big_quiet_op
             first
             | go_big_quiet_on
             | (refine ⟨_, fun _ _ => rfl, ?_⟩; go_big_quiet_on)
             | (refine ⟨.agg #[.int .u64 Hv, .int .u64 Lv, .bool false], fun w' hw' => ?_, ?_⟩
                · (obtain ⟨_, ⟨_, hc0⟩, ⟨_, hc1⟩, ⟨_, hc2⟩, ⟨_, hc3⟩, ⟨_, hc4⟩, _⟩ := hw'; go_simp; done)
                go_big_quiet_on)
             | (apply Exists.intro
                refine ⟨fun w' hw' => ?_, ?_⟩
                · (first
                | (go_at_call 92; exact hw'.call (TM.out _))
                | (go_at_call 91; exact hw'.call (LS2.out _)))
                go_big_quiet_on)))
        refine wpQuiet_nil ?_
        rintro w8 ⟨g8, ⟨b8_0, c8_0⟩, ⟨b8_1, c8_1⟩, ⟨b8_2, c8_2⟩, ⟨b8_3, c8_3⟩, ⟨b8_4, c8_4⟩, _⟩
        have n8_0 : w2.heap.size < w8.heap.size := Nat.lt_of_lt_of_le b8_0 g8.2
        have n8_3 : w.heap.size < w8.heap.size := Nat.lt_of_lt_of_le b8_3 g8.2
        go_wp2
        go_roundw
        case rel =>
          refine ⟨j, t, by first | rfl | simp, by first | rfl | (simp; done) | (simp; omega), by omega, HI, by assumption, by assumption, by assumption, by assumption, by assumption, by assumption, GR.out.trans g8⟩
        case measure => first | (simp [intOf]; done) | (simp [intOf]; omega)
set_option maxRecDepth 100000 in
set_option maxHeartbeats 2000000 in
theorem root_o {f : Ieee.Format} (a m e R H L Hv Lv E2 : Int) (V c : Nat) (w : World) (e0 : -2000 ≤ e) (e1 : e ≤ 2000) (c0 : 1 ≤ c) (c1 : c ≤ 124) (hr : (Int.tmod (e - (c : Int)) 2 == 0) = false) (hq : Int.tdiv (e - (c : Int) - 1) 2 = E2) (hE0 : -2000 ≤ E2) (hE1 : E2 ≤ 2000) (hV : Hid (∀ m, wv V m = .agg #[.int .u64 Hv, .int .u64 Lv, .bool m])) (hV1 : Hid (V < 340282366920938463463374607431768211456))
    (PX : CG 80 #[.agg #[.int .i64 (f.fractionBits : Int), .int .i64 (f.exponentBits : Int)], .int .u64 a] (.tuple #[.int .u64 m, .int .i64 e]))
    (Bt : Hid (∀ w : World, Calls Tryd.prog 90 #[.int .u64 m] w fun en w' => en = .returned (.int .i64 (124 - (c : Int))) ∧ w' = w))
    (L1 : CG 89 #[.agg #[.int .u64 0, .int .u64 m, .bool false], .int .i64 c] (.agg #[.int .u64 H, .int .u64 L, .bool false]))
    (L2 : CG 89 #[.agg #[.int .u64 H, .int .u64 L, .bool false], .int .i64 1] (.agg #[.int .u64 Hv, .int .u64 Lv, .bool false]))
    (RD : Hid (∀ r : Nat, r * r ≤ V → V < (r + 1) * (r + 1) → CG 79 #[.agg #[.int .i64 (f.fractionBits : Int), .int .i64 (f.exponentBits : Int)], .bool false, .agg #[.int .u64 0, .int .u64 (r : Int), .bool (decide (V ≠ r * r))], .int .i64 E2] (.int .u64 R))) :
    Calls Tryd.prog 65 #[.agg #[.int .i64 (f.fractionBits : Int), .int .i64 (f.exponentBits : Int)], .int .u64 a] w fun en w' => en = .returned (.int .u64 R) ∧ Grew w w' := by
  have we : IntKind.i64.wrap (124 - (124 - (c : Int))) = c := by rw [IntKind.wrap_i64]; omega
  have wf : IntKind.i64.wrap (e - (c : Int)) = e - c := by rw [IntKind.wrap_i64]; omega
  have wg : IntKind.i64.wrap (e - (c : Int) - 1) = e - c - 1 := by rw [IntKind.wrap_i64]; omega
  have wh : IntKind.i64.wrap E2 = E2 := by rw [IntKind.wrap_i64]; omega
  go_enter Tryd.func65, Tryd.ntmps65
  go_wp2_with fail
  refine (PX.out _).mono ?_
  rintro en w1 ⟨rfl, g1⟩
  obtain ⟨l1_0, h1_0_0, h1_0_1⟩ := g1.c2 (w.heap.size) (.int .i64 (f.fractionBits : Int)) (.int .i64 (f.exponentBits : Int))
  go_wp2_with (go_at_call 90; refine (Bt.out _).mono ?_; rintro en wz ⟨rfl, hwz⟩; obtain rfl := hwz.symm)
  refine (L1.out _).mono ?_
  rintro en w2 ⟨rfl, g2⟩
  obtain ⟨l2_0, h2_0_0, h2_0_1⟩ := g2.c2 (w.heap.size) (.int .i64 (f.fractionBits : Int)) (.int .i64 (f.exponentBits : Int))
  go_wp2_with (go_at_call 90; refine (Bt.out _).mono ?_; rintro en wz ⟨rfl, hwz⟩; obtain rfl := hwz.symm)
  refine (L2.out _).mono ?_
  rintro en w3 ⟨rfl, g3⟩
  obtain ⟨l3_0, h3_0_0, h3_0_1⟩ := g3.c2 (w.heap.size) (.int .i64 (f.fractionBits : Int)) (.int .i64 (f.exponentBits : Int))
  obtain ⟨l3_1, h3_1_0, h3_1_1, h3_1_2⟩ := g3.c3 (w2.heap.size) (.int .u64 H) (.int .u64 L) (.bool false)
  have z3_0 : w3.frozen? ⟨w2.heap.size, 0, none⟩ = false := (by rw [g3.1.frozen (by first | (simp; done) | (simp; omega) | omega)]; go_simp)
  have z3_1 : w3.frozen? ⟨w2.heap.size, 1, none⟩ = false := (by rw [g3.1.frozen (by first | (simp; done) | (simp; omega) | omega)]; go_simp)
  have z3_2 : w3.frozen? ⟨w2.heap.size, 2, none⟩ = false := (by rw [g3.1.frozen (by first | (simp; done) | (simp; omega) | omega)]; go_simp)
  go_wp2_with fail
  have S2 : Hid (Grew w w3) := (((((Grew.refl _).alloc _).trans g1).trans g2).alloc _).trans g3
  have SW : Hid (w.heap.size < w2.heap.size) := l2_0
  go_loopw [8, 9] (fun r_ i_ wr => ∃ (k r : Nat), r_ = .int .u64 (r : Int) ∧ i_ = .int .i64 ((k : Int) - 1) ∧ k ≤ 64 ∧ Hid (r * r ≤ V ∧ V < (r + 2 ^ k) * (r + 2 ^ k) ∧ r + 2 ^ k ≤ 18446744073709551616)
      ∧ wr.cell? ⟨w2.heap.size, 0, none⟩ = some (.int .u64 Hv) ∧ wr.cell? ⟨w2.heap.size, 1, none⟩ = some (.int .u64 Lv) ∧ wr.cell? ⟨w2.heap.size, 2, none⟩ = some (.bool false)
      ∧ wr.cell? ⟨w.heap.size, 0, none⟩ = some (.int .i64 (f.fractionBits : Int)) ∧ wr.cell? ⟨w.heap.size, 1, none⟩ = some (.int .i64 (f.exponentBits : Int)) ∧ w2.heap.size < wr.heap.size ∧ Grew w wr) (fun _ i_ _ => (intOf i_ + 1).toNat)
  case atStart =>
    refine ⟨64, 0, rfl, rfl, by omega, ⟨by omega, by have := hV1.out; omega, by omega⟩, ?_, ?_, ?_, ?_, ?_, by first | (simp; done) | (simp; omega) | omega, ?_⟩
    · go_simp
    · go_simp
    · go_simp
    · go_simp
    · go_simp
    · have sw := SW.out
      have s3 := S2.out
      repeat (first | exact s3 | refine Grew.alloc ?_ _ | refine Grew.set ?_ (by first | (simp; done) | (simp; omega) | omega) _)
  case round =>
    obtain ⟨k, r, rfl, rfl, hk, hin, b0, b1, b2, d0, d1, hs, gr⟩ := hrel
    have GR : Hid (Grew w wr) := gr
    have hsw := SW.out
    clear gr
    cases k with
    | zero =>
      have hi := hin.out
      rw [Nat.pow_zero] at hi
      have RD2 := RD.out r hi.1 hi.2.1
      obtain ⟨H3, L3, h3, u3⟩ := wv_two (r * r)
      have TM : CG 92 #[.int .u64 (r : Int), .int .u64 (r : Int)] (.agg #[.int .u64 H3, .int .u64 L3, .bool false]) := fun w => by
        have h := times_any r r (by omega) (by omega) w
        rw [h3] at h
        exact h
      clear hi hin
      have hVf := hV.out false
      by_cases hve : V = r * r
      · have h4 := h3 false
        rw [← hve, hVf] at h4
        simp only [Value.agg.injEq, Array.mk.injEq, List.cons.injEq, Value.int.injEq, true_and, and_true] at h4
        obtain ⟨e3, e4⟩ := h4
        subst e3
        subst e4
        rw [decide_eq_false (by simp [hve])] at RD2
        clear h3 u3 hVf hve
        have RD3 : CG 79 #[.agg #[.int .i64 (f.fractionBits : Int), .int .i64 (f.exponentBits : Int)], .bool false, .agg #[.int .u64 0, .int .u64 (r : Int), .bool false], .int .i64 E2] (.int .u64 R) := RD2
        clear RD2 RD
        go_wp2_with fail
        refine wp_region_ck [(w2.heap.size, 0, .int .u64 Hv), (w2.heap.size, 1, .int .u64 Lv), (w2.heap.size, 2, .bool false), (w.heap.size, 0, .int .i64 (f.fractionBits : Int)), (w.heap.size, 1, .int .i64 (f.exponentBits : Int))] (by kernel_rfl) (by kernel_rfl) ⟨⟨by first | (simp; done) | (simp; omega) | omega, by go_simp⟩, ⟨by first | (simp; done) | (simp; omega) | omega, by go_simp⟩, ⟨by first | (simp; done) | (simp; omega) | omega, by go_simp⟩, ⟨by first | (simp; done) | (simp; omega) | omega, by go_simp⟩, ⟨by first | (simp; done) | (simp; omega) | omega, by go_simp⟩, trivial⟩ ?_
        repeat (first
          | go_big_quiet_skip
          | (go_big_quiet_want
             go_big_quiet_op
             first
             | go_big_quiet_on
             | (refine ⟨_, fun _ _ => rfl, ?_⟩; go_big_quiet_on)
             | (refine ⟨.agg #[.int .i64 (f.fractionBits : Int), .int .i64 (f.exponentBits : Int)], fun w' hw' => ?_, ?_⟩
                · (obtain ⟨_, ⟨_, hc0⟩, ⟨_, hc1⟩, ⟨_, hc2⟩, ⟨_, hc3⟩, ⟨_, hc4⟩, _⟩ := hw'; go_simp; done)
                go_big_quiet_on)
             | (refine ⟨.agg #[.int .u64 Hv, .int .u64 Lv, .bool false], fun w' hw' => ?_, ?_⟩
                · (obtain ⟨_, ⟨_, hc0⟩, ⟨_, hc1⟩, ⟨_, hc2⟩, ⟨_, hc3⟩, ⟨_, hc4⟩, _⟩ := hw'; go_simp; done)
                go_big_quiet_on)
             | (apply Exists.intro
                refine ⟨fun w' hw' => ?_, ?_⟩
                · (first
                | (go_at_call 92; exact hw'.call (TM.out _))
                | (go_at_call 79; exact hw'.call (RD3.out _)))
                go_big_quiet_on)))
        refine wpQuiet_nil ?_
        rintro w8 ⟨g8, ⟨b8_0, c8_0⟩, ⟨b8_1, c8_1⟩, ⟨b8_2, c8_2⟩, ⟨b8_3, c8_3⟩, ⟨b8_4, c8_4⟩, _⟩
        have n8_0 : w2.heap.size < w8.heap.size := Nat.lt_of_lt_of_le b8_0 g8.2
        have n8_3 : w.heap.size < w8.heap.size := Nat.lt_of_lt_of_le b8_3 g8.2
        go_wp2
        go_ret
        go_light
        refine ⟨by first | rfl | simp, ?_⟩
        exact GR.out.trans g8
      · rw [decide_eq_true hve] at RD2
        by_cases e3 : Hv = H3
        · have e4 : ¬ Lv = L3 := fun e4 => hve (u3 V (by rw [hVf, e3, e4]))
          have q4 : (Lv == L3) = false := beq_eq_false_iff_ne.2 e4
          subst e3
          clear h3 u3 hVf hve
          have RD3 : CG 79 #[.agg #[.int .i64 (f.fractionBits : Int), .int .i64 (f.exponentBits : Int)], .bool false, .agg #[.int .u64 0, .int .u64 (r : Int), .bool true], .int .i64 E2] (.int .u64 R) := RD2
          clear RD2 RD
          go_wp2_with fail
          refine wp_region_ck [(w2.heap.size, 0, .int .u64 Hv), (w2.heap.size, 1, .int .u64 Lv), (w2.heap.size, 2, .bool false), (w.heap.size, 0, .int .i64 (f.fractionBits : Int)), (w.heap.size, 1, .int .i64 (f.exponentBits : Int))] (by kernel_rfl) (by kernel_rfl) ⟨⟨by first | (simp; done) | (simp; omega) | omega, by go_simp⟩, ⟨by first | (simp; done) | (simp; omega) | omega, by go_simp⟩, ⟨by first | (simp; done) | (simp; omega) | omega, by go_simp⟩, ⟨by first | (simp; done) | (simp; omega) | omega, by go_simp⟩, ⟨by first | (simp; done) | (simp; omega) | omega, by go_simp⟩, trivial⟩ ?_
          repeat (first
            | go_big_quiet_skip
            | (go_big_quiet_want
               go_big_quiet_op
               first
               | go_big_quiet_on
               | (refine ⟨_, fun _ _ => rfl, ?_⟩; go_big_quiet_on)
               | (refine ⟨.agg #[.int .i64 (f.fractionBits : Int), .int .i64 (f.exponentBits : Int)], fun w' hw' => ?_, ?_⟩
                  · (obtain ⟨_, ⟨_, hc0⟩, ⟨_, hc1⟩, ⟨_, hc2⟩, ⟨_, hc3⟩, ⟨_, hc4⟩, _⟩ := hw'; go_simp; done)
                  go_big_quiet_on)
               | (refine ⟨.agg #[.int .u64 Hv, .int .u64 Lv, .bool false], fun w' hw' => ?_, ?_⟩
                  · (obtain ⟨_, ⟨_, hc0⟩, ⟨_, hc1⟩, ⟨_, hc2⟩, ⟨_, hc3⟩, ⟨_, hc4⟩, _⟩ := hw'; go_simp; done)
                  go_big_quiet_on)
               | (apply Exists.intro
                  refine ⟨fun w' hw' => ?_, ?_⟩
                  · (first
                  | (go_at_call 92; exact hw'.call (TM.out _))
                  | (go_at_call 79; exact hw'.call (RD3.out _)))
                  go_big_quiet_on)))
          refine wpQuiet_nil ?_
          rintro w8 ⟨g8, ⟨b8_0, c8_0⟩, ⟨b8_1, c8_1⟩, ⟨b8_2, c8_2⟩, ⟨b8_3, c8_3⟩, ⟨b8_4, c8_4⟩, _⟩
          have n8_0 : w2.heap.size < w8.heap.size := Nat.lt_of_lt_of_le b8_0 g8.2
          have n8_3 : w.heap.size < w8.heap.size := Nat.lt_of_lt_of_le b8_3 g8.2
          go_wp2
          go_ret
          go_light
          refine ⟨by first | rfl | simp, ?_⟩
          exact GR.out.trans g8
        · have q3 : (Hv == H3) = false := beq_eq_false_iff_ne.2 e3
          clear h3 u3 hVf hve
          have RD3 : CG 79 #[.agg #[.int .i64 (f.fractionBits : Int), .int .i64 (f.exponentBits : Int)], .bool false, .agg #[.int .u64 0, .int .u64 (r : Int), .bool true], .int .i64 E2] (.int .u64 R) := RD2
          clear RD2 RD
          go_wp2_with fail
          refine wp_region_ck [(w2.heap.size, 0, .int .u64 Hv), (w2.heap.size, 1, .int .u64 Lv), (w2.heap.size, 2, .bool false), (w.heap.size, 0, .int .i64 (f.fractionBits : Int)), (w.heap.size, 1, .int .i64 (f.exponentBits : Int))] (by kernel_rfl) (by kernel_rfl) ⟨⟨by first | (simp; done) | (simp; omega) | omega, by go_simp⟩, ⟨by first | (simp; done) | (simp; omega) | omega, by go_simp⟩, ⟨by first | (simp; done) | (simp; omega) | omega, by go_simp⟩, ⟨by first | (simp; done) | (simp; omega) | omega, by go_simp⟩, ⟨by first | (simp; done) | (simp; omega) | omega, by go_simp⟩, trivial⟩ ?_
          repeat (first
            | go_big_quiet_skip
            | (go_big_quiet_want
               go_big_quiet_op
               first
               | go_big_quiet_on
               | (refine ⟨_, fun _ _ => rfl, ?_⟩; go_big_quiet_on)
               | (refine ⟨.agg #[.int .i64 (f.fractionBits : Int), .int .i64 (f.exponentBits : Int)], fun w' hw' => ?_, ?_⟩
                  · (obtain ⟨_, ⟨_, hc0⟩, ⟨_, hc1⟩, ⟨_, hc2⟩, ⟨_, hc3⟩, ⟨_, hc4⟩, _⟩ := hw'; go_simp; done)
                  go_big_quiet_on)
               | (refine ⟨.agg #[.int .u64 Hv, .int .u64 Lv, .bool false], fun w' hw' => ?_, ?_⟩
                  · (obtain ⟨_, ⟨_, hc0⟩, ⟨_, hc1⟩, ⟨_, hc2⟩, ⟨_, hc3⟩, ⟨_, hc4⟩, _⟩ := hw'; go_simp; done)
                  go_big_quiet_on)
               | (apply Exists.intro
                  refine ⟨fun w' hw' => ?_, ?_⟩
                  · (first
                  | (go_at_call 92; exact hw'.call (TM.out _))
                  | (go_at_call 79; exact hw'.call (RD3.out _)))
                  go_big_quiet_on)))
          refine wpQuiet_nil ?_
          rintro w8 ⟨g8, ⟨b8_0, c8_0⟩, ⟨b8_1, c8_1⟩, ⟨b8_2, c8_2⟩, ⟨b8_3, c8_3⟩, ⟨b8_4, c8_4⟩, _⟩
          have n8_0 : w2.heap.size < w8.heap.size := Nat.lt_of_lt_of_le b8_0 g8.2
          have n8_3 : w.heap.size < w8.heap.size := Nat.lt_of_lt_of_le b8_3 g8.2
          go_wp2
          go_ret
          go_light
          refine ⟨by first | rfl | simp, ?_⟩
          exact GR.out.trans g8
    | succ j =>
      have hi := hin.out
      have ej : (((j + 1 : Nat) : Int) - 1) = (j : Int) := by omega
      rw [ej]
      have hpow : 2 ^ (j + 1) = 2 ^ j + 2 ^ j := by rw [Nat.pow_succ]; omega
      obtain ⟨t, ht⟩ : ∃ t, t = r + 2 ^ j := ⟨_, rfl⟩
      have ht64 : t < 18446744073709551616 := by have := Nat.two_pow_pos j; omega
      have eT : (r : Int) + 1 * 2 ^ j = (t : Int) := by rw [ht]; push_cast; omega
      have eT2 : (r : Int) + 2 ^ j = (t : Int) := by rw [ht]; push_cast; omega
      have hj64 : (2 : Int) ^ j < 18446744073709551616 := by
        have h1 : 2 ^ j < 18446744073709551616 := by omega
        have h2 : ((2 ^ j : Nat) : Int) = (2 : Int) ^ j := by push_cast; rfl
        omega
      obtain ⟨H3, L3, h3, u3⟩ := wv_two (t * t)
      have htt : t * t < 340282366920938463463374607431768211456 := Nat.lt_of_lt_of_le (Nat.mul_lt_mul'' ht64 ht64) (by decide)
      have TM : CG 92 #[.int .u64 (t : Int), .int .u64 (t : Int)] (.agg #[.int .u64 H3, .int .u64 L3, .bool false]) := fun w => by
        have h := times_any t t ht64 ht64 w
        rw [h3] at h
        exact h
      have LS : CG 91 #[.agg #[.int .u64 Hv, .int .u64 Lv, .bool false], .agg #[.int .u64 H3, .int .u64 L3, .bool false]] (.bool (decide (V < t * t))) := fun w => by
        have h := less_any V (t * t) false false hV1.out htt w
        rw [h3, hV.out] at h
        exact h
      have wj : IntKind.u64.wrap ((2 : Int) ^ j) = 2 ^ j := by
        have h1 : 2 ^ j < 18446744073709551616 := by omega
        have h2 : (2 : Int) ^ j = ((2 ^ j : Nat) : Int) := by push_cast; rfl
        rw [h2]
        generalize 2 ^ j = P at h1 ⊢
        rw [IntKind.wrap_u64]
        omega
      have wt : IntKind.u64.wrap ((r : Int) + 2 ^ j) = (t : Int) := by rw [eT2, IntKind.wrap_u64]; omega
      have wd : IntKind.i64.wrap ((j : Int) - 1) = (j : Int) - 1 := by rw [IntKind.wrap_i64]; omega
      clear eT eT2 hj64 htt u3 h3
      by_cases hlt : V < t * t
      · have HI : Hid (r * r ≤ V ∧ V < (r + 2 ^ j) * (r + 2 ^ j) ∧ r + 2 ^ j ≤ 18446744073709551616) := ⟨hi.1, by rw [← ht]; exact hlt, by omega⟩
        rw [decide_eq_true hlt] at LS
        clear hi hin hpow ht hlt
        have LS2 : CG 91 #[.agg #[.int .u64 Hv, .int .u64 Lv, .bool false], .agg #[.int .u64 H3, .int .u64 L3, .bool false]] (.bool true) := LS
        clear LS RD
        go_wp2_with fail
        refine wp_region_ck [(w2.heap.size, 0, .int .u64 Hv), (w2.heap.size, 1, .int .u64 Lv), (w2.heap.size, 2, .bool false), (w.heap.size, 0, .int .i64 (f.fractionBits : Int)), (w.heap.size, 1, .int .i64 (f.exponentBits : Int))] (by kernel_rfl) (by kernel_rfl) ⟨⟨by first | (simp; done) | (simp; omega) | omega, by go_simp⟩, ⟨by first | (simp; done) | (simp; omega) | omega, by go_simp⟩, ⟨by first | (simp; done) | (simp; omega) | omega, by go_simp⟩, ⟨by first | (simp; done) | (simp; omega) | omega, by go_simp⟩, ⟨by first | (simp; done) | (simp; omega) | omega, by go_simp⟩, trivial⟩ ?_
        repeat (first
          | go_big_quiet_skip
          | (go_big_quiet_want
             go_big_quiet_op
             first
             | go_big_quiet_on
             | (refine ⟨_, fun _ _ => rfl, ?_⟩; go_big_quiet_on)
             | (refine ⟨.agg #[.int .u64 Hv, .int .u64 Lv, .bool false], fun w' hw' => ?_, ?_⟩
                · (obtain ⟨_, ⟨_, hc0⟩, ⟨_, hc1⟩, ⟨_, hc2⟩, ⟨_, hc3⟩, ⟨_, hc4⟩, _⟩ := hw'; go_simp; done)
                go_big_quiet_on)
             | (apply Exists.intro
                refine ⟨fun w' hw' => ?_, ?_⟩
                · (first
                | (go_at_call 92; exact hw'.call (TM.out _))
                | (go_at_call 91; exact hw'.call (LS2.out _)))
                go_big_quiet_on)))
        refine wpQuiet_nil ?_
        rintro w8 ⟨g8, ⟨b8_0, c8_0⟩, ⟨b8_1, c8_1⟩, ⟨b8_2, c8_2⟩, ⟨b8_3, c8_3⟩, ⟨b8_4, c8_4⟩, _⟩
        have n8_0 : w2.heap.size < w8.heap.size := Nat.lt_of_lt_of_le b8_0 g8.2
        have n8_3 : w.heap.size < w8.heap.size := Nat.lt_of_lt_of_le b8_3 g8.2
        go_wp2
        go_roundw
        case rel =>
          refine ⟨j, r, by first | rfl | simp, by first | rfl | (simp; done) | (simp; omega), by omega, HI, by assumption, by assumption, by assumption, by assumption, by assumption, by assumption, GR.out.trans g8⟩
        case measure => first | (simp [intOf]; done) | (simp [intOf]; omega)
      · have HI : Hid (t * t ≤ V ∧ V < (t + 2 ^ j) * (t + 2 ^ j) ∧ t + 2 ^ j ≤ 18446744073709551616) := ⟨by omega, by rw [ht, Nat.add_assoc, ← hpow]; exact hi.2.1, by omega⟩
        rw [decide_eq_false hlt] at LS
        clear hi hin hpow ht hlt
        have LS2 : CG 91 #[.agg #[.int .u64 Hv, .int .u64 Lv, .bool false], .agg #[.int .u64 H3, .int .u64 L3, .bool false]] (.bool false) := LS
        clear LS RD
        go_wp2_with fail
        refine wp_region_ck [(w2.heap.size, 0, .int .u64 Hv), (w2.heap.size, 1, .int .u64 Lv), (w2.heap.size, 2, .bool false), (w.heap.size, 0, .int .i64 (f.fractionBits : Int)), (w.heap.size, 1, .int .i64 (f.exponentBits : Int))] (by kernel_rfl) (by kernel_rfl) ⟨⟨by first | (simp; done) | (simp; omega) | omega, by go_simp⟩, ⟨by first | (simp; done) | (simp; omega) | omega, by go_simp⟩, ⟨by first | (simp; done) | (simp; omega) | omega, by go_simp⟩, ⟨by first | (simp; done) | (simp; omega) | omega, by go_simp⟩, ⟨by first | (simp; done) | (simp; omega) | omega, by go_simp⟩, trivial⟩ ?_
        repeat (first
          | go_big_quiet_skip
          | (go_big_quiet_want
             go_big_quiet_op
             first
             | go_big_quiet_on
             | (refine ⟨_, fun _ _ => rfl, ?_⟩; go_big_quiet_on)
             | (refine ⟨.agg #[.int .u64 Hv, .int .u64 Lv, .bool false], fun w' hw' => ?_, ?_⟩
                · (obtain ⟨_, ⟨_, hc0⟩, ⟨_, hc1⟩, ⟨_, hc2⟩, ⟨_, hc3⟩, ⟨_, hc4⟩, _⟩ := hw'; go_simp; done)
                go_big_quiet_on)
             | (apply Exists.intro
                refine ⟨fun w' hw' => ?_, ?_⟩
                · (first
                | (go_at_call 92; exact hw'.call (TM.out _))
                | (go_at_call 91; exact hw'.call (LS2.out _)))
                go_big_quiet_on)))
        refine wpQuiet_nil ?_
        rintro w8 ⟨g8, ⟨b8_0, c8_0⟩, ⟨b8_1, c8_1⟩, ⟨b8_2, c8_2⟩, ⟨b8_3, c8_3⟩, ⟨b8_4, c8_4⟩, _⟩
        have n8_0 : w2.heap.size < w8.heap.size := Nat.lt_of_lt_of_le b8_0 g8.2
        have n8_3 : w.heap.size < w8.heap.size := Nat.lt_of_lt_of_le b8_3 g8.2
        go_wp2
        go_roundw
        case rel =>
          refine ⟨j, t, by first | rfl | simp, by first | rfl | (simp; done) | (simp; omega), by omega, HI, by assumption, by assumption, by assumption, by assumption, by assumption, by assumption, GR.out.trans g8⟩
        case measure => first | (simp [intOf]; done) | (simp [intOf]; omega)
end Go.Proofs.YtjkebimmddlccaaDoor
