/-
  The walks of left and right; no statement is proved here.
-/
import Derived.Test.YtjkebimmddlccaaDoorWideA
namespace Go.Proofs.YtjkebimmddlccaaDoor
open Go.RowKit
set_option linter.unusedVariables false
set_option linter.unusedSimpArgs false

/- A wide number's halves. -/
def Wd (W H L : Nat) : Prop := L < 18446744073709551616 ∧ H < 18446744073709551616 ∧ W = H * 18446744073709551616 + L
theorem Wd.wv {W H L : Nat} (h : Wd W H L) (m : Bool) : wv W m = .agg #[.int .u64 (H : Int), .int .u64 (L : Int), .bool m] := by
  obtain ⟨h0, h1, h2⟩ := h
  unfold YtjkebimmddlccaaDoor.wv
  rw [show W / 18446744073709551616 = H from by omega, show W % 18446744073709551616 = L from by omega]
theorem Wd.of {W : Nat} (h : W < 340282366920938463463374607431768211456) : Wd W (W / 18446744073709551616) (W % 18446744073709551616) := ⟨by omega, by omega, by omega⟩
/- A wide number's cells in a block of the call's own. -/
def WC (w : World) (b H L : Nat) (m : Bool) : Prop := w.cell? ⟨b, 0, none⟩ = some (.int .u64 (H : Int)) ∧ w.cell? ⟨b, 1, none⟩ = some (.int .u64 (L : Int)) ∧ w.cell? ⟨b, 2, none⟩ = some (.bool m) ∧
  w.frozen? ⟨b, 0, none⟩ = false ∧ w.frozen? ⟨b, 1, none⟩ = false ∧ w.frozen? ⟨b, 2, none⟩ = false
set_option maxRecDepth 100000 in
set_option maxHeartbeats 2000000 in
theorem left_w (W n H L : Nat) (m : Bool) (hd : Wd W H L) (hW : W * 2 ^ n < 340282366920938463463374607431768211456) (hn : n ≤ 200) (w : World) :
    Calls Tryd.prog 89 #[.agg #[.int .u64 (H : Int), .int .u64 (L : Int), .bool m], .int .i64 (n : Int)] w fun e w' => e = .returned (wv (W * 2 ^ n) m) ∧ Grew w w' := by
  have HD : Hid (Wd W H L) := hd
  have HW : Hid (W * 2 ^ n < 340282366920938463463374607431768211456) := hW
  clear hd hW
  go_enter Tryd.func89, Tryd.ntmps89
  go_wp2_with fail
  go_loopw [5] (fun i_ wr => ∃ k H' L' : Nat, i_ = .int .i64 (k : Int) ∧ k ≤ n ∧ Wd (W * 2 ^ k) H' L' ∧ WC wr w.heap.size H' L' m ∧ WC wr (w.heap.size + 1) 0 0 false ∧ Grew w wr) (fun i_ _ => n - (intOf i_).toNat)
  case atStart =>
    refine ⟨0, H, L, rfl, by omega, by rw [Nat.pow_zero, Nat.mul_one]; exact HD.out, ?_, ?_, ((Grew.refl _).alloc _).alloc _⟩ <;> (unfold WC; go_simp)
  case round =>
    obtain ⟨k, H', L', rfl, hk, hd, ⟨c0, c1, c2, z0, z1, z2⟩, ⟨d0, d1, d2, y0, y1, y2⟩, gr⟩ := hrel
    have GR : Hid (Grew w wr) := gr
    clear gr
    by_cases hlt : k < n
    · have hb : W * 2 ^ k * 2 < 340282366920938463463374607431768211456 := by
        have h1 : 2 ^ (k + 1) ≤ 2 ^ n := Nat.pow_le_pow_right (by decide) hlt
        rw [Nat.mul_assoc, ← Nat.pow_succ]
        exact Nat.lt_of_le_of_lt (Nat.mul_le_mul_left W h1) HW.out
      have hL := hd.1
      have hH : H' < 9223372036854775808 := by have := hd.2.2; omega
      have ND : Hid (Wd (W * 2 ^ (k + 1)) (H' * 2 + L' / 9223372036854775808) (L' * 2 % 18446744073709551616)) := by
        obtain ⟨_, _, h2⟩ := hd
        rw [Nat.pow_succ, ← Nat.mul_assoc]
        generalize W * 2 ^ k = X at *
        exact ⟨by omega, by omega, by omega⟩
      have wl : IntKind.u64.wrap ((L' : Int) * 2) = ((L' * 2 % 18446744073709551616 : Nat) : Int) := by rw [IntKind.wrap_u64]; omega
      have e1 : ((H' * 2 + L' / 9223372036854775808 : Nat) : Int) = (H' : Int) * 2 + (L' : Int) / 9223372036854775808 := by omega
      have e2 : ((L' * 2 % 18446744073709551616 : Nat) : Int) = (L' : Int) * 2 % 18446744073709551616 := by omega
      clear hb hd
      go_wp2
      refine ⟨⟨k + 1, _, _, by simp, by omega, ND.out, ?_, ?_, ?_⟩, by simp [intOf]; omega⟩
      · unfold WC; rw [e1, e2]; go_simp
      · unfold WC; go_simp
      repeat (first | exact Grew.refl _ | refine Grew.drew ?_ | refine Grew.drewN ?_ _ | refine Grew.alloc ?_ _ | refine Grew.set ?_ (by first | (simp; done) | (simp; omega) | omega) _ | exact GR.out)
    · have hkn : k = n := by omega
      have E : Hid (wv (W * 2 ^ n) m = .agg #[.int .u64 (H' : Int), .int .u64 (L' : Int), .bool m]) := by rw [← hkn]; exact hd.wv m
      clear hd
      go_wp2
      have f0 : ((((wr).setCell ⟨w.heap.size + 1, 0, none⟩ (.int .u64 (H' : Int))).setCell ⟨w.heap.size + 1, 1, none⟩ (.int .u64 (L' : Int))).setCell ⟨w.heap.size + 1, 2, none⟩ (.bool m)).cell? ⟨w.heap.size + 1, 0, none⟩ = some (.int .u64 (H' : Int)) := by go_simp
      have f1 : ((((wr).setCell ⟨w.heap.size + 1, 0, none⟩ (.int .u64 (H' : Int))).setCell ⟨w.heap.size + 1, 1, none⟩ (.int .u64 (L' : Int))).setCell ⟨w.heap.size + 1, 2, none⟩ (.bool m)).cell? ⟨w.heap.size + 1, 1, none⟩ = some (.int .u64 (L' : Int)) := by go_simp
      have f2 : ((((wr).setCell ⟨w.heap.size + 1, 0, none⟩ (.int .u64 (H' : Int))).setCell ⟨w.heap.size + 1, 1, none⟩ (.int .u64 (L' : Int))).setCell ⟨w.heap.size + 1, 2, none⟩ (.bool m)).cell? ⟨w.heap.size + 1, 2, none⟩ = some (.bool m) := by go_simp
      refine bodyPost_ret (v := .agg #[.int .u64 (H' : Int), .int .u64 (L' : Int), .bool m]) (by simp [results, Tryd.results89, go_sem, f0, f1, f2]) rfl ?_
      refine ⟨by rw [E.out], ?_⟩
      repeat (first | exact Grew.refl _ | refine Grew.drew ?_ | refine Grew.drewN ?_ _ | refine Grew.alloc ?_ _ | refine Grew.set ?_ (by first | (simp; done) | (simp; omega) | omega) _ | exact GR.out)
theorem right_step (W k H L : Nat) (h : Wd (W / 2 ^ k) H L) : Wd (W / 2 ^ (k + 1)) (H / 2) (L / 2 + H % 2 * 9223372036854775808) := by
  obtain ⟨h0, h1, h2⟩ := h
  rw [← half_div]
  generalize W / 2 ^ k = X at *
  exact ⟨by omega, by omega, by omega⟩
theorem more_step (W k L H : Nat) (m : Bool) (h : Wd (W / 2 ^ k) H L) : (m || decide (W % 2 ^ (k + 1) ≠ 0)) = ((m || decide (W % 2 ^ k ≠ 0)) || decide (L % 2 = 1)) := by
  obtain ⟨h0, h1, h2⟩ := h
  have e : W % 2 ^ (k + 1) = W % 2 ^ k + 2 ^ k * (W / 2 ^ k % 2) := by rw [Nat.pow_succ, Nat.mod_mul]
  have p : W / 2 ^ k % 2 = L % 2 := by rw [h2]; omega
  have g := Nat.two_pow_pos k
  rw [e, p, Bool.or_assoc, ← Bool.decide_or]
  congr 1
  rw [decide_eq_decide]
  have : L % 2 = 0 ∨ L % 2 = 1 := by omega
  rcases this with q | q
  · rw [q]; simp
  · rw [q]; simp
theorem more_end (W k N : Nat) (h : W / 2 ^ k = 0) (hk : k ≤ N) : W / 2 ^ N = 0 ∧ decide (W % 2 ^ N ≠ 0) = decide (W % 2 ^ k ≠ 0) := by
  have l1 : W < 2 ^ k := by
    rcases Nat.lt_or_ge W (2 ^ k) with h1 | h1
    · exact h1
    · have := (Nat.le_div_iff_mul_le (Nat.two_pow_pos k)).2 (by rw [Nat.one_mul]; exact h1 : 1 * 2 ^ k ≤ W)
      omega
  have l2 : W < 2 ^ N := Nat.lt_of_lt_of_le l1 (Nat.pow_le_pow_right (by decide) hk)
  rw [Nat.mod_eq_of_lt l1, Nat.mod_eq_of_lt l2]
  exact ⟨Nat.div_eq_of_lt l2, rfl⟩
set_option maxRecDepth 100000 in
set_option maxHeartbeats 2000000 in
theorem right_w (W H L : Nat) (n : Int) (m : Bool) (hd : Wd W H L) (n0 : -5000 ≤ n) (n1 : n ≤ 5000) (w : World) :
    Calls Tryd.prog 93 #[.agg #[.int .u64 (H : Int), .int .u64 (L : Int), .bool m], .int .i64 n] w fun e w' => e = .returned (wv (W / 2 ^ n.toNat) (m || decide (W % 2 ^ n.toNat ≠ 0))) ∧ Grew w w' := by
  have HD : Hid (Wd W H L) := hd
  clear hd
  obtain ⟨R, hR⟩ : ∃ R, R = wv (W / 2 ^ n.toNat) (m || decide (W % 2 ^ n.toNat ≠ 0)) := ⟨_, rfl⟩
  rw [← hR]
  have HR : Hid (R = wv (W / 2 ^ n.toNat) (m || decide (W % 2 ^ n.toNat ≠ 0))) := hR
  clear hR
  go_enter Tryd.func93, Tryd.ntmps93
  go_wp2_with fail
  go_loopw [5] (fun i_ wr => ∃ (k H' L' : Nat) (M' : Bool), i_ = .int .i64 (k : Int) ∧ k ≤ n.toNat ∧ Wd (W / 2 ^ k) H' L' ∧ M' = (m || decide (W % 2 ^ k ≠ 0)) ∧ WC wr w.heap.size H' L' M' ∧ WC wr (w.heap.size + 1) 0 0 false ∧ Grew w wr) (fun i_ _ => n.toNat - (intOf i_).toNat)
  case atStart =>
    refine ⟨0, H, L, m, rfl, by omega, by rw [Nat.pow_zero, Nat.div_one]; exact HD.out, by simp [Nat.mod_one], ?_, ?_, ((Grew.refl _).alloc _).alloc _⟩ <;> (unfold WC; go_simp)
  case round =>
    obtain ⟨k, H', L', M', rfl, hk, hd, hM, ⟨c0, c1, c2, z0, z1, z2⟩, ⟨d0, d1, d2, y0, y1, y2⟩, gr⟩ := hrel
    have GR : Hid (Grew w wr) := gr
    have HM : Hid (M' = (m || decide (W % 2 ^ k ≠ 0))) := hM
    clear gr hM
    by_cases hlt : k < n.toNat
    · have hlt' : (k : Int) < n := by omega
      by_cases hz : H' = 0 ∧ L' = 0
      · have E : Hid (R = .agg #[.int .u64 0, .int .u64 0, .bool M']) := by
          show _ = _
          have hx : W / 2 ^ k = 0 := by rw [hd.2.2, hz.1, hz.2]
          obtain ⟨q1, q2⟩ := more_end W k n.toNat hx (by omega)
          rw [HR.out, q2, ← HM.out, q1, ← hx, hd.wv M', hz.1, hz.2]
          rfl
        obtain ⟨rfl, rfl⟩ := hz
        clear hd hlt
        go_wp2
        have f0 : ((((wr).setCell ⟨w.heap.size + 1, 0, none⟩ (.int .u64 0)).setCell ⟨w.heap.size + 1, 1, none⟩ (.int .u64 0)).setCell ⟨w.heap.size + 1, 2, none⟩ (.bool M')).cell? ⟨w.heap.size + 1, 0, none⟩ = some (.int .u64 0) := by go_simp
        have f1 : ((((wr).setCell ⟨w.heap.size + 1, 0, none⟩ (.int .u64 0)).setCell ⟨w.heap.size + 1, 1, none⟩ (.int .u64 0)).setCell ⟨w.heap.size + 1, 2, none⟩ (.bool M')).cell? ⟨w.heap.size + 1, 1, none⟩ = some (.int .u64 0) := by go_simp
        have f2 : ((((wr).setCell ⟨w.heap.size + 1, 0, none⟩ (.int .u64 0)).setCell ⟨w.heap.size + 1, 1, none⟩ (.int .u64 0)).setCell ⟨w.heap.size + 1, 2, none⟩ (.bool M')).cell? ⟨w.heap.size + 1, 2, none⟩ = some (.bool M') := by go_simp
        refine bodyPost_ret (v := .agg #[.int .u64 0, .int .u64 0, .bool M']) (by simp [results, Tryd.results93, go_sem, f0, f1, f2]) rfl ?_
        refine ⟨by rw [E.out], ?_⟩
        repeat (first | exact Grew.refl _ | refine Grew.drew ?_ | refine Grew.drewN ?_ _ | refine Grew.alloc ?_ _ | refine Grew.set ?_ (by first | (simp; done) | (simp; omega) | omega) _ | exact GR.out)
      · have hL := hd.1
        have hH := hd.2.1
        have ND : Hid (Wd (W / 2 ^ (k + 1)) (H' / 2) (L' / 2 + H' % 2 * 9223372036854775808)) := right_step W k H' L' hd
        have hms := more_step W k L' H' m hd
        rw [← HM.out] at hms
        have e1 : ((H' / 2 : Nat) : Int) = (H' : Int) / 2 := by omega
        have e2 : ((L' / 2 + H' % 2 * 9223372036854775808 : Nat) : Int) = (L' : Int) / 2 + (H' : Int) % 2 * 9223372036854775808 := by omega
        have wl : IntKind.u64.wrap ((H' : Int) * 9223372036854775808) = (H' : Int) % 2 * 9223372036854775808 := by rw [IntKind.wrap_u64]; omega
        have ws : IntKind.u64.wrap ((L' : Int) / 2 + (H' : Int) % 2 * 9223372036854775808) = (L' : Int) / 2 + (H' : Int) % 2 * 9223372036854775808 := by rw [IntKind.wrap_u64]; omega
        have ba := and_1 L' hL
        have hz' : (0 < (H' : Int)) ∨ (¬ 0 < (H' : Int)) ∧ 0 < (L' : Int) := by omega
        clear hd hz
        by_cases hp : L' % 2 = 1
        · have bp : (bits .and .u64 (L' : Int) 1 == 1) = true := by rw [ba, hp]; rfl
          have NM : Hid (true = (m || decide (W % 2 ^ (k + 1) ≠ 0))) := by show _ = _; rw [hms, hp]; simp
          clear ba hms
          cases M' <;> rcases hz' with hz' | ⟨hz', hz2⟩
          · go_wp2
            refine ⟨⟨k + 1, _, _, true, by simp, by omega, ND.out, NM.out, ?_, ?_, ?_⟩, by simp [intOf]; omega⟩
            · unfold WC; rw [e1, e2]; go_simp
            · unfold WC; go_simp
            repeat (first | exact Grew.refl _ | refine Grew.drew ?_ | refine Grew.drewN ?_ _ | refine Grew.alloc ?_ _ | refine Grew.set ?_ (by first | (simp; done) | (simp; omega) | omega) _ | exact GR.out)
          · go_wp2
            refine ⟨⟨k + 1, _, _, true, by simp, by omega, ND.out, NM.out, ?_, ?_, ?_⟩, by simp [intOf]; omega⟩
            · unfold WC; rw [e1, e2]; go_simp
            · unfold WC; go_simp
            repeat (first | exact Grew.refl _ | refine Grew.drew ?_ | refine Grew.drewN ?_ _ | refine Grew.alloc ?_ _ | refine Grew.set ?_ (by first | (simp; done) | (simp; omega) | omega) _ | exact GR.out)
          · go_wp2
            refine ⟨⟨k + 1, _, _, true, by simp, by omega, ND.out, NM.out, ?_, ?_, ?_⟩, by simp [intOf]; omega⟩
            · unfold WC; rw [e1, e2]; go_simp
            · unfold WC; go_simp
            repeat (first | exact Grew.refl _ | refine Grew.drew ?_ | refine Grew.drewN ?_ _ | refine Grew.alloc ?_ _ | refine Grew.set ?_ (by first | (simp; done) | (simp; omega) | omega) _ | exact GR.out)
          · go_wp2
            refine ⟨⟨k + 1, _, _, true, by simp, by omega, ND.out, NM.out, ?_, ?_, ?_⟩, by simp [intOf]; omega⟩
            · unfold WC; rw [e1, e2]; go_simp
            · unfold WC; go_simp
            repeat (first | exact Grew.refl _ | refine Grew.drew ?_ | refine Grew.drewN ?_ _ | refine Grew.alloc ?_ _ | refine Grew.set ?_ (by first | (simp; done) | (simp; omega) | omega) _ | exact GR.out)
        · have hp0 : L' % 2 = 0 := by omega
          have bp : (bits .and .u64 (L' : Int) 1 == 1) = false := by rw [ba, hp0]; rfl
          have NM : Hid (M' = (m || decide (W % 2 ^ (k + 1) ≠ 0))) := by show _ = _; rw [hms]; simp [hp]
          clear ba hms
          cases M' <;> rcases hz' with hz' | ⟨hz', hz2⟩
          · go_wp2
            refine ⟨⟨k + 1, _, _, _, by simp, by omega, ND.out, NM.out, ?_, ?_, ?_⟩, by simp [intOf]; omega⟩
            · unfold WC; rw [e1, e2]; go_simp
            · unfold WC; go_simp
            repeat (first | exact Grew.refl _ | refine Grew.drew ?_ | refine Grew.drewN ?_ _ | refine Grew.alloc ?_ _ | refine Grew.set ?_ (by first | (simp; done) | (simp; omega) | omega) _ | exact GR.out)
          · go_wp2
            refine ⟨⟨k + 1, _, _, _, by simp, by omega, ND.out, NM.out, ?_, ?_, ?_⟩, by simp [intOf]; omega⟩
            · unfold WC; rw [e1, e2]; go_simp
            · unfold WC; go_simp
            repeat (first | exact Grew.refl _ | refine Grew.drew ?_ | refine Grew.drewN ?_ _ | refine Grew.alloc ?_ _ | refine Grew.set ?_ (by first | (simp; done) | (simp; omega) | omega) _ | exact GR.out)
          · go_wp2
            refine ⟨⟨k + 1, _, _, _, by simp, by omega, ND.out, NM.out, ?_, ?_, ?_⟩, by simp [intOf]; omega⟩
            · unfold WC; rw [e1, e2]; go_simp
            · unfold WC; go_simp
            repeat (first | exact Grew.refl _ | refine Grew.drew ?_ | refine Grew.drewN ?_ _ | refine Grew.alloc ?_ _ | refine Grew.set ?_ (by first | (simp; done) | (simp; omega) | omega) _ | exact GR.out)
          · go_wp2
            refine ⟨⟨k + 1, _, _, _, by simp, by omega, ND.out, NM.out, ?_, ?_, ?_⟩, by simp [intOf]; omega⟩
            · unfold WC; rw [e1, e2]; go_simp
            · unfold WC; go_simp
            repeat (first | exact Grew.refl _ | refine Grew.drew ?_ | refine Grew.drewN ?_ _ | refine Grew.alloc ?_ _ | refine Grew.set ?_ (by first | (simp; done) | (simp; omega) | omega) _ | exact GR.out)
    · have hkn : k = n.toNat := by omega
      have hge : n ≤ (k : Int) := by omega
      have E : Hid (R = .agg #[.int .u64 (H' : Int), .int .u64 (L' : Int), .bool M']) := by show _ = _; rw [HR.out, ← hkn, ← HM.out]; exact hd.wv M'
      clear hd hlt hkn
      go_wp2
      have f0 : ((((wr).setCell ⟨w.heap.size + 1, 0, none⟩ (.int .u64 (H' : Int))).setCell ⟨w.heap.size + 1, 1, none⟩ (.int .u64 (L' : Int))).setCell ⟨w.heap.size + 1, 2, none⟩ (.bool M')).cell? ⟨w.heap.size + 1, 0, none⟩ = some (.int .u64 (H' : Int)) := by go_simp
      have f1 : ((((wr).setCell ⟨w.heap.size + 1, 0, none⟩ (.int .u64 (H' : Int))).setCell ⟨w.heap.size + 1, 1, none⟩ (.int .u64 (L' : Int))).setCell ⟨w.heap.size + 1, 2, none⟩ (.bool M')).cell? ⟨w.heap.size + 1, 1, none⟩ = some (.int .u64 (L' : Int)) := by go_simp
      have f2 : ((((wr).setCell ⟨w.heap.size + 1, 0, none⟩ (.int .u64 (H' : Int))).setCell ⟨w.heap.size + 1, 1, none⟩ (.int .u64 (L' : Int))).setCell ⟨w.heap.size + 1, 2, none⟩ (.bool M')).cell? ⟨w.heap.size + 1, 2, none⟩ = some (.bool M') := by go_simp
      refine bodyPost_ret (v := .agg #[.int .u64 (H' : Int), .int .u64 (L' : Int), .bool M']) (by simp [results, Tryd.results93, go_sem, f0, f1, f2]) rfl ?_
      refine ⟨by rw [E.out], ?_⟩
      repeat (first | exact Grew.refl _ | refine Grew.drew ?_ | refine Grew.drewN ?_ _ | refine Grew.alloc ?_ _ | refine Grew.set ?_ (by first | (simp; done) | (simp; omega) | omega) _ | exact GR.out)
theorem left_any (W n : Nat) (m : Bool) (hW : W * 2 ^ n < 340282366920938463463374607431768211456) (hn : n ≤ 200) (w : World) :
    Calls Tryd.prog 89 #[wv W m, .int .i64 (n : Int)] w fun e w' => e = .returned (wv (W * 2 ^ n) m) ∧ Grew w w' := by
  have hd : Wd W _ _ := Wd.of (Nat.lt_of_le_of_lt (Nat.le_mul_of_pos_right W (Nat.two_pow_pos n)) hW)
  rw [hd.wv]
  exact left_w W n _ _ m hd hW hn w
theorem right_any (W : Nat) (n : Int) (m : Bool) (hW : W < 340282366920938463463374607431768211456) (n0 : -5000 ≤ n) (n1 : n ≤ 5000) (w : World) :
    Calls Tryd.prog 93 #[wv W m, .int .i64 n] w fun e w' => e = .returned (wv (W / 2 ^ n.toNat) (m || decide (W % 2 ^ n.toNat ≠ 0))) ∧ Grew w w' := by
  have hd : Wd W _ _ := Wd.of hW
  rw [hd.wv]
  exact right_w W _ _ n m hd n0 n1 w
end Go.Proofs.YtjkebimmddlccaaDoor
