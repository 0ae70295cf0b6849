/-
  The walks of long, less, plus, minus and times; no statement is proved here.
-/
import Derived.Test.YtjkebimmddlccaaDoorWideB
namespace Go.Proofs.YtjkebimmddlccaaDoor
open Go.RowKit
set_option linter.unusedVariables false
set_option linter.unusedSimpArgs false

theorem long_hi {W H L : Nat} (h : Wd W H L) (hH : H ≠ 0) : bl W = 64 + bl H := by
  obtain ⟨h0, h1, h2⟩ := h
  have hW : W ≠ 0 := by omega
  have e : W / 2 ^ 64 = H := by rw [show (2 : Nat) ^ 64 = 18446744073709551616 from by decide]; omega
  have := log2_shift W 64 (by rw [e]; exact hH)
  unfold bl
  rw [if_neg hW, if_neg hH, this, e]
  omega
theorem long_lo {W H L : Nat} (h : Wd W H L) (hH : H = 0) : bl W = bl L := by
  obtain ⟨h0, h1, h2⟩ := h
  subst hH
  rw [show W = L from by omega]
set_option maxRecDepth 100000 in
set_option maxHeartbeats 2000000 in
theorem long_w (W H L : Nat) (m : Bool) (hd : Wd W H L) (w : World) :
    Calls Tryd.prog 97 #[Value.agg #[.int .u64 (H : Int), .int .u64 (L : Int), .bool m]] w fun e w' => e = .returned (.int .i64 (bl W : Int)) ∧ Grew w w' := by
  have B1' := fun w : World => bits_any H hd.2.1 w
  have B2' := fun w : World => bits_any L hd.1 w
  have b1 := bl_64 hd.2.1
  have b2 := bl_64 hd.1
  by_cases hH : H = 0
  · rw [long_lo hd hH]
    subst hH
    generalize bl L = l at *
    have B2 : Hid (∀ w : World, Calls Tryd.prog 90 #[.int .u64 (L : Int)] w fun e w' => e = .returned (.int .i64 (l : Int)) ∧ w' = w) := B2'
    clear B1' B2' hd
    go_enter Tryd.func97, Tryd.ntmps97
    go_wp2_with (go_at_call 90; refine (B2.out _).mono ?_; rintro e w' ⟨rfl, rfl⟩)
    go_ret
    go_light
    exact ⟨rfl, (Grew.refl _).alloc _⟩
  · rw [long_hi hd hH]
    generalize bl H = h at *
    have B1 : Hid (∀ w : World, Calls Tryd.prog 90 #[.int .u64 (H : Int)] w fun e w' => e = .returned (.int .i64 (h : Int)) ∧ w' = w) := B1'
    have hp : 0 < (H : Int) := by omega
    clear B1' B2' hd hH
    go_enter Tryd.func97, Tryd.ntmps97
    go_wp2_with (go_at_call 90; refine (B1.out _).mono ?_; rintro e w' ⟨rfl, rfl⟩)
    go_ret
    go_light
    exact ⟨by first | rfl | simp, (Grew.refl _).alloc _⟩
set_option maxRecDepth 100000 in
set_option maxHeartbeats 2000000 in
theorem less_w (W V H L G K : Nat) (m m' : Bool) (hd : Wd W H L) (hv : Wd V G K) (w : World) :
    Calls Tryd.prog 91 #[Value.agg #[.int .u64 (H : Int), .int .u64 (L : Int), .bool m], Value.agg #[.int .u64 (G : Int), .int .u64 (K : Int), .bool m']] w fun e w' => e = .returned (.bool (decide (W < V))) ∧ Grew w w' := by
  obtain ⟨a0, a1, a2⟩ := hd
  obtain ⟨b0, b1, b2⟩ := hv
  obtain ⟨R, hR⟩ : ∃ R, R = decide (W < V) := ⟨_, rfl⟩
  rw [← hR]
  rcases Nat.lt_trichotomy H G with h | h | h
  · have HR : Hid (R = true) := by show _ = _; rw [hR]; exact decide_eq_true (by omega)
    have c1 : (H : Int) < G := by omega
    clear hR a2 b2
    go_enter Tryd.func91, Tryd.ntmps91
    go_wp2
    go_ret
    go_light
    exact ⟨by rw [HR.out]; first | rfl | simp, ((Grew.refl _).alloc _).alloc _⟩
  · subst h
    by_cases hl : L < K
    · have HR : Hid (R = true) := by show _ = _; rw [hR]; exact decide_eq_true (by omega)
      have c1 : (L : Int) < K := by omega
      clear hR a2 b2
      go_enter Tryd.func91, Tryd.ntmps91
      go_wp2
      go_ret
      go_light
      exact ⟨by rw [HR.out]; first | rfl | simp, ((Grew.refl _).alloc _).alloc _⟩
    · have HR : Hid (R = false) := by show _ = _; rw [hR]; exact decide_eq_false (by omega)
      have c1 : ¬ (L : Int) < K := by omega
      clear hR a2 b2
      go_enter Tryd.func91, Tryd.ntmps91
      go_wp2
      go_ret
      go_light
      exact ⟨by rw [HR.out]; first | rfl | simp, ((Grew.refl _).alloc _).alloc _⟩
  · have HR : Hid (R = false) := by show _ = _; rw [hR]; exact decide_eq_false (by omega)
    have c1 : ¬ (H : Int) < G := by omega
    have c2 : ((H : Int) == G) = false := beq_eq_false_iff_ne.2 (by omega)
    clear hR a2 b2
    go_enter Tryd.func91, Tryd.ntmps91
    go_wp2
    go_ret
    go_light
    exact ⟨by rw [HR.out]; first | rfl | simp, ((Grew.refl _).alloc _).alloc _⟩
set_option maxRecDepth 100000 in
set_option maxHeartbeats 2000000 in
theorem plus_w (W V H L G K : Nat) (m m' : Bool) (hd : Wd W H L) (hv : Wd V G K) (hs : W + V < 340282366920938463463374607431768211456) (w : World) :
    Calls Tryd.prog 104 #[Value.agg #[.int .u64 (H : Int), .int .u64 (L : Int), .bool m], Value.agg #[.int .u64 (G : Int), .int .u64 (K : Int), .bool m']] w fun e w' => e = .returned (wv (W + V) (m || m')) ∧ Grew w w' := by
  obtain ⟨a0, a1, a2⟩ := hd
  obtain ⟨b0, b1, b2⟩ := hv
  obtain ⟨R, hR⟩ : ∃ R, R = wv (W + V) (m || m') := ⟨_, rfl⟩
  rw [← hR]
  by_cases hc : L + K < 18446744073709551616
  · have E : Hid (R = .agg #[.int .u64 ((H : Int) + G), .int .u64 ((L : Int) + K), .bool (m || m')]) := by
      show _ = _
      rw [hR, Wd.wv (H := H + G) (L := L + K) ⟨hc, by omega, by omega⟩]
      simp
    have hg : (H : Int) + G < 18446744073709551616 := by omega
    have c1 : ¬ ((L : Int) + K < L) := by omega
    clear hR a2 b2 hs
    cases m
    · have E := E
      go_enter Tryd.func104, Tryd.ntmps104
      go_wp2
      refine bodyPost_ret (v := .agg #[.int .u64 ((H : Int) + G), .int .u64 ((L : Int) + K), .bool m']) (by first | (simp [results, Tryd.results104, go_sem]; done) | (simp [results, Tryd.results104, go_sem]; rw [IntKind.wrap_u64]; decide)) rfl ⟨by rw [E.out]; first | rfl | simp, ?_⟩
      repeat (first | exact Grew.refl _ | refine Grew.drew ?_ | refine Grew.drewN ?_ _ | refine Grew.alloc ?_ _ | refine Grew.set ?_ (by first | (simp; done) | (simp; omega) | omega) _ | assumption)
    · have E := E
      go_enter Tryd.func104, Tryd.ntmps104
      go_wp2
      refine bodyPost_ret (v := .agg #[.int .u64 ((H : Int) + G), .int .u64 ((L : Int) + K), .bool true]) (by first | (simp [results, Tryd.results104, go_sem]; done) | (simp [results, Tryd.results104, go_sem]; rw [IntKind.wrap_u64]; decide)) rfl ⟨by rw [E.out]; first | rfl | simp, ?_⟩
      repeat (first | exact Grew.refl _ | refine Grew.drew ?_ | refine Grew.drewN ?_ _ | refine Grew.alloc ?_ _ | refine Grew.set ?_ (by first | (simp; done) | (simp; omega) | omega) _ | assumption)
  · have E : Hid (R = .agg #[.int .u64 ((H : Int) + G + 1), .int .u64 ((L : Int) + K - 18446744073709551616), .bool (m || m')]) := by
      show _ = _
      rw [hR, Wd.wv (H := H + G + 1) (L := L + K - 18446744073709551616) ⟨by omega, by omega, by omega⟩]
      rw [show ((L + K - 18446744073709551616 : Nat) : Int) = (L : Int) + K - 18446744073709551616 from by omega, show ((H + G + 1 : Nat) : Int) = (H : Int) + G + 1 from by omega]
    have hg : (H : Int) + G + 1 < 18446744073709551616 := by omega
    have wl : IntKind.u64.wrap ((L : Int) + K) = (L : Int) + K - 18446744073709551616 := by rw [IntKind.wrap_u64]; omega
    have c1 : (L : Int) + K - 18446744073709551616 < L := by omega
    clear hR a2 b2 hs
    cases m
    · have E := E
      go_enter Tryd.func104, Tryd.ntmps104
      go_wp2
      refine bodyPost_ret (v := .agg #[.int .u64 ((H : Int) + G + 1), .int .u64 ((L : Int) + K - 18446744073709551616), .bool m']) (by first | (simp [results, Tryd.results104, go_sem]; done) | (simp [results, Tryd.results104, go_sem]; rw [IntKind.wrap_u64]; decide)) rfl ⟨by rw [E.out]; first | rfl | simp, ?_⟩
      repeat (first | exact Grew.refl _ | refine Grew.drew ?_ | refine Grew.drewN ?_ _ | refine Grew.alloc ?_ _ | refine Grew.set ?_ (by first | (simp; done) | (simp; omega) | omega) _ | assumption)
    · have E := E
      go_enter Tryd.func104, Tryd.ntmps104
      go_wp2
      refine bodyPost_ret (v := .agg #[.int .u64 ((H : Int) + G + 1), .int .u64 ((L : Int) + K - 18446744073709551616), .bool true]) (by first | (simp [results, Tryd.results104, go_sem]; done) | (simp [results, Tryd.results104, go_sem]; rw [IntKind.wrap_u64]; decide)) rfl ⟨by rw [E.out]; first | rfl | simp, ?_⟩
      repeat (first | exact Grew.refl _ | refine Grew.drew ?_ | refine Grew.drewN ?_ _ | refine Grew.alloc ?_ _ | refine Grew.set ?_ (by first | (simp; done) | (simp; omega) | omega) _ | assumption)
set_option maxRecDepth 100000 in
set_option maxHeartbeats 2000000 in
theorem minus_f (W V H L G K : Nat) (m : Bool) (hd : Wd W H L) (hv : Wd V G K) (hs : V ≤ W) (w : World) :
    Calls Tryd.prog 105 #[Value.agg #[.int .u64 (H : Int), .int .u64 (L : Int), .bool m], Value.agg #[.int .u64 (G : Int), .int .u64 (K : Int), .bool false]] w fun e w' => e = .returned (wv (W - V) (m || false)) ∧ Grew w w' := by
  obtain ⟨a0, a1, a2⟩ := hd
  obtain ⟨b0, b1, b2⟩ := hv
  obtain ⟨R, hR⟩ : ∃ R, R = wv (W - V) (m || false) := ⟨_, rfl⟩
  rw [← hR]
  by_cases hc : K ≤ L
  · have E : Hid (R = .agg #[.int .u64 ((H : Int) - G), .int .u64 ((L : Int) - K), .bool (m || false)]) := by
      show _ = _
      rw [hR, Wd.wv (H := H - G) (L := L - K) ⟨by omega, by omega, by omega⟩]
      rw [show ((H - G : Nat) : Int) = (H : Int) - G from by omega, show ((L - K : Nat) : Int) = (L : Int) - K from by omega]
    have q1 : ¬ (L : Int) < K := by omega
    have q2 : (G : Int) ≤ H := by omega
    clear hR a2 b2 hs
    cases m
    · have E := E
      go_enter Tryd.func105, Tryd.ntmps105
      go_wp2
      refine bodyPost_ret (v := .agg #[.int .u64 ((H : Int) - G), .int .u64 ((L : Int) - K), .bool false]) (by first | (simp [results, Tryd.results105, go_sem]; done) | (simp [results, Tryd.results105, go_sem]; rw [IntKind.wrap_u64]; decide)) rfl ⟨by rw [E.out]; first | rfl | simp, ?_⟩
      repeat (first | exact Grew.refl _ | refine Grew.drew ?_ | refine Grew.drewN ?_ _ | refine Grew.alloc ?_ _ | refine Grew.set ?_ (by first | (simp; done) | (simp; omega) | omega) _ | assumption)
    · have E := E
      go_enter Tryd.func105, Tryd.ntmps105
      go_wp2
      refine bodyPost_ret (v := .agg #[.int .u64 ((H : Int) - G), .int .u64 ((L : Int) - K), .bool true]) (by first | (simp [results, Tryd.results105, go_sem]; done) | (simp [results, Tryd.results105, go_sem]; rw [IntKind.wrap_u64]; decide)) rfl ⟨by rw [E.out]; first | rfl | simp, ?_⟩
      repeat (first | exact Grew.refl _ | refine Grew.drew ?_ | refine Grew.drewN ?_ _ | refine Grew.alloc ?_ _ | refine Grew.set ?_ (by first | (simp; done) | (simp; omega) | omega) _ | assumption)
  · have E : Hid (R = .agg #[.int .u64 ((H : Int) - G - 1), .int .u64 ((L : Int) - K + 18446744073709551616), .bool (m || false)]) := by
      show _ = _
      rw [hR, Wd.wv (H := H - G - 1) (L := L + 18446744073709551616 - K) ⟨by omega, by omega, by omega⟩]
      rw [show ((H - G - 1 : Nat) : Int) = (H : Int) - G - 1 from by omega, show ((L + 18446744073709551616 - K : Nat) : Int) = (L : Int) - K + 18446744073709551616 from by omega]
    have wl : IntKind.u64.wrap ((L : Int) - K) = (L : Int) - K + 18446744073709551616 := by rw [IntKind.wrap_u64]; omega
    have q1 : (L : Int) < K := by omega
    have q2 : (G : Int) + 1 ≤ H := by omega
    clear hR a2 b2 hs
    cases m
    · have E := E
      go_enter Tryd.func105, Tryd.ntmps105
      go_wp2
      refine bodyPost_ret (v := .agg #[.int .u64 ((H : Int) - G - 1), .int .u64 ((L : Int) - K + 18446744073709551616), .bool false]) (by first | (simp [results, Tryd.results105, go_sem]; done) | (simp [results, Tryd.results105, go_sem]; rw [IntKind.wrap_u64]; decide)) rfl ⟨by rw [E.out]; first | rfl | simp, ?_⟩
      repeat (first | exact Grew.refl _ | refine Grew.drew ?_ | refine Grew.drewN ?_ _ | refine Grew.alloc ?_ _ | refine Grew.set ?_ (by first | (simp; done) | (simp; omega) | omega) _ | assumption)
    · have E := E
      go_enter Tryd.func105, Tryd.ntmps105
      go_wp2
      refine bodyPost_ret (v := .agg #[.int .u64 ((H : Int) - G - 1), .int .u64 ((L : Int) - K + 18446744073709551616), .bool true]) (by first | (simp [results, Tryd.results105, go_sem]; done) | (simp [results, Tryd.results105, go_sem]; rw [IntKind.wrap_u64]; decide)) rfl ⟨by rw [E.out]; first | rfl | simp, ?_⟩
      repeat (first | exact Grew.refl _ | refine Grew.drew ?_ | refine Grew.drewN ?_ _ | refine Grew.alloc ?_ _ | refine Grew.set ?_ (by first | (simp; done) | (simp; omega) | omega) _ | assumption)
set_option maxRecDepth 100000 in
set_option maxHeartbeats 2000000 in
theorem minus_t (W V H L G K : Nat) (m : Bool) (hd : Wd W H L) (hv : Wd V G K) (hs : V + 1 ≤ W) (w : World) :
    Calls Tryd.prog 105 #[Value.agg #[.int .u64 (H : Int), .int .u64 (L : Int), .bool m], Value.agg #[.int .u64 (G : Int), .int .u64 (K : Int), .bool true]] w fun e w' => e = .returned (wv (W - V - 1) (m || true)) ∧ Grew w w' := by
  obtain ⟨a0, a1, a2⟩ := hd
  obtain ⟨b0, b1, b2⟩ := hv
  obtain ⟨R, hR⟩ : ∃ R, R = wv (W - V - 1) (m || true) := ⟨_, rfl⟩
  rw [← hR]
  rcases Nat.lt_trichotomy K L with hc | hc | hc
  · have E : Hid (R = .agg #[.int .u64 ((H : Int) - G), .int .u64 ((L : Int) - K - 1), .bool (m || true)]) := by
      show _ = _
      rw [hR, Wd.wv (H := H - G) (L := L - K - 1) ⟨by omega, by omega, by omega⟩]
      rw [show ((H - G : Nat) : Int) = (H : Int) - G from by omega, show ((L - K - 1 : Nat) : Int) = (L : Int) - K - 1 from by omega]
    have q1 : ¬ (L : Int) < K := by omega
    have q2 : (G : Int) ≤ H := by omega
    have q3 : ((L : Int) - K == 0) = false := beq_eq_false_iff_ne.2 (by omega)
    clear hR a2 b2 hs
    cases m
    · have E := E
      go_enter Tryd.func105, Tryd.ntmps105
      go_wp2
      refine bodyPost_ret (v := .agg #[.int .u64 ((H : Int) - G), .int .u64 ((L : Int) - K - 1), .bool true]) (by first | (simp [results, Tryd.results105, go_sem]; done) | (simp [results, Tryd.results105, go_sem]; rw [IntKind.wrap_u64]; decide)) rfl ⟨by rw [E.out]; first | rfl | simp, ?_⟩
      repeat (first | exact Grew.refl _ | refine Grew.drew ?_ | refine Grew.drewN ?_ _ | refine Grew.alloc ?_ _ | refine Grew.set ?_ (by first | (simp; done) | (simp; omega) | omega) _ | assumption)
    · have E := E
      go_enter Tryd.func105, Tryd.ntmps105
      go_wp2
      refine bodyPost_ret (v := .agg #[.int .u64 ((H : Int) - G), .int .u64 ((L : Int) - K - 1), .bool true]) (by first | (simp [results, Tryd.results105, go_sem]; done) | (simp [results, Tryd.results105, go_sem]; rw [IntKind.wrap_u64]; decide)) rfl ⟨by rw [E.out]; first | rfl | simp, ?_⟩
      repeat (first | exact Grew.refl _ | refine Grew.drew ?_ | refine Grew.drewN ?_ _ | refine Grew.alloc ?_ _ | refine Grew.set ?_ (by first | (simp; done) | (simp; omega) | omega) _ | assumption)
  · have E : Hid (R = .agg #[.int .u64 ((H : Int) - G - 1), .int .u64 (18446744073709551615), .bool (m || true)]) := by
      show _ = _
      rw [hR, Wd.wv (H := H - G - 1) (L := 18446744073709551615) ⟨by omega, by omega, by omega⟩]
      rw [show ((H - G - 1 : Nat) : Int) = (H : Int) - G - 1 from by omega, show ((18446744073709551615 : Nat) : Int) = 18446744073709551615 from by omega]
    have q1 : ¬ (L : Int) < K := by omega
    have q2 : (G : Int) + 1 ≤ H := by omega
    have q3 : ((L : Int) - K == 0) = true := beq_iff_eq.2 (by omega)
    have q4 : IntKind.u64.wrap ((L : Int) - K - 1) = 18446744073709551615 := by rw [IntKind.wrap_u64]; omega
    clear hR a2 b2 hs
    cases m
    · have E := E
      go_enter Tryd.func105, Tryd.ntmps105
      go_wp2
      refine bodyPost_ret (v := .agg #[.int .u64 ((H : Int) - G - 1), .int .u64 (18446744073709551615), .bool true]) (by first | (simp [results, Tryd.results105, go_sem]; done) | (simp [results, Tryd.results105, go_sem]; rw [IntKind.wrap_u64]; decide)) rfl ⟨by rw [E.out]; first | rfl | simp, ?_⟩
      repeat (first | exact Grew.refl _ | refine Grew.drew ?_ | refine Grew.drewN ?_ _ | refine Grew.alloc ?_ _ | refine Grew.set ?_ (by first | (simp; done) | (simp; omega) | omega) _ | assumption)
    · have E := E
      go_enter Tryd.func105, Tryd.ntmps105
      go_wp2
      refine bodyPost_ret (v := .agg #[.int .u64 ((H : Int) - G - 1), .int .u64 (18446744073709551615), .bool true]) (by first | (simp [results, Tryd.results105, go_sem]; done) | (simp [results, Tryd.results105, go_sem]; rw [IntKind.wrap_u64]; decide)) rfl ⟨by rw [E.out]; first | rfl | simp, ?_⟩
      repeat (first | exact Grew.refl _ | refine Grew.drew ?_ | refine Grew.drewN ?_ _ | refine Grew.alloc ?_ _ | refine Grew.set ?_ (by first | (simp; done) | (simp; omega) | omega) _ | assumption)
  · have E : Hid (R = .agg #[.int .u64 ((H : Int) - G - 1), .int .u64 ((L : Int) - K + 18446744073709551616 - 1), .bool (m || true)]) := by
      show _ = _
      rw [hR, Wd.wv (H := H - G - 1) (L := L + 18446744073709551616 - K - 1) ⟨by omega, by omega, by omega⟩]
      rw [show ((H - G - 1 : Nat) : Int) = (H : Int) - G - 1 from by omega, show ((L + 18446744073709551616 - K - 1 : Nat) : Int) = (L : Int) - K + 18446744073709551616 - 1 from by omega]
    have wl : IntKind.u64.wrap ((L : Int) - K) = (L : Int) - K + 18446744073709551616 := by rw [IntKind.wrap_u64]; omega
    have q1 : (L : Int) < K := by omega
    have q2 : (G : Int) + 1 ≤ H := by omega
    have q3 : ((L : Int) - K + 18446744073709551616 == 0) = false := beq_eq_false_iff_ne.2 (by omega)
    clear hR a2 b2 hs
    cases m
    · have E := E
      go_enter Tryd.func105, Tryd.ntmps105
      go_wp2
      refine bodyPost_ret (v := .agg #[.int .u64 ((H : Int) - G - 1), .int .u64 ((L : Int) - K + 18446744073709551616 - 1), .bool true]) (by first | (simp [results, Tryd.results105, go_sem]; done) | (simp [results, Tryd.results105, go_sem]; rw [IntKind.wrap_u64]; decide)) rfl ⟨by rw [E.out]; first | rfl | simp, ?_⟩
      repeat (first | exact Grew.refl _ | refine Grew.drew ?_ | refine Grew.drewN ?_ _ | refine Grew.alloc ?_ _ | refine Grew.set ?_ (by first | (simp; done) | (simp; omega) | omega) _ | assumption)
    · have E := E
      go_enter Tryd.func105, Tryd.ntmps105
      go_wp2
      refine bodyPost_ret (v := .agg #[.int .u64 ((H : Int) - G - 1), .int .u64 ((L : Int) - K + 18446744073709551616 - 1), .bool true]) (by first | (simp [results, Tryd.results105, go_sem]; done) | (simp [results, Tryd.results105, go_sem]; rw [IntKind.wrap_u64]; decide)) rfl ⟨by rw [E.out]; first | rfl | simp, ?_⟩
      repeat (first | exact Grew.refl _ | refine Grew.drew ?_ | refine Grew.drewN ?_ _ | refine Grew.alloc ?_ _ | refine Grew.set ?_ (by first | (simp; done) | (simp; omega) | omega) _ | assumption)
end Go.Proofs.YtjkebimmddlccaaDoor
