/-
  The walks of the readers of floats' bits and of the document's Fixed; no statement is proved here.
-/
import Derived.Test.YtohapnninjdlfaaGreatDoorReadB
import Derived.Test.YtohapnninjdlfaaGreatDoorInM
namespace Go.Proofs.YtohapnninjdlfaaGreatDoor
open Go.RowKit
set_option linter.unusedVariables false

theorem k8 {k : Nat} (h : k ≤ 8) : k = 0 ∨ k = 1 ∨ k = 2 ∨ k = 3 ∨ k = 4 ∨ k = 5 ∨ k = 6 ∨ k = 7 ∨ k = 8 := by omega
theorem wsRef_yes {X c : Int} {k : Nat} (hk : k ≤ 8) (h0 : 0 ≤ X) (hX : X < 2 ^ (7 * k)) (hc : 64 ≤ c) (hc' : c < 128) :
    ws (addAt X c k) (7 * k + 7) true = IntKind.u64.wrap (addAt X c k - IntKind.u64.wrap (2 ^ (7 * k + 7))) := by
  rw [IntKind.wrap_u64, IntKind.wrap_u64, ws, addAt]
  rcases k8 hk with rfl | rfl | rfl | rfl | rfl | rfl | rfl | rfl | rfl <;> simp at hX ⊢ <;> (rw [if_pos (by omega)]; omega)
theorem wsRef_no {X c : Int} {k : Nat} (h0 : 0 ≤ X) (hX : X < 2 ^ (7 * k)) (hc0 : 0 ≤ c) (hc : c < 64) :
    ws (addAt X c k) (7 * k + 7) true = addAt X c k := by
  by_cases hk : k ≤ 8
  · rw [ws, addAt]
    rcases k8 hk with rfl | rfl | rfl | rfl | rfl | rfl | rfl | rfl | rfl <;> simp at hX ⊢ <;> omega
  · rw [ws, if_neg (by omega)]
theorem ws9 {n : Int} {k : Nat} (hk : 9 ≤ k) : ws n (7 * k + 7) true = n := by rw [ws, if_neg (by omega)]
theorem wsU {n : Int} {k : Nat} : ws n k false = n := by simp [ws]
theorem addStep (X c : Int) (k : Nat) (h0 : 0 ≤ X) (hX : X < 2 ^ (7 * k)) (hk : k ≤ 9) : IntKind.u64.wrap (X + IntKind.u64.wrap (c % 128 * 2 ^ (7 * k))) = addAt X c k := by
  have := addAt_64 (c := c) h0 hX hk
  have h1 := addAt_lo (c := c) k h0
  unfold addAt at *
  rw [IntKind.wrap_u64, IntKind.wrap_u64]; omega

theorem last_32u' (c : Int) (k : Nat) (w : World) (h0 : 0 ≤ c) (h1 : c ≤ 255) (hk : k = 4) :
    Calls Tryz.prog 92 #[.int .u8 c, .int .i64 32, .int .i64 k, .bool false] w fun e w' => e = .returned (.bool (okB 4 false c)) ∧ w' = w := by
  subst hk; exact last_32u c w h0 h1
set_option maxRecDepth 100000 in
set_option maxHeartbeats 1000000 in
theorem num32u_in (b off cap : Nat) (l : List Int) (a e : Nat) (w : World) (hlen : l.length ≤ 140737488351232) (hae : a ≤ e) (he : e ≤ l.length)
    (hc : ∀ j, j < l.length → w.cell? ⟨b, off + j, none⟩ = some (.int .u8 (l.getD j 0))) (hr : ∀ j, 0 ≤ l.getD j 0 ∧ l.getD j 0 ≤ 255) :
    Calls Tryz.prog 58 #[.slice (some ⟨b, off, none⟩) l.length cap, .int .i64 a, .int .i64 e, .int .i64 32, .bool false] w fun en w' =>
      ∃ n p q, scan 4 (okB 4 false) false (seg l a e) 0 0 = (n, p, q) ∧ en = .returned (.tuple #[.int .u64 n, .int .i64 (a + p), .int .i64 q]) ∧ w' = w := by
  have hst := St.start (m := 4) (ok := okB 4 false) (sg := false) (l := l) (a := a) (e := e)
  go_enter Tryz.func58, Tryz.ntmps58
  go_wp2_with fail
  refine (reads_yes _ _ _ _ _ _ (by omega) (by omega) (by omega)).mono ?_
  rintro en w' ⟨rfl, rfl⟩
  go_wp2_with fail
  go_loop [14, 15, 16] (fun n i _ => ∃ (k : Nat) (X : Int), k ≤ 4 ∧ a + k ≤ e ∧ i = .int .i64 k ∧ n = .int .u64 X ∧ 0 ≤ X ∧ X < 2 ^ (7 * k) ∧ St 4 (okB 4 false) false l a e k X)
    (fun _ i _ => 5 - (intOf i).toNat)
  case atStart => exact ⟨0, 0, by omega, by omega, rfl, rfl, by omega, by decide, hst⟩
  case round =>
    obtain ⟨k, X, hk, hj, rfl, rfl, hX0, hX1, hS⟩ := hrel
    have HX : Hid (X < 2 ^ (7 * k)) := hX1
    clear hst hX1
    by_cases hlt : a + k < e
    · obtain ⟨c, hcc⟩ : ∃ c, c = l.getD (a + k) 0 := ⟨_, rfl⟩
      have hcell := hc (a + k) (by omega)
      obtain ⟨hr0, hr1⟩ := hr (a + k)
      rw [← hcc] at hcell hr0 hr1
      have HC : Hid (c = l.getD (a + k) 0) := hcc
      have hadd := addStep X c k hX0 HX.out (by omega)
      have hA0 := addAt_lo (c := c) k hX0
      have hA1 := addAt_64 (c := c) hX0 HX.out (by omega)
      clear hcc hc hr
      by_cases hk4 : 4 ≤ k
      · have hkb : ((k : Int) == 4) = true := beq_iff_eq.2 (by omega)
        cases ho : okB 4 false c with
        | false =>
          go_wp2_with fail
          refine (last_32u' c k _ hr0 hr1 (by omega)).mono ?_
          rintro en w1 ⟨rfl, rfl⟩
          go_wp2_with fail
          go_ret3
          exact ⟨_, _, _, hS.form hlt he HC.out (by omega) ho, ret_3 rfl (by omega) rfl, rfl⟩
        | true =>
          have h128 := okB_lt ho
          go_wp2_with fail
          refine (last_32u' c k _ hr0 hr1 (by omega)).mono ?_
          rintro en w1 ⟨rfl, rfl⟩
          go_wp2_with fail
          go_ret3
          exact ⟨_, _, _, hS.done hlt he HC.out (fun _ => ho) h128, ret_3 wsU.symm (by omega) rfl, rfl⟩
      · by_cases h128 : c < 128
        · have hkb : ((k : Int) == 4) = false := beq_eq_false_iff_ne.2 (by omega)
          go_wp2_with fail
          go_ret3
          exact ⟨_, _, _, hS.done hlt he HC.out (fun h => absurd h (by omega)) h128, ret_3 wsU.symm (by omega) rfl, rfl⟩
        · have hkb : ((k : Int) == 4) = false := beq_eq_false_iff_ne.2 (by omega)
          go_wp2_with fail
          go_round
          case rel => exact ⟨k + 1, addAt X c k, by omega, by omega, by go_num, rfl, hA0, addAt_hi HX.out (by omega), hS.next hlt he HC.out (fun h => absurd h (by omega)) h128⟩
          case measure => simp [intOf]; omega
    · go_wp2_with fail
      go_ret3
      exact ⟨_, _, _, hS.short (by omega), ret_3 rfl (by omega) rfl, rfl⟩

theorem last_64u' (c : Int) (k : Nat) (w : World) (h0 : 0 ≤ c) (h1 : c ≤ 255) (hk : k = 9) :
    Calls Tryz.prog 92 #[.int .u8 c, .int .i64 64, .int .i64 k, .bool false] w fun e w' => e = .returned (.bool (okB 1 false c)) ∧ w' = w := by
  subst hk; exact last_64u c w h0 h1
set_option maxRecDepth 100000 in
set_option maxHeartbeats 1000000 in
theorem num64u_in (b off cap : Nat) (l : List Int) (a e : Nat) (w : World) (hlen : l.length ≤ 140737488351232) (hae : a ≤ e) (he : e ≤ l.length)
    (hc : ∀ j, j < l.length → w.cell? ⟨b, off + j, none⟩ = some (.int .u8 (l.getD j 0))) (hr : ∀ j, 0 ≤ l.getD j 0 ∧ l.getD j 0 ≤ 255) :
    Calls Tryz.prog 58 #[.slice (some ⟨b, off, none⟩) l.length cap, .int .i64 a, .int .i64 e, .int .i64 64, .bool false] w fun en w' =>
      ∃ n p q, scan 9 (okB 1 false) false (seg l a e) 0 0 = (n, p, q) ∧ en = .returned (.tuple #[.int .u64 n, .int .i64 (a + p), .int .i64 q]) ∧ w' = w := by
  have hst := St.start (m := 9) (ok := okB 1 false) (sg := false) (l := l) (a := a) (e := e)
  go_enter Tryz.func58, Tryz.ntmps58
  go_wp2_with fail
  refine (reads_yes _ _ _ _ _ _ (by omega) (by omega) (by omega)).mono ?_
  rintro en w' ⟨rfl, rfl⟩
  go_wp2_with fail
  go_loop [14, 15, 16] (fun n i _ => ∃ (k : Nat) (X : Int), k ≤ 9 ∧ a + k ≤ e ∧ i = .int .i64 k ∧ n = .int .u64 X ∧ 0 ≤ X ∧ X < 2 ^ (7 * k) ∧ St 9 (okB 1 false) false l a e k X)
    (fun _ i _ => 10 - (intOf i).toNat)
  case atStart => exact ⟨0, 0, by omega, by omega, rfl, rfl, by omega, by decide, hst⟩
  case round =>
    obtain ⟨k, X, hk, hj, rfl, rfl, hX0, hX1, hS⟩ := hrel
    have HX : Hid (X < 2 ^ (7 * k)) := hX1
    clear hst hX1
    by_cases hlt : a + k < e
    · obtain ⟨c, hcc⟩ : ∃ c, c = l.getD (a + k) 0 := ⟨_, rfl⟩
      have hcell := hc (a + k) (by omega)
      obtain ⟨hr0, hr1⟩ := hr (a + k)
      rw [← hcc] at hcell hr0 hr1
      have HC : Hid (c = l.getD (a + k) 0) := hcc
      have hadd := addStep X c k hX0 HX.out (by omega)
      have hA0 := addAt_lo (c := c) k hX0
      have hA1 := addAt_64 (c := c) hX0 HX.out (by omega)
      clear hcc hc hr
      by_cases hk4 : 9 ≤ k
      · have hkb : ((k : Int) == 9) = true := beq_iff_eq.2 (by omega)
        cases ho : okB 1 false c with
        | false =>
          go_wp2_with fail
          refine (last_64u' c k _ hr0 hr1 (by omega)).mono ?_
          rintro en w1 ⟨rfl, rfl⟩
          go_wp2_with fail
          go_ret3
          exact ⟨_, _, _, hS.form hlt he HC.out (by omega) ho, ret_3 rfl (by omega) rfl, rfl⟩
        | true =>
          have h128 := okB_lt ho
          go_wp2_with fail
          refine (last_64u' c k _ hr0 hr1 (by omega)).mono ?_
          rintro en w1 ⟨rfl, rfl⟩
          go_wp2_with fail
          go_ret3
          exact ⟨_, _, _, hS.done hlt he HC.out (fun _ => ho) h128, ret_3 wsU.symm (by omega) rfl, rfl⟩
      · by_cases h128 : c < 128
        · have hkb : ((k : Int) == 9) = false := beq_eq_false_iff_ne.2 (by omega)
          go_wp2_with fail
          go_ret3
          exact ⟨_, _, _, hS.done hlt he HC.out (fun h => absurd h (by omega)) h128, ret_3 wsU.symm (by omega) rfl, rfl⟩
        · have hkb : ((k : Int) == 9) = false := beq_eq_false_iff_ne.2 (by omega)
          go_wp2_with fail
          go_round
          case rel => exact ⟨k + 1, addAt X c k, by omega, by omega, by go_num, rfl, hA0, addAt_hi HX.out (by omega), hS.next hlt he HC.out (fun h => absurd h (by omega)) h128⟩
          case measure => simp [intOf]; omega
    · go_wp2_with fail
      go_ret3
      exact ⟨_, _, _, hS.short (by omega), ret_3 rfl (by omega) rfl, rfl⟩

theorem last_32s' (c : Int) (k : Nat) (w : World) (h0 : 0 ≤ c) (h1 : c ≤ 255) (hk : k = 4) :
    Calls Tryz.prog 92 #[.int .u8 c, .int .i64 32, .int .i64 k, .bool true] w fun e w' => e = .returned (.bool (okB 4 true c)) ∧ w' = w := by
  subst hk; exact last_32s c w h0 h1
set_option maxRecDepth 100000 in
set_option maxHeartbeats 1000000 in
theorem num32s_in (b off cap : Nat) (l : List Int) (a e : Nat) (w : World) (hlen : l.length ≤ 140737488351232) (hae : a ≤ e) (he : e ≤ l.length)
    (hc : ∀ j, j < l.length → w.cell? ⟨b, off + j, none⟩ = some (.int .u8 (l.getD j 0))) (hr : ∀ j, 0 ≤ l.getD j 0 ∧ l.getD j 0 ≤ 255) :
    Calls Tryz.prog 58 #[.slice (some ⟨b, off, none⟩) l.length cap, .int .i64 a, .int .i64 e, .int .i64 32, .bool true] w fun en w' =>
      ∃ n p q, scan 4 (okB 4 true) true (seg l a e) 0 0 = (n, p, q) ∧ en = .returned (.tuple #[.int .u64 n, .int .i64 (a + p), .int .i64 q]) ∧ w' = w := by
  have hst := St.start (m := 4) (ok := okB 4 true) (sg := true) (l := l) (a := a) (e := e)
  go_enter Tryz.func58, Tryz.ntmps58
  go_wp2_with fail
  refine (reads_yes _ _ _ _ _ _ (by omega) (by omega) (by omega)).mono ?_
  rintro en w' ⟨rfl, rfl⟩
  go_wp2_with fail
  go_loop [14, 15, 16] (fun n i _ => ∃ (k : Nat) (X : Int), k ≤ 4 ∧ a + k ≤ e ∧ i = .int .i64 k ∧ n = .int .u64 X ∧ 0 ≤ X ∧ X < 2 ^ (7 * k) ∧ St 4 (okB 4 true) true l a e k X)
    (fun _ i _ => 5 - (intOf i).toNat)
  case atStart => exact ⟨0, 0, by omega, by omega, rfl, rfl, by omega, by decide, hst⟩
  case round =>
    obtain ⟨k, X, hk, hj, rfl, rfl, hX0, hX1, hS⟩ := hrel
    have HX : Hid (X < 2 ^ (7 * k)) := hX1
    clear hst hX1
    by_cases hlt : a + k < e
    · obtain ⟨c, hcc⟩ : ∃ c, c = l.getD (a + k) 0 := ⟨_, rfl⟩
      have hcell := hc (a + k) (by omega)
      obtain ⟨hr0, hr1⟩ := hr (a + k)
      rw [← hcc] at hcell hr0 hr1
      have HC : Hid (c = l.getD (a + k) 0) := hcc
      have hadd := addStep X c k hX0 HX.out (by omega)
      have hA0 := addAt_lo (c := c) k hX0
      have hA1 := addAt_64 (c := c) hX0 HX.out (by omega)
      clear hcc hc hr
      by_cases hk4 : 4 ≤ k
      · have hkb : ((k : Int) == 4) = true := beq_iff_eq.2 (by omega)
        cases ho : okB 4 true c with
        | false =>
          go_wp2_with fail
          refine (last_32s' c k _ hr0 hr1 (by omega)).mono ?_
          rintro en w1 ⟨rfl, rfl⟩
          go_wp2_with fail
          go_ret3
          exact ⟨_, _, _, hS.form hlt he HC.out (by omega) ho, ret_3 rfl (by omega) rfl, rfl⟩
        | true =>
          have h128 := okB_lt ho
          go_wp2_with fail
          refine (last_32s' c k _ hr0 hr1 (by omega)).mono ?_
          rintro en w1 ⟨rfl, rfl⟩
          by_cases h64 : 64 ≤ c
          · go_wp2_with fail
            go_ret3
            exact ⟨_, _, _, hS.done hlt he HC.out (fun _ => ho) h128, ret_3 (wsRef_yes (by omega) hX0 HX.out h64 h128).symm (by omega) rfl, rfl⟩
          · go_wp2_with fail
            go_ret3
            exact ⟨_, _, _, hS.done hlt he HC.out (fun _ => ho) h128, ret_3 (wsRef_no hX0 HX.out hr0 (by omega)).symm (by omega) rfl, rfl⟩
      · by_cases h128 : c < 128
        · have hkb : ((k : Int) == 4) = false := beq_eq_false_iff_ne.2 (by omega)
          by_cases h64 : 64 ≤ c
          · go_wp2_with fail
            go_ret3
            exact ⟨_, _, _, hS.done hlt he HC.out (fun h => absurd h (by omega)) h128, ret_3 (wsRef_yes (by omega) hX0 HX.out h64 h128).symm (by omega) rfl, rfl⟩
          · go_wp2_with fail
            go_ret3
            exact ⟨_, _, _, hS.done hlt he HC.out (fun h => absurd h (by omega)) h128, ret_3 (wsRef_no hX0 HX.out hr0 (by omega)).symm (by omega) rfl, rfl⟩
        · have hkb : ((k : Int) == 4) = false := beq_eq_false_iff_ne.2 (by omega)
          go_wp2_with fail
          go_round
          case rel => exact ⟨k + 1, addAt X c k, by omega, by omega, by go_num, rfl, hA0, addAt_hi HX.out (by omega), hS.next hlt he HC.out (fun h => absurd h (by omega)) h128⟩
          case measure => simp [intOf]; omega
    · go_wp2_with fail
      go_ret3
      exact ⟨_, _, _, hS.short (by omega), ret_3 rfl (by omega) rfl, rfl⟩

theorem last_33s' (c : Int) (k : Nat) (w : World) (h0 : 0 ≤ c) (h1 : c ≤ 255) (hk : k = 4) :
    Calls Tryz.prog 92 #[.int .u8 c, .int .i64 33, .int .i64 k, .bool true] w fun e w' => e = .returned (.bool (okB 5 true c)) ∧ w' = w := by
  subst hk; exact last_33s c w h0 h1
set_option maxRecDepth 100000 in
set_option maxHeartbeats 1000000 in
theorem num33s_in (b off cap : Nat) (l : List Int) (a e : Nat) (w : World) (hlen : l.length ≤ 140737488351232) (hae : a ≤ e) (he : e ≤ l.length)
    (hc : ∀ j, j < l.length → w.cell? ⟨b, off + j, none⟩ = some (.int .u8 (l.getD j 0))) (hr : ∀ j, 0 ≤ l.getD j 0 ∧ l.getD j 0 ≤ 255) :
    Calls Tryz.prog 58 #[.slice (some ⟨b, off, none⟩) l.length cap, .int .i64 a, .int .i64 e, .int .i64 33, .bool true] w fun en w' =>
      ∃ n p q, scan 4 (okB 5 true) true (seg l a e) 0 0 = (n, p, q) ∧ en = .returned (.tuple #[.int .u64 n, .int .i64 (a + p), .int .i64 q]) ∧ w' = w := by
  have hst := St.start (m := 4) (ok := okB 5 true) (sg := true) (l := l) (a := a) (e := e)
  go_enter Tryz.func58, Tryz.ntmps58
  go_wp2_with fail
  refine (reads_yes _ _ _ _ _ _ (by omega) (by omega) (by omega)).mono ?_
  rintro en w' ⟨rfl, rfl⟩
  go_wp2_with fail
  go_loop [14, 15, 16] (fun n i _ => ∃ (k : Nat) (X : Int), k ≤ 4 ∧ a + k ≤ e ∧ i = .int .i64 k ∧ n = .int .u64 X ∧ 0 ≤ X ∧ X < 2 ^ (7 * k) ∧ St 4 (okB 5 true) true l a e k X)
    (fun _ i _ => 5 - (intOf i).toNat)
  case atStart => exact ⟨0, 0, by omega, by omega, rfl, rfl, by omega, by decide, hst⟩
  case round =>
    obtain ⟨k, X, hk, hj, rfl, rfl, hX0, hX1, hS⟩ := hrel
    have HX : Hid (X < 2 ^ (7 * k)) := hX1
    clear hst hX1
    by_cases hlt : a + k < e
    · obtain ⟨c, hcc⟩ : ∃ c, c = l.getD (a + k) 0 := ⟨_, rfl⟩
      have hcell := hc (a + k) (by omega)
      obtain ⟨hr0, hr1⟩ := hr (a + k)
      rw [← hcc] at hcell hr0 hr1
      have HC : Hid (c = l.getD (a + k) 0) := hcc
      have hadd := addStep X c k hX0 HX.out (by omega)
      have hA0 := addAt_lo (c := c) k hX0
      have hA1 := addAt_64 (c := c) hX0 HX.out (by omega)
      clear hcc hc hr
      by_cases hk4 : 4 ≤ k
      · have hkb : ((k : Int) == 4) = true := beq_iff_eq.2 (by omega)
        cases ho : okB 5 true c with
        | false =>
          go_wp2_with fail
          refine (last_33s' c k _ hr0 hr1 (by omega)).mono ?_
          rintro en w1 ⟨rfl, rfl⟩
          go_wp2_with fail
          go_ret3
          exact ⟨_, _, _, hS.form hlt he HC.out (by omega) ho, ret_3 rfl (by omega) rfl, rfl⟩
        | true =>
          have h128 := okB_lt ho
          go_wp2_with fail
          refine (last_33s' c k _ hr0 hr1 (by omega)).mono ?_
          rintro en w1 ⟨rfl, rfl⟩
          by_cases h64 : 64 ≤ c
          · go_wp2_with fail
            go_ret3
            exact ⟨_, _, _, hS.done hlt he HC.out (fun _ => ho) h128, ret_3 (wsRef_yes (by omega) hX0 HX.out h64 h128).symm (by omega) rfl, rfl⟩
          · go_wp2_with fail
            go_ret3
            exact ⟨_, _, _, hS.done hlt he HC.out (fun _ => ho) h128, ret_3 (wsRef_no hX0 HX.out hr0 (by omega)).symm (by omega) rfl, rfl⟩
      · by_cases h128 : c < 128
        · have hkb : ((k : Int) == 4) = false := beq_eq_false_iff_ne.2 (by omega)
          by_cases h64 : 64 ≤ c
          · go_wp2_with fail
            go_ret3
            exact ⟨_, _, _, hS.done hlt he HC.out (fun h => absurd h (by omega)) h128, ret_3 (wsRef_yes (by omega) hX0 HX.out h64 h128).symm (by omega) rfl, rfl⟩
          · go_wp2_with fail
            go_ret3
            exact ⟨_, _, _, hS.done hlt he HC.out (fun h => absurd h (by omega)) h128, ret_3 (wsRef_no hX0 HX.out hr0 (by omega)).symm (by omega) rfl, rfl⟩
        · have hkb : ((k : Int) == 4) = false := beq_eq_false_iff_ne.2 (by omega)
          go_wp2_with fail
          go_round
          case rel => exact ⟨k + 1, addAt X c k, by omega, by omega, by go_num, rfl, hA0, addAt_hi HX.out (by omega), hS.next hlt he HC.out (fun h => absurd h (by omega)) h128⟩
          case measure => simp [intOf]; omega
    · go_wp2_with fail
      go_ret3
      exact ⟨_, _, _, hS.short (by omega), ret_3 rfl (by omega) rfl, rfl⟩

theorem last_64s' (c : Int) (k : Nat) (w : World) (h0 : 0 ≤ c) (h1 : c ≤ 255) (hk : k = 9) :
    Calls Tryz.prog 92 #[.int .u8 c, .int .i64 64, .int .i64 k, .bool true] w fun e w' => e = .returned (.bool (okB 1 true c)) ∧ w' = w := by
  subst hk; exact last_64s c w h0 h1
set_option maxRecDepth 100000 in
set_option maxHeartbeats 1000000 in
theorem num64s_in (b off cap : Nat) (l : List Int) (a e : Nat) (w : World) (hlen : l.length ≤ 140737488351232) (hae : a ≤ e) (he : e ≤ l.length)
    (hc : ∀ j, j < l.length → w.cell? ⟨b, off + j, none⟩ = some (.int .u8 (l.getD j 0))) (hr : ∀ j, 0 ≤ l.getD j 0 ∧ l.getD j 0 ≤ 255) :
    Calls Tryz.prog 58 #[.slice (some ⟨b, off, none⟩) l.length cap, .int .i64 a, .int .i64 e, .int .i64 64, .bool true] w fun en w' =>
      ∃ n p q, scan 9 (okB 1 true) true (seg l a e) 0 0 = (n, p, q) ∧ en = .returned (.tuple #[.int .u64 n, .int .i64 (a + p), .int .i64 q]) ∧ w' = w := by
  have hst := St.start (m := 9) (ok := okB 1 true) (sg := true) (l := l) (a := a) (e := e)
  go_enter Tryz.func58, Tryz.ntmps58
  go_wp2_with fail
  refine (reads_yes _ _ _ _ _ _ (by omega) (by omega) (by omega)).mono ?_
  rintro en w' ⟨rfl, rfl⟩
  go_wp2_with fail
  go_loop [14, 15, 16] (fun n i _ => ∃ (k : Nat) (X : Int), k ≤ 9 ∧ a + k ≤ e ∧ i = .int .i64 k ∧ n = .int .u64 X ∧ 0 ≤ X ∧ X < 2 ^ (7 * k) ∧ St 9 (okB 1 true) true l a e k X)
    (fun _ i _ => 10 - (intOf i).toNat)
  case atStart => exact ⟨0, 0, by omega, by omega, rfl, rfl, by omega, by decide, hst⟩
  case round =>
    obtain ⟨k, X, hk, hj, rfl, rfl, hX0, hX1, hS⟩ := hrel
    have HX : Hid (X < 2 ^ (7 * k)) := hX1
    clear hst hX1
    by_cases hlt : a + k < e
    · obtain ⟨c, hcc⟩ : ∃ c, c = l.getD (a + k) 0 := ⟨_, rfl⟩
      have hcell := hc (a + k) (by omega)
      obtain ⟨hr0, hr1⟩ := hr (a + k)
      rw [← hcc] at hcell hr0 hr1
      have HC : Hid (c = l.getD (a + k) 0) := hcc
      have hadd := addStep X c k hX0 HX.out (by omega)
      have hA0 := addAt_lo (c := c) k hX0
      have hA1 := addAt_64 (c := c) hX0 HX.out (by omega)
      clear hcc hc hr
      by_cases hk4 : 9 ≤ k
      · have hkb : ((k : Int) == 9) = true := beq_iff_eq.2 (by omega)
        cases ho : okB 1 true c with
        | false =>
          go_wp2_with fail
          refine (last_64s' c k _ hr0 hr1 (by omega)).mono ?_
          rintro en w1 ⟨rfl, rfl⟩
          go_wp2_with fail
          go_ret3
          exact ⟨_, _, _, hS.form hlt he HC.out (by omega) ho, ret_3 rfl (by omega) rfl, rfl⟩
        | true =>
          have h128 := okB_lt ho
          go_wp2_with fail
          refine (last_64s' c k _ hr0 hr1 (by omega)).mono ?_
          rintro en w1 ⟨rfl, rfl⟩
          by_cases h64 : 64 ≤ c
          · go_wp2_with fail
            go_ret3
            exact ⟨_, _, _, hS.done hlt he HC.out (fun _ => ho) h128, ret_3 (ws9 hk4).symm (by omega) rfl, rfl⟩
          · go_wp2_with fail
            go_ret3
            exact ⟨_, _, _, hS.done hlt he HC.out (fun _ => ho) h128, ret_3 (ws9 hk4).symm (by omega) rfl, rfl⟩
      · by_cases h128 : c < 128
        · have hkb : ((k : Int) == 9) = false := beq_eq_false_iff_ne.2 (by omega)
          by_cases h64 : 64 ≤ c
          · go_wp2_with fail
            go_ret3
            exact ⟨_, _, _, hS.done hlt he HC.out (fun h => absurd h (by omega)) h128, ret_3 (wsRef_yes (by omega) hX0 HX.out h64 h128).symm (by omega) rfl, rfl⟩
          · go_wp2_with fail
            go_ret3
            exact ⟨_, _, _, hS.done hlt he HC.out (fun h => absurd h (by omega)) h128, ret_3 (wsRef_no hX0 HX.out hr0 (by omega)).symm (by omega) rfl, rfl⟩
        · have hkb : ((k : Int) == 9) = false := beq_eq_false_iff_ne.2 (by omega)
          go_wp2_with fail
          go_round
          case rel => exact ⟨k + 1, addAt X c k, by omega, by omega, by go_num, rfl, hA0, addAt_hi HX.out (by omega), hS.next hlt he HC.out (fun h => absurd h (by omega)) h128⟩
          case measure => simp [intOf]; omega
    · go_wp2_with fail
      go_ret3
      exact ⟨_, _, _, hS.short (by omega), ret_3 rfl (by omega) rfl, rfl⟩

end Go.Proofs.YtohapnninjdlfaaGreatDoor

namespace Go.Proofs.YtohapnninjdlfaaGreatDoor
open Go.RowKit
set_option linter.unusedVariables false

theorem mul8 (c : Int) (k : Nat) (h0 : 0 ≤ c) (h1 : c ≤ 255) : 0 ≤ c * 2 ^ (8 * k) ∧ c * 2 ^ (8 * k) + 2 ^ (8 * k) ≤ 2 ^ (8 * (k + 1)) := by
  have hp : (0 : Int) < 2 ^ (8 * k) := Int.pow_pos (by decide)
  have hm := Int.mul_le_mul_of_nonneg_right h1 (Int.le_of_lt hp)
  have hn := Int.mul_nonneg h0 (Int.le_of_lt hp)
  rw [pow8]; omega
theorem k7 {k : Nat} (h : k ≤ 7) : k = 0 ∨ k = 1 ∨ k = 2 ∨ k = 3 ∨ k = 4 ∨ k = 5 ∨ k = 6 ∨ k = 7 := by omega
theorem pow8_64 {k : Nat} (h : k ≤ 7) : (2 : Int) ^ (8 * (k + 1)) ≤ 18446744073709551616 := by
  rcases k7 h with rfl | rfl | rfl | rfl | rfl | rfl | rfl | rfl <;> decide
theorem pow8_32 {k : Nat} (h : k ≤ 3) : (2 : Int) ^ (8 * (k + 1)) ≤ 4294967296 := by
  rcases k7 (k := k) (by omega) with rfl | rfl | rfl | rfl | rfl | rfl | rfl | rfl <;> first | decide | omega
theorem wraps_u32 (n : Int) (h0 : 0 ≤ n) (h1 : n < 2 ^ 32) : IntKind.u32.wrap n = n := by rw [IntKind.wrap_u32']; omega
theorem orFix64 (X c : Int) (k : Nat) (hk : k ≤ 7) (h0 : 0 ≤ X) (hX : X < 2 ^ (8 * k)) (hc0 : 0 ≤ c) (hc1 : c ≤ 255) : bits .or .u64 X (IntKind.u64.wrap (c * 2 ^ (8 * k))) = X + c * 2 ^ (8 * k) := by
  obtain ⟨m0, m1⟩ := mul8 c k hc0 hc1
  have hp := pow8_64 hk
  rw [wraps_u64 _ m0 (by omega), bits_or_comm, bits_join .u64 64 (by decide) wraps_u64 (8 * k) _ X m0 (Int.mul_emod_left _ _) (by omega) h0 hX (by omega)]
  omega
theorem orFix32 (X c : Int) (k : Nat) (hk : k ≤ 3) (h0 : 0 ≤ X) (hX : X < 2 ^ (8 * k)) (hc0 : 0 ≤ c) (hc1 : c ≤ 255) : bits .or .u32 X (c * 2 ^ (8 * k) % 4294967296) = X + c * 2 ^ (8 * k) := by
  obtain ⟨m0, m1⟩ := mul8 c k hc0 hc1
  have hp := pow8_32 hk
  rw [Int.emod_eq_of_lt m0 (by omega), bits_or_comm, bits_join .u32 32 (by decide) wraps_u32 (8 * k) _ X m0 (Int.mul_emod_left _ _) (by omega) h0 hX (by omega)]
  omega

set_option maxRecDepth 100000 in
set_option maxHeartbeats 1000000 in
theorem bits32_in (b off cap : Nat) (l : List Int) (a e : Nat) (w : World) (hlen : l.length ≤ 140737488351232) (hlc : l.length ≤ cap) (hm : cap ≤ maxLen) (hae : a + 4 ≤ e) (he : e ≤ l.length)
    (hc : ∀ j, j < l.length → w.cell? ⟨b, off + j, none⟩ = some (.int .u8 (l.getD j 0))) (hr : ∀ j, 0 ≤ l.getD j 0 ∧ l.getD j 0 ≤ 255) :
    Calls Tryz.prog 111 #[.slice (some ⟨b, off, none⟩) l.length cap, .int .i64 a, .int .i64 e, .int .i64 4] w fun en w' =>
      en = .returned (.tuple #[.int .u32 (gv l a 4), .int .i64 ((a : Int) + 4), .int .i64 0]) ∧ w' = w := by
  unfold maxLen at hm
  have hd : decide ((e : Int) - (a : Int) < 4) = false := decide_eq_false (by omega)
  go_enter Tryz.func111, Tryz.ntmps111
  go_wp2_with fail
  refine (inside_yes _ _ _ _ _ _ (by omega) (by omega) (by omega)).mono ?_
  rintro en w' ⟨rfl, rfl⟩
  go_wp2_with fail
  go_loop [11, 12, 13, 33] (fun n _ _ i => ∃ k : Nat, k ≤ 4 ∧ i = .int .i64 k ∧ n = .int .u32 (gv l a k)) (fun _ _ _ i => 4 - (intOf i).toNat)
  case atStart => exact ⟨0, by omega, rfl, rfl⟩
  case round =>
    obtain ⟨k, hk, rfl, rfl⟩ := hrel
    by_cases hlt : k < 4
    · obtain ⟨g0, g1⟩ := gv_bd l hr a k
      obtain ⟨c, hcc⟩ : ∃ c, c = l.getD (a + k) 0 := ⟨_, rfl⟩
      have hcell := hc (a + k) (by omega)
      rw [show off + (a + k) = off + a + k from by omega] at hcell
      obtain ⟨hr0, hr1⟩ := hr (a + k)
      have HG : Hid (gv l a (k + 1) = gv l a k + c * 2 ^ (8 * k)) := by rw [hcc]; exact gv_snoc l a k
      rw [← hcc] at hcell hr0 hr1
      have hor := orFix32 (gv l a k) c k (by omega) g0 g1 hr0 hr1
      clear hcc hc hr g1
      generalize gv l a k = X at *
      go_wp2_with fail
      go_round
      case rel => exact ⟨k + 1, by omega, by go_num, by rw [HG.out]⟩
      case measure => simp [intOf]; omega
    · have : k = 4 := by omega
      subst this
      clear hc hr
      go_wp2_with fail
      go_ret3
      exact ⟨rfl, rfl⟩

set_option maxRecDepth 100000 in
set_option maxHeartbeats 1000000 in
theorem bits32_short (ad : Option Addr) (len cap : Nat) (a e : Nat) (w : World) (hlen : len ≤ 140737488351232) (hae : a ≤ e) (he : e ≤ len) (hs : e < a + 4) :
    Calls Tryz.prog 111 #[.slice ad len cap, .int .i64 a, .int .i64 e, .int .i64 4] w fun en w' =>
      en = .returned (.tuple #[.int .u32 0, .int .i64 e, .int .i64 3]) ∧ w' = w := by
  go_enter Tryz.func111, Tryz.ntmps111
  go_wp2_with fail
  refine (inside_yes _ _ _ _ _ _ (by omega) (by omega) (by omega)).mono ?_
  rintro en w' ⟨rfl, rfl⟩
  go_wp2_with fail
  go_ret3
  exact ⟨rfl, rfl⟩

set_option maxRecDepth 100000 in
theorem bits32_no (ad : Option Addr) (len cap : Nat) (x y : Int) (w : World) (h : ¬ (0 ≤ x ∧ x ≤ y ∧ y ≤ len)) :
    Calls Tryz.prog 111 #[.slice ad len cap, .int .i64 x, .int .i64 y, .int .i64 4] w fun en w' =>
      en = .returned (.tuple #[.int .u32 0, .int .i64 0, .int .i64 1]) ∧ w' = w := by
  have c1 := inside_no ad len cap x y w h
  clear h
  go_enter Tryz.func111, Tryz.ntmps111
  go_wp2_with fail
  refine c1.mono ?_
  rintro en w' ⟨rfl, rfl⟩
  clear c1
  go_wp2_with fail
  go_ret3
  exact ⟨rfl, rfl⟩

set_option maxRecDepth 100000 in
set_option maxHeartbeats 1000000 in
theorem bits64_in (b off cap : Nat) (l : List Int) (a e : Nat) (w : World) (hlen : l.length ≤ 140737488351232) (hlc : l.length ≤ cap) (hm : cap ≤ maxLen) (hae : a + 8 ≤ e) (he : e ≤ l.length)
    (hc : ∀ j, j < l.length → w.cell? ⟨b, off + j, none⟩ = some (.int .u8 (l.getD j 0))) (hr : ∀ j, 0 ≤ l.getD j 0 ∧ l.getD j 0 ≤ 255) :
    Calls Tryz.prog 112 #[.slice (some ⟨b, off, none⟩) l.length cap, .int .i64 a, .int .i64 e, .int .i64 8] w fun en w' =>
      en = .returned (.tuple #[.int .u64 (gv l a 8), .int .i64 ((a : Int) + 8), .int .i64 0]) ∧ w' = w := by
  unfold maxLen at hm
  have hd : decide ((e : Int) - (a : Int) < 8) = false := decide_eq_false (by omega)
  go_enter Tryz.func112, Tryz.ntmps112
  go_wp2_with fail
  refine (inside_yes _ _ _ _ _ _ (by omega) (by omega) (by omega)).mono ?_
  rintro en w' ⟨rfl, rfl⟩
  go_wp2_with fail
  go_loop [11, 12, 13, 33] (fun n _ _ i => ∃ k : Nat, k ≤ 8 ∧ i = .int .i64 k ∧ n = .int .u64 (gv l a k)) (fun _ _ _ i => 8 - (intOf i).toNat)
  case atStart => exact ⟨0, by omega, rfl, rfl⟩
  case round =>
    obtain ⟨k, hk, rfl, rfl⟩ := hrel
    by_cases hlt : k < 8
    · obtain ⟨g0, g1⟩ := gv_bd l hr a k
      obtain ⟨c, hcc⟩ : ∃ c, c = l.getD (a + k) 0 := ⟨_, rfl⟩
      have hcell := hc (a + k) (by omega)
      rw [show off + (a + k) = off + a + k from by omega] at hcell
      obtain ⟨hr0, hr1⟩ := hr (a + k)
      have HG : Hid (gv l a (k + 1) = gv l a k + c * 2 ^ (8 * k)) := by rw [hcc]; exact gv_snoc l a k
      rw [← hcc] at hcell hr0 hr1
      have hor := orFix64 (gv l a k) c k (by omega) g0 g1 hr0 hr1
      clear hcc hc hr g1
      generalize gv l a k = X at *
      go_wp2_with fail
      go_round
      case rel => exact ⟨k + 1, by omega, by go_num, by rw [HG.out]⟩
      case measure => simp [intOf]; omega
    · have : k = 8 := by omega
      subst this
      clear hc hr
      go_wp2_with fail
      go_ret3
      exact ⟨rfl, rfl⟩

set_option maxRecDepth 100000 in
set_option maxHeartbeats 1000000 in
theorem bits64_short (ad : Option Addr) (len cap : Nat) (a e : Nat) (w : World) (hlen : len ≤ 140737488351232) (hae : a ≤ e) (he : e ≤ len) (hs : e < a + 8) :
    Calls Tryz.prog 112 #[.slice ad len cap, .int .i64 a, .int .i64 e, .int .i64 8] w fun en w' =>
      en = .returned (.tuple #[.int .u64 0, .int .i64 e, .int .i64 3]) ∧ w' = w := by
  go_enter Tryz.func112, Tryz.ntmps112
  go_wp2_with fail
  refine (inside_yes _ _ _ _ _ _ (by omega) (by omega) (by omega)).mono ?_
  rintro en w' ⟨rfl, rfl⟩
  go_wp2_with fail
  go_ret3
  exact ⟨rfl, rfl⟩

set_option maxRecDepth 100000 in
theorem bits64_no (ad : Option Addr) (len cap : Nat) (x y : Int) (w : World) (h : ¬ (0 ≤ x ∧ x ≤ y ∧ y ≤ len)) :
    Calls Tryz.prog 112 #[.slice ad len cap, .int .i64 x, .int .i64 y, .int .i64 8] w fun en w' =>
      en = .returned (.tuple #[.int .u64 0, .int .i64 0, .int .i64 1]) ∧ w' = w := by
  have c1 := inside_no ad len cap x y w h
  clear h
  go_enter Tryz.func112, Tryz.ntmps112
  go_wp2_with fail
  refine c1.mono ?_
  rintro en w' ⟨rfl, rfl⟩
  clear c1
  go_wp2_with fail
  go_ret3
  exact ⟨rfl, rfl⟩

set_option maxRecDepth 100000 in
set_option maxHeartbeats 1000000 in
theorem fixed_in (s : Nat) (b off cap : Nat) (l : List Int) (a e : Nat) (w : World) (hs1 : 1 ≤ s) (hs8 : s ≤ 8) (hlen : l.length ≤ 140737488351232) (hae : a + s ≤ e) (he : e ≤ l.length)
    (hc : ∀ j, j < l.length → w.cell? ⟨b, off + j, none⟩ = some (.int .u8 (l.getD j 0))) (hr : ∀ j, 0 ≤ l.getD j 0 ∧ l.getD j 0 ≤ 255) :
    Calls Tryz.prog 60 #[.slice (some ⟨b, off, none⟩) l.length cap, .int .i64 a, .int .i64 e, .int .i64 s] w fun en w' =>
      en = .returned (.tuple #[.int .u64 (gv l a s), .int .i64 ((a : Int) + s), .int .i64 0]) ∧ w' = w := by
  have hd : decide ((e : Int) - (a : Int) < s) = false := decide_eq_false (by omega)
  go_enter Tryz.func60, Tryz.ntmps60
  go_wp2_with fail
  refine (reads_yes _ _ _ _ _ _ (by omega) (by omega) (by omega)).mono ?_
  rintro en w' ⟨rfl, rfl⟩
  go_wp2_with fail
  go_loop [11, 12] (fun n i => ∃ k : Nat, k ≤ s ∧ i = .int .i64 ((s : Int) - 1 - k) ∧ n = .int .u64 (gv l (a + (s - k)) k)) (fun _ i => (intOf i + 1).toNat)
  case atStart => exact ⟨0, by omega, by simp, rfl⟩
  case round =>
    obtain ⟨k, hk, rfl, rfl⟩ := hrel
    by_cases hlt : k < s
    · obtain ⟨g0, g1⟩ := gv_bd l hr (a + (s - k)) k
      have g2 : gv l (a + (s - k)) k * 256 ≤ 18446744073709551360 := by
        have h1 := pow8_64 (k := k) (by omega)
        rw [pow8] at h1
        omega
      obtain ⟨c, hcc⟩ : ∃ c, c = l.getD (a + (s - (k + 1))) 0 := ⟨_, rfl⟩
      have hcell := hc (a + (s - (k + 1))) (by omega)
      obtain ⟨hr0, hr1⟩ := hr (a + (s - (k + 1)))
      have HG : Hid (gv l (a + (s - (k + 1))) (k + 1) = 256 * gv l (a + (s - k)) k + c) := by
        show _ = _
        rw [gv, hcc, show a + (s - (k + 1)) + 1 = a + (s - k) from by omega]; omega
      rw [← hcc, show a + (s - (k + 1)) = a + (s - 1 - k) from by omega] at hcell
      rw [← hcc] at hr0 hr1
      clear hcc hc hr g1
      generalize gv l (a + (s - k)) k = X at *
      go_wp2_with fail
      go_round
      case rel => exact ⟨k + 1, by omega, by go_num, by rw [HG.out]⟩
      case measure => simp [intOf]; omega
    · have : k = s := by omega
      subst this
      clear hc hr
      go_wp2_with fail
      go_ret3
      exact ⟨ret_3 (by simp) rfl rfl, rfl⟩

set_option maxRecDepth 100000 in
set_option maxHeartbeats 1000000 in
theorem fixed_short (s : Nat) (ad : Option Addr) (len cap : Nat) (a e : Nat) (w : World) (hs8 : s ≤ 8) (hlen : len ≤ 140737488351232) (hae : a ≤ e) (he : e ≤ len) (hs : e < a + s) :
    Calls Tryz.prog 60 #[.slice ad len cap, .int .i64 a, .int .i64 e, .int .i64 s] w fun en w' =>
      en = .returned (.tuple #[.int .u64 0, .int .i64 e, .int .i64 3]) ∧ w' = w := by
  go_enter Tryz.func60, Tryz.ntmps60
  go_wp2_with fail
  refine (reads_yes _ _ _ _ _ _ (by omega) (by omega) (by omega)).mono ?_
  rintro en w' ⟨rfl, rfl⟩
  go_wp2_with fail
  go_ret3
  exact ⟨rfl, rfl⟩

set_option maxRecDepth 100000 in
theorem fixed_no (s : Nat) (ad : Option Addr) (len cap : Nat) (x y : Int) (w : World) (h : ¬ (0 ≤ x ∧ x ≤ y ∧ y ≤ len)) :
    Calls Tryz.prog 60 #[.slice ad len cap, .int .i64 x, .int .i64 y, .int .i64 s] w fun en w' =>
      en = .returned (.tuple #[.int .u64 0, .int .i64 0, .int .i64 1]) ∧ w' = w := by
  have c1 := reads_no ad len cap x y w h
  clear h
  go_enter Tryz.func60, Tryz.ntmps60
  go_wp2_with fail
  refine c1.mono ?_
  rintro en w' ⟨rfl, rfl⟩
  clear c1
  go_wp2_with fail
  go_ret3
  exact ⟨rfl, rfl⟩

end Go.Proofs.YtohapnninjdlfaaGreatDoor
