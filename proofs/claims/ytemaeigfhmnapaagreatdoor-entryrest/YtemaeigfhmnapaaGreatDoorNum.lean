/-
  The walks of the document's Number at the five kinds of numbers, within bounds; no statement is proved here.
-/
import Derived.Test.YtemaeigfhmnapaaGreatDoorReadA
namespace Go.Proofs.YtemaeigfhmnapaaGreatDoor
open Go.RowKit
set_option linter.unusedVariables false

theorem k8 {k : Nat} (h : k ≤ 8) : k = 0 ∨ k = 1 ∨ k = 2 ∨ k = 3 ∨ k = 4 ∨ k = 5 ∨ k = 6 ∨ k = 7 ∨ k = 8 := by omega
theorem wsRef_yes {X c : Int} {k : Nat} (hk : k ≤ 8) (h0 : 0 ≤ X) (hX : X < 2 ^ (7 * k)) (hc : 64 ≤ c) (hc' : c < 128) :
    ws (addAt X c k) (7 * k + 7) true = IntKind.u64.wrap (addAt X c k - IntKind.u64.wrap (2 ^ (7 * k + 7))) := by
  rw [IntKind.wrap_u64, IntKind.wrap_u64, ws, addAt]
  rcases k8 hk with rfl | rfl | rfl | rfl | rfl | rfl | rfl | rfl | rfl <;> simp at hX ⊢ <;> (rw [if_pos (by omega)]; omega)
theorem wsRef_no {X c : Int} {k : Nat} (h0 : 0 ≤ X) (hX : X < 2 ^ (7 * k)) (hc0 : 0 ≤ c) (hc : c < 64) :
    ws (addAt X c k) (7 * k + 7) true = addAt X c k := by
  by_cases hk : k ≤ 8
  · rw [ws, addAt]
    rcases k8 hk with rfl | rfl | rfl | rfl | rfl | rfl | rfl | rfl | rfl <;> simp at hX ⊢ <;> omega
  · rw [ws, if_neg (by omega)]
theorem ws9 {n : Int} {k : Nat} (hk : 9 ≤ k) : ws n (7 * k + 7) true = n := by rw [ws, if_neg (by omega)]
theorem wsU {n : Int} {k : Nat} : ws n k false = n := by simp [ws]
theorem addStep (X c : Int) (k : Nat) (h0 : 0 ≤ X) (hX : X < 2 ^ (7 * k)) (hk : k ≤ 9) : IntKind.u64.wrap (X + IntKind.u64.wrap (c % 128 * 2 ^ (7 * k))) = addAt X c k := by
  have := addAt_64 (c := c) h0 hX hk
  have h1 := addAt_lo (c := c) k h0
  unfold addAt at *
  rw [IntKind.wrap_u64, IntKind.wrap_u64]; omega

theorem last_32u' (c : Int) (k : Nat) (w : World) (h0 : 0 ≤ c) (h1 : c ≤ 255) (hk : k = 4) :
    Calls Tryz.prog 78 #[.int .u8 c, .int .i64 32, .int .i64 k, .bool false] w fun e w' => e = .returned (.bool (okB 4 false c)) ∧ w' = w := by
  subst hk; exact last_32u c w h0 h1
set_option maxRecDepth 100000 in
set_option maxHeartbeats 1000000 in
theorem num32u_in (b off cap : Nat) (l : List Int) (a e : Nat) (w : World) (hlen : l.length ≤ 140737488351232) (hae : a ≤ e) (he : e ≤ l.length)
    (hc : ∀ j, j < l.length → w.cell? ⟨b, off + j, none⟩ = some (.int .u8 (l.getD j 0))) (hr : ∀ j, 0 ≤ l.getD j 0 ∧ l.getD j 0 ≤ 255) :
    Calls Tryz.prog 64 #[.slice (some ⟨b, off, none⟩) l.length cap, .int .i64 a, .int .i64 e, .int .i64 32, .bool false] w fun en w' =>
      ∃ n p q, scan 4 (okB 4 false) false (seg l a e) 0 0 = (n, p, q) ∧ en = .returned (.tuple #[.int .u64 n, .int .i64 (a + p), .int .i64 q]) ∧ w' = w := by
  have hst := St.start (m := 4) (ok := okB 4 false) (sg := false) (l := l) (a := a) (e := e)
  go_enter Tryz.func64, Tryz.ntmps64
  go_wp2_with fail
  refine (reads_yes _ _ _ _ _ _ (by omega) (by omega) (by omega)).mono ?_
  rintro en w' ⟨rfl, rfl⟩
  go_wp2_with fail
  go_loop [14, 15, 16] (fun n i _ => ∃ (k : Nat) (X : Int), k ≤ 4 ∧ a + k ≤ e ∧ i = .int .i64 k ∧ n = .int .u64 X ∧ 0 ≤ X ∧ X < 2 ^ (7 * k) ∧ St 4 (okB 4 false) false l a e k X)
    (fun _ i _ => 5 - (intOf i).toNat)
  case atStart => exact ⟨0, 0, by omega, by omega, rfl, rfl, by omega, by decide, hst⟩
  case round =>
    obtain ⟨k, X, hk, hj, rfl, rfl, hX0, hX1, hS⟩ := hrel
    have HX : Hid (X < 2 ^ (7 * k)) := hX1
    clear hst hX1
    by_cases hlt : a + k < e
    · obtain ⟨c, hcc⟩ : ∃ c, c = l.getD (a + k) 0 := ⟨_, rfl⟩
      have hcell := hc (a + k) (by omega)
      obtain ⟨hr0, hr1⟩ := hr (a + k)
      rw [← hcc] at hcell hr0 hr1
      have HC : Hid (c = l.getD (a + k) 0) := hcc
      have hadd := addStep X c k hX0 HX.out (by omega)
      have hA0 := addAt_lo (c := c) k hX0
      have hA1 := addAt_64 (c := c) hX0 HX.out (by omega)
      clear hcc hc hr
      by_cases hk4 : 4 ≤ k
      · have hkb : ((k : Int) == 4) = true := beq_iff_eq.2 (by omega)
        cases ho : okB 4 false c with
        | false =>
          go_wp2_with fail
          refine (last_32u' c k _ hr0 hr1 (by omega)).mono ?_
          rintro en w1 ⟨rfl, rfl⟩
          go_wp2_with fail
          go_ret3
          exact ⟨_, _, _, hS.form hlt he HC.out (by omega) ho, ret_3 rfl (by omega) rfl, rfl⟩
        | true =>
          have h128 := okB_lt ho
          go_wp2_with fail
          refine (last_32u' c k _ hr0 hr1 (by omega)).mono ?_
          rintro en w1 ⟨rfl, rfl⟩
          go_wp2_with fail
          go_ret3
          exact ⟨_, _, _, hS.done hlt he HC.out (fun _ => ho) h128, ret_3 wsU.symm (by omega) rfl, rfl⟩
      · by_cases h128 : c < 128
        · have hkb : ((k : Int) == 4) = false := beq_eq_false_iff_ne.2 (by omega)
          go_wp2_with fail
          go_ret3
          exact ⟨_, _, _, hS.done hlt he HC.out (fun h => absurd h (by omega)) h128, ret_3 wsU.symm (by omega) rfl, rfl⟩
        · have hkb : ((k : Int) == 4) = false := beq_eq_false_iff_ne.2 (by omega)
          go_wp2_with fail
          go_round
          case rel => exact ⟨k + 1, addAt X c k, by omega, by omega, by go_num, rfl, hA0, addAt_hi HX.out (by omega), hS.next hlt he HC.out (fun h => absurd h (by omega)) h128⟩
          case measure => simp [intOf]; omega
    · go_wp2_with fail
      go_ret3
      exact ⟨_, _, _, hS.short (by omega), ret_3 rfl (by omega) rfl, rfl⟩

theorem last_64u' (c : Int) (k : Nat) (w : World) (h0 : 0 ≤ c) (h1 : c ≤ 255) (hk : k = 9) :
    Calls Tryz.prog 78 #[.int .u8 c, .int .i64 64, .int .i64 k, .bool false] w fun e w' => e = .returned (.bool (okB 1 false c)) ∧ w' = w := by
  subst hk; exact last_64u c w h0 h1
set_option maxRecDepth 100000 in
set_option maxHeartbeats 1000000 in
theorem num64u_in (b off cap : Nat) (l : List Int) (a e : Nat) (w : World) (hlen : l.length ≤ 140737488351232) (hae : a ≤ e) (he : e ≤ l.length)
    (hc : ∀ j, j < l.length → w.cell? ⟨b, off + j, none⟩ = some (.int .u8 (l.getD j 0))) (hr : ∀ j, 0 ≤ l.getD j 0 ∧ l.getD j 0 ≤ 255) :
    Calls Tryz.prog 64 #[.slice (some ⟨b, off, none⟩) l.length cap, .int .i64 a, .int .i64 e, .int .i64 64, .bool false] w fun en w' =>
      ∃ n p q, scan 9 (okB 1 false) false (seg l a e) 0 0 = (n, p, q) ∧ en = .returned (.tuple #[.int .u64 n, .int .i64 (a + p), .int .i64 q]) ∧ w' = w := by
  have hst := St.start (m := 9) (ok := okB 1 false) (sg := false) (l := l) (a := a) (e := e)
  go_enter Tryz.func64, Tryz.ntmps64
  go_wp2_with fail
  refine (reads_yes _ _ _ _ _ _ (by omega) (by omega) (by omega)).mono ?_
  rintro en w' ⟨rfl, rfl⟩
  go_wp2_with fail
  go_loop [14, 15, 16] (fun n i _ => ∃ (k : Nat) (X : Int), k ≤ 9 ∧ a + k ≤ e ∧ i = .int .i64 k ∧ n = .int .u64 X ∧ 0 ≤ X ∧ X < 2 ^ (7 * k) ∧ St 9 (okB 1 false) false l a e k X)
    (fun _ i _ => 10 - (intOf i).toNat)
  case atStart => exact ⟨0, 0, by omega, by omega, rfl, rfl, by omega, by decide, hst⟩
  case round =>
    obtain ⟨k, X, hk, hj, rfl, rfl, hX0, hX1, hS⟩ := hrel
    have HX : Hid (X < 2 ^ (7 * k)) := hX1
    clear hst hX1
    by_cases hlt : a + k < e
    · obtain ⟨c, hcc⟩ : ∃ c, c = l.getD (a + k) 0 := ⟨_, rfl⟩
      have hcell := hc (a + k) (by omega)
      obtain ⟨hr0, hr1⟩ := hr (a + k)
      rw [← hcc] at hcell hr0 hr1
      have HC : Hid (c = l.getD (a + k) 0) := hcc
      have hadd := addStep X c k hX0 HX.out (by omega)
      have hA0 := addAt_lo (c := c) k hX0
      have hA1 := addAt_64 (c := c) hX0 HX.out (by omega)
      clear hcc hc hr
      by_cases hk4 : 9 ≤ k
      · have hkb : ((k : Int) == 9) = true := beq_iff_eq.2 (by omega)
        cases ho : okB 1 false c with
        | false =>
          go_wp2_with fail
          refine (last_64u' c k _ hr0 hr1 (by omega)).mono ?_
          rintro en w1 ⟨rfl, rfl⟩
          go_wp2_with fail
          go_ret3
          exact ⟨_, _, _, hS.form hlt he HC.out (by omega) ho, ret_3 rfl (by omega) rfl, rfl⟩
        | true =>
          have h128 := okB_lt ho
          go_wp2_with fail
          refine (last_64u' c k _ hr0 hr1 (by omega)).mono ?_
          rintro en w1 ⟨rfl, rfl⟩
          go_wp2_with fail
          go_ret3
          exact ⟨_, _, _, hS.done hlt he HC.out (fun _ => ho) h128, ret_3 wsU.symm (by omega) rfl, rfl⟩
      · by_cases h128 : c < 128
        · have hkb : ((k : Int) == 9) = false := beq_eq_false_iff_ne.2 (by omega)
          go_wp2_with fail
          go_ret3
          exact ⟨_, _, _, hS.done hlt he HC.out (fun h => absurd h (by omega)) h128, ret_3 wsU.symm (by omega) rfl, rfl⟩
        · have hkb : ((k : Int) == 9) = false := beq_eq_false_iff_ne.2 (by omega)
          go_wp2_with fail
          go_round
          case rel => exact ⟨k + 1, addAt X c k, by omega, by omega, by go_num, rfl, hA0, addAt_hi HX.out (by omega), hS.next hlt he HC.out (fun h => absurd h (by omega)) h128⟩
          case measure => simp [intOf]; omega
    · go_wp2_with fail
      go_ret3
      exact ⟨_, _, _, hS.short (by omega), ret_3 rfl (by omega) rfl, rfl⟩

theorem last_32s' (c : Int) (k : Nat) (w : World) (h0 : 0 ≤ c) (h1 : c ≤ 255) (hk : k = 4) :
    Calls Tryz.prog 78 #[.int .u8 c, .int .i64 32, .int .i64 k, .bool true] w fun e w' => e = .returned (.bool (okB 4 true c)) ∧ w' = w := by
  subst hk; exact last_32s c w h0 h1
set_option maxRecDepth 100000 in
set_option maxHeartbeats 1000000 in
theorem num32s_in (b off cap : Nat) (l : List Int) (a e : Nat) (w : World) (hlen : l.length ≤ 140737488351232) (hae : a ≤ e) (he : e ≤ l.length)
    (hc : ∀ j, j < l.length → w.cell? ⟨b, off + j, none⟩ = some (.int .u8 (l.getD j 0))) (hr : ∀ j, 0 ≤ l.getD j 0 ∧ l.getD j 0 ≤ 255) :
    Calls Tryz.prog 64 #[.slice (some ⟨b, off, none⟩) l.length cap, .int .i64 a, .int .i64 e, .int .i64 32, .bool true] w fun en w' =>
      ∃ n p q, scan 4 (okB 4 true) true (seg l a e) 0 0 = (n, p, q) ∧ en = .returned (.tuple #[.int .u64 n, .int .i64 (a + p), .int .i64 q]) ∧ w' = w := by
  have hst := St.start (m := 4) (ok := okB 4 true) (sg := true) (l := l) (a := a) (e := e)
  go_enter Tryz.func64, Tryz.ntmps64
  go_wp2_with fail
  refine (reads_yes _ _ _ _ _ _ (by omega) (by omega) (by omega)).mono ?_
  rintro en w' ⟨rfl, rfl⟩
  go_wp2_with fail
  go_loop [14, 15, 16] (fun n i _ => ∃ (k : Nat) (X : Int), k ≤ 4 ∧ a + k ≤ e ∧ i = .int .i64 k ∧ n = .int .u64 X ∧ 0 ≤ X ∧ X < 2 ^ (7 * k) ∧ St 4 (okB 4 true) true l a e k X)
    (fun _ i _ => 5 - (intOf i).toNat)
  case atStart => exact ⟨0, 0, by omega, by omega, rfl, rfl, by omega, by decide, hst⟩
  case round =>
    obtain ⟨k, X, hk, hj, rfl, rfl, hX0, hX1, hS⟩ := hrel
    have HX : Hid (X < 2 ^ (7 * k)) := hX1
    clear hst hX1
    by_cases hlt : a + k < e
    · obtain ⟨c, hcc⟩ : ∃ c, c = l.getD (a + k) 0 := ⟨_, rfl⟩
      have hcell := hc (a + k) (by omega)
      obtain ⟨hr0, hr1⟩ := hr (a + k)
      rw [← hcc] at hcell hr0 hr1
      have HC : Hid (c = l.getD (a + k) 0) := hcc
      have hadd := addStep X c k hX0 HX.out (by omega)
      have hA0 := addAt_lo (c := c) k hX0
      have hA1 := addAt_64 (c := c) hX0 HX.out (by omega)
      clear hcc hc hr
      by_cases hk4 : 4 ≤ k
      · have hkb : ((k : Int) == 4) = true := beq_iff_eq.2 (by omega)
        cases ho : okB 4 true c with
        | false =>
          go_wp2_with fail
          refine (last_32s' c k _ hr0 hr1 (by omega)).mono ?_
          rintro en w1 ⟨rfl, rfl⟩
          go_wp2_with fail
          go_ret3
          exact ⟨_, _, _, hS.form hlt he HC.out (by omega) ho, ret_3 rfl (by omega) rfl, rfl⟩
        | true =>
          have h128 := okB_lt ho
          go_wp2_with fail
          refine (last_32s' c k _ hr0 hr1 (by omega)).mono ?_
          rintro en w1 ⟨rfl, rfl⟩
          by_cases h64 : 64 ≤ c
          · go_wp2_with fail
            go_ret3
            exact ⟨_, _, _, hS.done hlt he HC.out (fun _ => ho) h128, ret_3 (wsRef_yes (by omega) hX0 HX.out h64 h128).symm (by omega) rfl, rfl⟩
          · go_wp2_with fail
            go_ret3
            exact ⟨_, _, _, hS.done hlt he HC.out (fun _ => ho) h128, ret_3 (wsRef_no hX0 HX.out hr0 (by omega)).symm (by omega) rfl, rfl⟩
      · by_cases h128 : c < 128
        · have hkb : ((k : Int) == 4) = false := beq_eq_false_iff_ne.2 (by omega)
          by_cases h64 : 64 ≤ c
          · go_wp2_with fail
            go_ret3
            exact ⟨_, _, _, hS.done hlt he HC.out (fun h => absurd h (by omega)) h128, ret_3 (wsRef_yes (by omega) hX0 HX.out h64 h128).symm (by omega) rfl, rfl⟩
          · go_wp2_with fail
            go_ret3
            exact ⟨_, _, _, hS.done hlt he HC.out (fun h => absurd h (by omega)) h128, ret_3 (wsRef_no hX0 HX.out hr0 (by omega)).symm (by omega) rfl, rfl⟩
        · have hkb : ((k : Int) == 4) = false := beq_eq_false_iff_ne.2 (by omega)
          go_wp2_with fail
          go_round
          case rel => exact ⟨k + 1, addAt X c k, by omega, by omega, by go_num, rfl, hA0, addAt_hi HX.out (by omega), hS.next hlt he HC.out (fun h => absurd h (by omega)) h128⟩
          case measure => simp [intOf]; omega
    · go_wp2_with fail
      go_ret3
      exact ⟨_, _, _, hS.short (by omega), ret_3 rfl (by omega) rfl, rfl⟩

theorem last_33s' (c : Int) (k : Nat) (w : World) (h0 : 0 ≤ c) (h1 : c ≤ 255) (hk : k = 4) :
    Calls Tryz.prog 78 #[.int .u8 c, .int .i64 33, .int .i64 k, .bool true] w fun e w' => e = .returned (.bool (okB 5 true c)) ∧ w' = w := by
  subst hk; exact last_33s c w h0 h1
set_option maxRecDepth 100000 in
set_option maxHeartbeats 1000000 in
theorem num33s_in (b off cap : Nat) (l : List Int) (a e : Nat) (w : World) (hlen : l.length ≤ 140737488351232) (hae : a ≤ e) (he : e ≤ l.length)
    (hc : ∀ j, j < l.length → w.cell? ⟨b, off + j, none⟩ = some (.int .u8 (l.getD j 0))) (hr : ∀ j, 0 ≤ l.getD j 0 ∧ l.getD j 0 ≤ 255) :
    Calls Tryz.prog 64 #[.slice (some ⟨b, off, none⟩) l.length cap, .int .i64 a, .int .i64 e, .int .i64 33, .bool true] w fun en w' =>
      ∃ n p q, scan 4 (okB 5 true) true (seg l a e) 0 0 = (n, p, q) ∧ en = .returned (.tuple #[.int .u64 n, .int .i64 (a + p), .int .i64 q]) ∧ w' = w := by
  have hst := St.start (m := 4) (ok := okB 5 true) (sg := true) (l := l) (a := a) (e := e)
  go_enter Tryz.func64, Tryz.ntmps64
  go_wp2_with fail
  refine (reads_yes _ _ _ _ _ _ (by omega) (by omega) (by omega)).mono ?_
  rintro en w' ⟨rfl, rfl⟩
  go_wp2_with fail
  go_loop [14, 15, 16] (fun n i _ => ∃ (k : Nat) (X : Int), k ≤ 4 ∧ a + k ≤ e ∧ i = .int .i64 k ∧ n = .int .u64 X ∧ 0 ≤ X ∧ X < 2 ^ (7 * k) ∧ St 4 (okB 5 true) true l a e k X)
    (fun _ i _ => 5 - (intOf i).toNat)
  case atStart => exact ⟨0, 0, by omega, by omega, rfl, rfl, by omega, by decide, hst⟩
  case round =>
    obtain ⟨k, X, hk, hj, rfl, rfl, hX0, hX1, hS⟩ := hrel
    have HX : Hid (X < 2 ^ (7 * k)) := hX1
    clear hst hX1
    by_cases hlt : a + k < e
    · obtain ⟨c, hcc⟩ : ∃ c, c = l.getD (a + k) 0 := ⟨_, rfl⟩
      have hcell := hc (a + k) (by omega)
      obtain ⟨hr0, hr1⟩ := hr (a + k)
      rw [← hcc] at hcell hr0 hr1
      have HC : Hid (c = l.getD (a + k) 0) := hcc
      have hadd := addStep X c k hX0 HX.out (by omega)
      have hA0 := addAt_lo (c := c) k hX0
      have hA1 := addAt_64 (c := c) hX0 HX.out (by omega)
      clear hcc hc hr
      by_cases hk4 : 4 ≤ k
      · have hkb : ((k : Int) == 4) = true := beq_iff_eq.2 (by omega)
        cases ho : okB 5 true c with
        | false =>
          go_wp2_with fail
          refine (last_33s' c k _ hr0 hr1 (by omega)).mono ?_
          rintro en w1 ⟨rfl, rfl⟩
          go_wp2_with fail
          go_ret3
          exact ⟨_, _, _, hS.form hlt he HC.out (by omega) ho, ret_3 rfl (by omega) rfl, rfl⟩
        | true =>
          have h128 := okB_lt ho
          go_wp2_with fail
          refine (last_33s' c k _ hr0 hr1 (by omega)).mono ?_
          rintro en w1 ⟨rfl, rfl⟩
          by_cases h64 : 64 ≤ c
          · go_wp2_with fail
            go_ret3
            exact ⟨_, _, _, hS.done hlt he HC.out (fun _ => ho) h128, ret_3 (wsRef_yes (by omega) hX0 HX.out h64 h128).symm (by omega) rfl, rfl⟩
          · go_wp2_with fail
            go_ret3
            exact ⟨_, _, _, hS.done hlt he HC.out (fun _ => ho) h128, ret_3 (wsRef_no hX0 HX.out hr0 (by omega)).symm (by omega) rfl, rfl⟩
      · by_cases h128 : c < 128
        · have hkb : ((k : Int) == 4) = false := beq_eq_false_iff_ne.2 (by omega)
          by_cases h64 : 64 ≤ c
          · go_wp2_with fail
            go_ret3
            exact ⟨_, _, _, hS.done hlt he HC.out (fun h => absurd h (by omega)) h128, ret_3 (wsRef_yes (by omega) hX0 HX.out h64 h128).symm (by omega) rfl, rfl⟩
          · go_wp2_with fail
            go_ret3
            exact ⟨_, _, _, hS.done hlt he HC.out (fun h => absurd h (by omega)) h128, ret_3 (wsRef_no hX0 HX.out hr0 (by omega)).symm (by omega) rfl, rfl⟩
        · have hkb : ((k : Int) == 4) = false := beq_eq_false_iff_ne.2 (by omega)
          go_wp2_with fail
          go_round
          case rel => exact ⟨k + 1, addAt X c k, by omega, by omega, by go_num, rfl, hA0, addAt_hi HX.out (by omega), hS.next hlt he HC.out (fun h => absurd h (by omega)) h128⟩
          case measure => simp [intOf]; omega
    · go_wp2_with fail
      go_ret3
      exact ⟨_, _, _, hS.short (by omega), ret_3 rfl (by omega) rfl, rfl⟩

theorem last_64s' (c : Int) (k : Nat) (w : World) (h0 : 0 ≤ c) (h1 : c ≤ 255) (hk : k = 9) :
    Calls Tryz.prog 78 #[.int .u8 c, .int .i64 64, .int .i64 k, .bool true] w fun e w' => e = .returned (.bool (okB 1 true c)) ∧ w' = w := by
  subst hk; exact last_64s c w h0 h1
set_option maxRecDepth 100000 in
set_option maxHeartbeats 1000000 in
theorem num64s_in (b off cap : Nat) (l : List Int) (a e : Nat) (w : World) (hlen : l.length ≤ 140737488351232) (hae : a ≤ e) (he : e ≤ l.length)
    (hc : ∀ j, j < l.length → w.cell? ⟨b, off + j, none⟩ = some (.int .u8 (l.getD j 0))) (hr : ∀ j, 0 ≤ l.getD j 0 ∧ l.getD j 0 ≤ 255) :
    Calls Tryz.prog 64 #[.slice (some ⟨b, off, none⟩) l.length cap, .int .i64 a, .int .i64 e, .int .i64 64, .bool true] w fun en w' =>
      ∃ n p q, scan 9 (okB 1 true) true (seg l a e) 0 0 = (n, p, q) ∧ en = .returned (.tuple #[.int .u64 n, .int .i64 (a + p), .int .i64 q]) ∧ w' = w := by
  have hst := St.start (m := 9) (ok := okB 1 true) (sg := true) (l := l) (a := a) (e := e)
  go_enter Tryz.func64, Tryz.ntmps64
  go_wp2_with fail
  refine (reads_yes _ _ _ _ _ _ (by omega) (by omega) (by omega)).mono ?_
  rintro en w' ⟨rfl, rfl⟩
  go_wp2_with fail
  go_loop [14, 15, 16] (fun n i _ => ∃ (k : Nat) (X : Int), k ≤ 9 ∧ a + k ≤ e ∧ i = .int .i64 k ∧ n = .int .u64 X ∧ 0 ≤ X ∧ X < 2 ^ (7 * k) ∧ St 9 (okB 1 true) true l a e k X)
    (fun _ i _ => 10 - (intOf i).toNat)
  case atStart => exact ⟨0, 0, by omega, by omega, rfl, rfl, by omega, by decide, hst⟩
  case round =>
    obtain ⟨k, X, hk, hj, rfl, rfl, hX0, hX1, hS⟩ := hrel
    have HX : Hid (X < 2 ^ (7 * k)) := hX1
    clear hst hX1
    by_cases hlt : a + k < e
    · obtain ⟨c, hcc⟩ : ∃ c, c = l.getD (a + k) 0 := ⟨_, rfl⟩
      have hcell := hc (a + k) (by omega)
      obtain ⟨hr0, hr1⟩ := hr (a + k)
      rw [← hcc] at hcell hr0 hr1
      have HC : Hid (c = l.getD (a + k) 0) := hcc
      have hadd := addStep X c k hX0 HX.out (by omega)
      have hA0 := addAt_lo (c := c) k hX0
      have hA1 := addAt_64 (c := c) hX0 HX.out (by omega)
      clear hcc hc hr
      by_cases hk4 : 9 ≤ k
      · have hkb : ((k : Int) == 9) = true := beq_iff_eq.2 (by omega)
        cases ho : okB 1 true c with
        | false =>
          go_wp2_with fail
          refine (last_64s' c k _ hr0 hr1 (by omega)).mono ?_
          rintro en w1 ⟨rfl, rfl⟩
          go_wp2_with fail
          go_ret3
          exact ⟨_, _, _, hS.form hlt he HC.out (by omega) ho, ret_3 rfl (by omega) rfl, rfl⟩
        | true =>
          have h128 := okB_lt ho
          go_wp2_with fail
          refine (last_64s' c k _ hr0 hr1 (by omega)).mono ?_
          rintro en w1 ⟨rfl, rfl⟩
          by_cases h64 : 64 ≤ c
          · go_wp2_with fail
            go_ret3
            exact ⟨_, _, _, hS.done hlt he HC.out (fun _ => ho) h128, ret_3 (ws9 hk4).symm (by omega) rfl, rfl⟩
          · go_wp2_with fail
            go_ret3
            exact ⟨_, _, _, hS.done hlt he HC.out (fun _ => ho) h128, ret_3 (ws9 hk4).symm (by omega) rfl, rfl⟩
      · by_cases h128 : c < 128
        · have hkb : ((k : Int) == 9) = false := beq_eq_false_iff_ne.2 (by omega)
          by_cases h64 : 64 ≤ c
          · go_wp2_with fail
            go_ret3
            exact ⟨_, _, _, hS.done hlt he HC.out (fun h => absurd h (by omega)) h128, ret_3 (wsRef_yes (by omega) hX0 HX.out h64 h128).symm (by omega) rfl, rfl⟩
          · go_wp2_with fail
            go_ret3
            exact ⟨_, _, _, hS.done hlt he HC.out (fun h => absurd h (by omega)) h128, ret_3 (wsRef_no hX0 HX.out hr0 (by omega)).symm (by omega) rfl, rfl⟩
        · have hkb : ((k : Int) == 9) = false := beq_eq_false_iff_ne.2 (by omega)
          go_wp2_with fail
          go_round
          case rel => exact ⟨k + 1, addAt X c k, by omega, by omega, by go_num, rfl, hA0, addAt_hi HX.out (by omega), hS.next hlt he HC.out (fun h => absurd h (by omega)) h128⟩
          case measure => simp [intOf]; omega
    · go_wp2_with fail
      go_ret3
      exact ⟨_, _, _, hS.short (by omega), ret_3 rfl (by omega) rfl, rfl⟩

end Go.Proofs.YtemaeigfhmnapaaGreatDoor
