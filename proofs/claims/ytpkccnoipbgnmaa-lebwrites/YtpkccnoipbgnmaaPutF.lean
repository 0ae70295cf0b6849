/-
  The walks of leb.PutF32, leb.PutF64 and of the document's PutFixed: each gives a slice of its own that holds the bytes of a float, the lowest first; no statement is proved here.
-/
import Derived.Test.YtpkccnoipbgnmaaKit
import Derived.Test.YtpkccnoipbgnmaaPutMath
namespace Go.Proofs.Ytpkccnoipbgnmaa
open Go.RowKit
set_option linter.unusedVariables false

/- Behind k rounds of writing n's bytes: X is left, acc is written. -/
def StF (s : Nat) (n : Int) (k : Nat) (X : Int) (acc : List Int) : Prop := k ≤ s ∧ acc.length = k ∧ acc ++ fixB (s - k) X = fixB s n
theorem StF.start (s : Nat) (n : Int) : StF s n 0 n [] := ⟨by omega, rfl, rfl⟩
theorem StF.step {s : Nat} {n : Int} {k : Nat} {X : Int} {acc : List Int} (h : StF s n k X acc) (hk : k < s) : StF s n (k + 1) (X / 256) (acc ++ [X % 256]) := by
  obtain ⟨_, hl, ha⟩ := h
  refine ⟨by omega, by simp [hl], ?_⟩
  rw [← ha, show s - k = (s - (k + 1)) + 1 from by omega]
  simp [fixB]
theorem StF.stop {s : Nat} {n : Int} {k : Nat} {X : Int} {acc : List Int} (h : StF s n k X acc) (hk : ¬ k < s) : acc = fixB s n := by
  obtain ⟨_, hl, ha⟩ := h
  rw [← ha, show s - k = 0 from by omega]; simp [fixB]

set_option maxRecDepth 100000 in
set_option maxHeartbeats 400000 in
theorem refPutFixed_any (n : Int) (s : Nat) (w : World) (hs : s ≤ 8) (h0 : 0 ≤ n) (h1 : n ≤ 18446744073709551615) :
    Calls Try.prog 23 #[.int .u64 n, .int .i64 s] w fun e w' => ∃ v, e = .returned v ∧ Has w.heap.size w w' v (fixB s n) := by
  have hst := StF.start s n
  have hha := Has.nil w
  go_enter Try.func23, Try.ntmps23
  go_wp2
  go_loopw [0, 5, 6] (fun x v i wr => ∃ (k : Nat) (X : Int) (acc : List Int), x = .int .u64 X ∧ i = .int .i64 k ∧ k ≤ s ∧ acc.length = k ∧ 0 ≤ X ∧ X ≤ 18446744073709551615 ∧ StF s n k X acc ∧ Has w.heap.size w wr v acc)
    (fun _ _ i _ => s - (intOf i).toNat)
  case atStart => exact ⟨0, n, [], rfl, rfl, by omega, rfl, h0, h1, hst, hha⟩
  case round =>
    obtain ⟨k, X, acc, rfl, rfl, hk, hl, hX0, hX1, hS, hh⟩ := hrel
    have HL : Hid (acc.length = k) := hl
    have hl' : acc.length ≤ 8 := by omega
    clear h0 h1 hst hha hl
    by_cases hlt : k < s
    · have hm : X % 256 % 256 = X % 256 := by omega
      go_wp2_with (at_builtin; refine wp_app1 rfl _ _ rfl rfl rfl hh (by omega) ?_; intro v' w1 hh1)
      go_roundw
      case rel => exact ⟨k + 1, X / 256, _, rfl, by go_num, by omega, by simp [HL.out], by omega, by omega, hS.step hlt, hm ▸ hh1⟩
      case measure => simp [intOf]; omega
    · go_wp2
      go_ret
      exact ⟨_, rfl, by rw [← hS.stop hlt]; exact hh⟩

theorem shiftB (n : Int) (h0 : 0 ≤ n) (k : Nat) : n / 2 ^ (8 * k) = n / 256 ^ k := by
  rw [Int.pow_mul]; rfl

/- The row that is being filled: k bytes are written, the rest is 0. -/
def rowF (s : Nat) (n : Int) (k : Nat) : List Int := fixB k n ++ List.replicate (s - k) 0
theorem rowF_start (s : Nat) (n : Int) : rowF s n 0 = List.replicate s 0 := by simp [rowF, fixB]
theorem rowF_stop (s : Nat) (n : Int) (k : Nat) (h : s ≤ k) (h' : k ≤ s) : rowF s n k = fixB s n := by
  have : k = s := by omega
  subst this; simp [rowF]
theorem rowF_step (s : Nat) (n : Int) (k : Nat) (h : k < s) : (U8 (rowF s n k)).set k (.int .u8 (n / 256 ^ k % 256)) = U8 (rowF s n (k + 1)) := by
  rw [rowF, rowF, fixB_snoc, show s - k = (s - (k + 1)) + 1 from by omega, List.replicate_succ]
  simp only [U8, List.map_append, List.map_cons]
  rw [List.set_append_right _ _ (by simp [fixB_len])]
  simp [fixB_len]
theorem rowF_len (s : Nat) (n : Int) (k : Nat) (h : k ≤ s) : (rowF s n k).length = s := by simp [rowF, fixB_len]; omega
theorem rowF_at (s : Nat) (n : Int) (k : Nat) (h : k < s) : (U8 (rowF s n k))[k]? = some (.int .u8 0) := by
  rw [rowF, show s - k = (s - (k + 1)) + 1 from by omega, List.replicate_succ]
  simp [U8, fixB_len]

set_option maxRecDepth 100000 in
set_option maxHeartbeats 400000 in
theorem putBits_any (n : Int) (s : Nat) (w : World) (hs : s ≤ 8) (h0 : 0 ≤ n) (h1 : n ≤ 18446744073709551615) :
    Calls Try.prog 45 #[.int .u64 n, .int .i64 s] w fun e w' => ∃ v, e = .returned v ∧ Has w.heap.size w w' v (fixB s n) := by
  obtain ⟨i0, hi, hz0, hz1, hz2⟩ := info_parts Try.info5
  go_enter Try.func45, Try.ntmps45
  go_wp2_with (at_make; refine wpList_make_full _ rfl _ _ 22 rfl w.heap.size 5 i0 (.int .u8 0) 1 Try.underlying22 hi hz0 hz1 .i64 .i64 _ _ s rfl rfl rfl rfl (by rw [hz2]; omega) (by unfold maxLen; omega) (Nat.le_refl _) ?_; intro w1 hown hgr)
  have hr0 : w1.ownsRow w.heap.size 5 1 (.slice (some ⟨w.heap.size, 0, none⟩) s s) s (U8 (rowF s n 0)) := by
    rw [rowF_start]
    have e : (madeCells (Value.int .u8 0).cells (s * 1)).toList = U8 (List.replicate s 0) := by
      rw [Nat.mul_one]; show (madeCells #[Value.int .u8 0] s).toList = _
      rw [toList_madeCells_one]; simp [U8]
    rw [← e]; exact hown
  have hb0 : Below w.heap.size w w1 := (Below.refl _ _).grown hgr (Nat.le_refl _) (fun k h => by cases h)
  clear hown hgr
  go_loopw [6, 11] (fun _ i wr => ∃ k : Nat, k ≤ s ∧ i = .int .i64 k ∧ wr.ownsRow w.heap.size 5 1 (.slice (some ⟨w.heap.size, 0, none⟩) s s) s (U8 (rowF s n k)) ∧ Below w.heap.size w wr)
    (fun _ i _ => s - (intOf i).toNat)
  case atStart => exact ⟨0, by omega, rfl, hr0, hb0⟩
  case round =>
    obtain ⟨k, hk, rfl, hr, hb⟩ := hrel
    clear hr0 hb0
    by_cases hlt : k < s
    · have hc : wr.cell? ⟨w.heap.size, k, none⟩ = some (.int .u8 0) := by rw [hr.cellAt k (by omega)]; exact rowF_at s n k hlt
      have hf := hr.frozenAt k
      go_wp2
      go_roundw
      case rel => exact ⟨k + 1, by omega, by go_num, by rw [← rowF_step s n k hlt, ← shiftB n h0]; exact (hr.stored k _).1, hb.setCell (Nat.le_refl _) _⟩
      case measure => simp [intOf]; omega
    · go_wp2
      go_ret
      refine ⟨_, rfl, ?_⟩
      rw [rowF_stop s n k (by omega) hk] at hr
      exact ⟨by rw [fixB_len]; exact hr, hb, hb.size⟩

set_option maxRecDepth 100000 in
theorem putF32_any (n : Int) (w : World) (h0 : 0 ≤ n) (h1 : n ≤ 4294967295) :
    Calls Try.prog 22 #[.int .u32 n] w fun e w' => ∃ v, e = .returned v ∧ Has w.heap.size w w' v (fixB 4 n) := by
  go_enter Try.func22, Try.ntmps22
  go_wp2_with fail
  refine (putBits_any n 4 w (by omega) h0 (by omega)).mono ?_
  rintro e w' ⟨v, rfl, hh⟩
  go_wp2
  go_ret
  exact ⟨_, rfl, hh⟩
set_option maxRecDepth 100000 in
theorem putF64_any (n : Int) (w : World) (h0 : 0 ≤ n) (h1 : n ≤ 18446744073709551615) :
    Calls Try.prog 24 #[.int .u64 n] w fun e w' => ∃ v, e = .returned v ∧ Has w.heap.size w w' v (fixB 8 n) := by
  go_enter Try.func24, Try.ntmps24
  go_wp2_with fail
  refine (putBits_any n 8 w (by omega) h0 (by omega)).mono ?_
  rintro e w' ⟨v, rfl, hh⟩
  go_wp2
  go_ret
  exact ⟨_, rfl, hh⟩
end Go.Proofs.Ytpkccnoipbgnmaa
