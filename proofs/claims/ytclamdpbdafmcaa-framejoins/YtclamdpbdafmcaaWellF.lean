/-
  The walks of the program's wellFormed and Utf8; no statement is proved here.
-/
import Derived.Test.YtclamdpbdafmcaaBegun
namespace Go.Proofs.Ytclamdpbdafmcaa
open Go.RowKit
set_option linter.unusedVariables false

theorem Grew.iter (w : World) (s : ByteArray) (pos : Nat) : Grew w (w.iter s pos) := (Grew.refl w).alloc _
theorem ret_place {a a' : Int} {b b' : Bool} (h1 : a = a') (h2 : b = b') : Ending.returned (.tuple #[.int .i64 a, .bool b]) = .returned (.tuple #[.int .i64 a', .bool b']) := by rw [h1, h2]

theorem stop_le (l : List Int) (a : Nat) : stop l a ≤ 4 := by
  unfold stop
  have h := lt_cases (l.getD a 0)
  split
  · omega
  · have := run_le l a (lt (l.getD a 0)) (l.getD a 0) 4 1 (by omega)
    omega

set_option maxRecDepth 100000 in
set_option maxHeartbeats 4000000 in
theorem wf_any (l : List Int) (w : World) (hb : Byt l) (hlen : l.length ≤ 140737488351232) :
    Calls Try.prog 31 #[.string (strOfNums l)] w fun e w' => e = .returned (.tuple #[.int .i64 (U l).1, .bool (U l).2]) ∧ Grew w w' := by
  have hsz := strOfNums_size l
  have HSL : Hid (∀ (i : Nat) (w : World), i ≤ l.length → (Instr.slice 9 (.string (strOfNums l)) (some (.int .i64 i)) none none).run Try.prog w = .ok (.string (strOfNums (l.drop i))) w) := by
    intro i w hi
    rw [run_slice_string_from_if w 9 _ .i64 i Try.underlying9, if_pos (by rw [hsz]; omega), Int.toNat_natCast, str_drop _ i _ hsz]
  have HD1 : Hid (∀ pos, pos < l.length → whole l pos → (Utf8.decode (strOfNums l) pos).2 = lt (l.getD pos 0) ∧ ((Utf8.decode (strOfNums l) pos).1 = 65533 → (l.drop pos).take 3 = [239, 191, 189])) := fun pos h hw => dec_whole hb h hw
  have HD2 : Hid (∀ pos, pos < l.length → ¬ whole l pos → Utf8.decode (strOfNums l) pos = (65533, 1) ∧ (l.drop pos).take 3 ≠ [239, 191, 189]) := fun pos h hw => dec_bad hb h hw
  have HP : Hid (∀ (pos : Nat) (b : Bool) (w : World), b = decide ((l.drop pos).take 3 = [239, 191, 189]) → Calls Try.prog 49 #[.string (strOfNums (l.drop pos)), .string ⟨#[239, 191, 189]⟩] w fun e w' => e = .returned (.bool b) ∧ w' = w) :=
    fun pos b w h => prefix_any (l.drop pos) b w h (hb.drop pos)
  have HB : Hid (∀ (pos : Nat) (w : World), pos < l.length → ¬ whole l pos → Calls Try.prog 50 #[.string (strOfNums (l.drop pos))] w fun e w' => e = .returned (.int .i64 (stop l pos)) ∧ Grew w w') := by
    intro pos w h hw
    rw [← bgn_stop h hw]
    have e : l.drop pos = l.getD pos 0 :: l.drop (pos + 1) := by
      rw [List.drop_eq_getElem_cons h]; simp [List.getD, h]
    have hbd := hb.drop pos
    rw [e] at hbd ⊢
    exact begun_any _ _ w hbd (by simp; omega)
  generalize strOfNums l = s at *
  obtain ⟨rU, hU⟩ : ∃ r, r = U l := ⟨_, rfl⟩
  rw [← hU]
  have HU : Hid (rU = uat l 0) := hU
  clear hU hb
  go_enter Try.func31, Try.ntmps31
  go_wp2_with fail
  go_loopw [4, 5] (fun _ _ w' => ∃ (pos : Nat), w' = w.iter s pos ∧ rU = uat l pos) (fun _ _ w' => s.size - w'.iterPos w.heap.size)
  case atStart => exact ⟨0, rfl, HU.out⟩
  case round =>
    obtain ⟨pos, rfl, hu⟩ := hrel
    have HUP : Hid (rU = uat l pos) := hu
    clear hu
    by_cases hp : pos < s.size
    · have hp' : pos < l.length := by omega
      have hsl := fun w => HSL.out pos w (by omega)
      have hnx : ∀ ty, (Instr.next (.pointer (some ⟨w.heap.size, 0, none⟩)) true ty).run Try.prog (w.iter s pos) = _ := fun ty => run_next_any w s pos ty hp
      by_cases hw : whole l pos
      · obtain ⟨h1, h2⟩ := HD1.out pos hp' hw
        obtain ⟨R, hR⟩ : ∃ R, (Utf8.decode s pos).1 = R := ⟨_, rfl⟩
        obtain ⟨K, hK⟩ : ∃ K, (Utf8.decode s pos).2 = K := ⟨_, rfl⟩
        have hl := lt_pos hw
        rw [hR] at h2
        rw [hK] at h1
        simp only [hR, hK] at hnx
        have HN : Hid (rU = uat l (pos + K)) := by rw [h1, ← uat_step hp' hw]; exact HUP.out
        have hK1 : 1 ≤ K := by omega
        clear h1 hl hK hR
        by_cases hr : R = 65533
        · have hr' : ((R : Int) == 65533) = true := beq_iff_eq.2 (by omega)
          have c := fun w => HP.out pos true w (by rw [h2 hr]; rfl)
          clear hr h2 hw
          go_wp2_with fail
          refine (c _).mono ?_
          rintro e w1 ⟨rfl, rfl⟩
          clear c
          go_wp2_with fail
          go_roundw
          case rel => exact ⟨pos + K, rfl, HN.out⟩
          case measure => simp; omega
        · have hr' : ((R : Int) == 65533) = false := beq_eq_false_iff_ne.2 (by omega)
          clear hr h2 hw
          go_wp2_with fail
          go_roundw
          case rel => exact ⟨pos + K, rfl, HN.out⟩
          case measure => simp; omega
      · obtain ⟨h1, h2⟩ := HD2.out pos hp' hw
        rw [h1] at hnx
        have c := fun w => HP.out pos false w (by simp [h2])
        have c2 := fun w => HB.out pos w hp' hw
        have hst := stop_le l pos
        have HN : Hid (rU = (((pos + stop l pos : Nat) : Int), false)) := by rw [← uat_bad hp' hw]; exact HUP.out
        clear h1 h2 hw
        generalize stop l pos = st at *
        go_wp2_with fail
        refine (c _).mono ?_
        rintro e w1 ⟨rfl, rfl⟩
        clear c
        go_wp2_with fail
        refine (c2 _).mono ?_
        rintro e w1 ⟨rfl, hg⟩
        clear c2
        go_wp2_with fail
        go_ret2
        refine ⟨ret_place (by rw [HN.out]; omega) (by rw [HN.out]), ?_⟩
        exact (Grew.iter w s _).trans hg
    · have hnx : ∀ ty, (Instr.next (.pointer (some ⟨w.heap.size, 0, none⟩)) true ty).run Try.prog (w.iter s pos) = _ := fun ty => run_next_end w s pos ty hp
      go_wp2_with fail
      go_ret2
      have := HUP.out
      rw [uat_end (by omega)] at this
      exact ⟨ret_place (by rw [this]) (by rw [this]), Grew.iter w s _⟩

theorem utf8_any (v : Value) (l : List Int) (w : World) (hR : Reads w v l) (hb : Byt l) (hlen : l.length ≤ 140737488351232) :
    Calls Try.prog 10 #[v] w fun e w' => e = .returned (.tuple #[.int .i64 (U l).1, .bool (U l).2]) ∧ Grew w w' := by
  have c := wf_any l w hb hlen
  have hs := hR.str
  obtain ⟨a, cap, rfl⟩ := hR.len
  clear hR hb
  generalize strOfNums l = s at *
  generalize U l = u at *
  go_enter Try.func10, Try.ntmps10
  go_wp2_with fail
  refine c.mono ?_
  rintro e w1 ⟨rfl, hg⟩
  clear c
  go_wp2_with fail
  go_ret2
  exact ⟨rfl, hg⟩
end Go.Proofs.Ytclamdpbdafmcaa
