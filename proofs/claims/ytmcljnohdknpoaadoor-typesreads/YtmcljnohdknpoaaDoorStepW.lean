/-
  The walk of the reader's step; no statement is proved here.
-/
import Derived.Test.YtmcljnohdknpoaaDoorRead
namespace Go.Proofs.YtmcljnohdknpoaaDoor
open Go.RowKit
set_option linter.unusedVariables false

def atOf (w : World) (b : Nat) : Nat := match w.cell? ⟨b, 2, none⟩ with | some (.int _ q) => q.toNat | _ => 0
theorem atOf_rdr {w : World} {b : Nat} {s n : ByteArray} {q : Nat} (h : w.heap[b]? = some (rdr s n q)) : atOf w b = q := by
  unfold atOf
  rw [cell_of h]
  simp
theorem rdr_set2 {w : World} {b : Nat} {s n : ByteArray} {q : Nat} (h : w.heap[b]? = some (rdr s n q)) (k : Nat) : (w.setCell ⟨b, 2, none⟩ (.int .i64 (k : Int))).heap[b]? = some (rdr s n k) := by
  rw [heap_set h]; rfl
theorem rdr_set1 {w : World} {b : Nat} {s n : ByteArray} {q : Nat} (h : w.heap[b]? = some (rdr s n q)) (m : ByteArray) : (w.setCell ⟨b, 1, none⟩ (.string m)).heap[b]? = some (rdr s m q) := by
  rw [heap_set h]; rfl
theorem rdr_drewN {w : World} {b : Nat} {o : Obj} (h : w.heap[b]? = some o) (k : Nat) : (w.drewN k).heap[b]? = some o := h
set_option maxRecDepth 100000 in
set_option maxHeartbeats 2000000 in
theorem step_any (b : Nat) (s n : ByteArray) (p : Nat) (w : World) (h : w.heap[b]? = some (rdr s n p)) (hp : p + n.size ≤ s.size) (hs : s.size ≤ 65536) :
    Calls Tryd.prog 36 #[.pointer (some ⟨b, 0, none⟩)] w fun en w' => en = .returned (.tuple #[]) ∧ Turn [b] w w' ∧ RD w' b s (skp s (p + n.size)) := by
  have HH : Hid (w.heap[b]? = some (rdr s n p)) := h
  have c1 := cell_of h 1
  have c2 := cell_of h 2
  have z2 := free_of h 2
  simp at c1 c2
  clear h
  go_enter Tryd.func36, Tryd.ntmps36
  go_wp2
  go_region
  generalize hw1 : (w.setCell { block := b, off := 2 } (Value.int IntKind.i64 ((p : Int) + (n.size : Int)))).drew = w1
  have H1 : Hid (w1.heap[b]? = some (rdr s n (p + n.size))) := by
    rw [← hw1]
    have := rdr_set2 HH.out (p + n.size)
    exact this
  have T1 : Hid (Turn [b] w w1) := by
    rw [← hw1]
    exact (((Turn.refl [b] w).set (p := ⟨b, 2, none⟩) (Or.inl (by simp)) _).drew)
  clear hw1 c1 c2 z2 HH
  go_wp2
  go_loopw [] (fun w' => ∃ q : Nat, q ≤ s.size ∧ Hid (skp s q = skp s (p + n.size)) ∧ Hid (Turn [b] w w') ∧ Hid (w'.heap[b]? = some (rdr s n q))) (fun w' => s.size - atOf w' b)
  case atStart => exact ⟨p + n.size, hp, rfl, T1, H1⟩
  case round =>
    obtain ⟨q, hq, HK, HT, HB⟩ := hrel
    have c0 := cell_of HB.out 0
    have c1 := cell_of HB.out 1
    have c2 := cell_of HB.out 2
    have z1 := free_of HB.out 1
    have z2 := free_of HB.out 2
    simp at c0 c1 c2
    by_cases hlt : q < s.size
    · have hb := bt_get hlt
      have C : Hid (∀ w : World, Calls Tryd.prog 58 #[.int .u8 ((s[q].toNat : Nat) : Int)] w fun e w' => e = .returned (.int .i64 (kd (bt s q))) ∧ w' = w) := by
        intro w
        rw [hb]
        exact kindOf_any _ w
      have hd : decide ((q : Int) < (s.size : Int)) = true := by simpa using hlt
      obtain ⟨x, hx⟩ : ∃ x, x = kd (bt s q) := ⟨_, rfl⟩
      rw [← hx] at C
      by_cases hc : bl (bt s q) = true
      · have : x = 0 := by rw [hx]; unfold kd; simp [hc]
        subst this
        clear hb hx
        go_wp2_with fail
        go_quiet ((go_at_call 58; exact Calls.quiet_of_same (C.out _)))
        go_wp2
        go_roundw
        case rel =>
          refine ⟨q + 1, by omega, (show skp s (q + 1) = skp s (p + n.size) by rw [← HK.out, skp_on hlt hc]), ?_, ?_⟩
          · exact (HT.out.drewN nq).set (p := ⟨b, 2, none⟩) (Or.inl (by simp)) _
          · exact rdr_set2 (rdr_drewN HB.out nq) (q + 1)
        case measure =>
          rw [atOf_rdr HB.out]
          have := atOf_rdr (rdr_set2 (rdr_drewN HB.out nq) (q + 1))
          rw [show ((q + 1 : Nat) : Int) = (q : Int) + 1 from by omega] at this
          rw [this]
          omega
      · have h2 : (x == 0) = false := by
          rw [hx]; unfold kd
          cases h1 : bl (bt s q) <;> cases h2 : br (bt s q) <;> simp_all
        have hk := skp_off (fun h => hc h.2 : ¬ (q < s.size ∧ bl (bt s q) = true))
        have F : Hid (∀ w : World, Calls Tryd.prog 59 #[.string (s.extract q s.size)] w fun e w' => e = .returned (.string (tk s q)) ∧ w' = w) := by
          intro w
          have := first_any (s.extract q s.size) w (by rw [ByteArray.size_extract]; omega)
          rw [fst_tk ⟨hq, fun h => hc h.2⟩] at this
          exact this
        clear hb hx
        go_wp2_with fail
        go_quiet ((go_at_call 58; exact Calls.quiet_of_same (C.out _)))
        go_wp2_with fail
        go_region_with (go_at_call 59; refine (F.out _).mono ?_; rintro e w' ⟨rfl, rfl⟩)
        all_goals
          go_wp2
          go_end0
          refine ⟨rfl, (HT.out.drewN _).set (p := ⟨b, 1, none⟩) (Or.inl (by simp)) _, ?_⟩
          rw [← HK.out, hk]
          exact ⟨rdr_set1 (rdr_drewN HB.out _) _, hq, fun h => hc h.2⟩
    · have hd : decide ((q : Int) < (s.size : Int)) = false := by simp; omega
      have hk := skp_off (fun h => hlt h.1 : ¬ (q < s.size ∧ bl (bt s q) = true))
      have F : Hid (∀ w : World, Calls Tryd.prog 59 #[.string (s.extract q s.size)] w fun e w' => e = .returned (.string (tk s q)) ∧ w' = w) := by
        intro w
        have := first_any (s.extract q s.size) w (by rw [ByteArray.size_extract]; omega)
        rw [fst_tk ⟨hq, fun h => hlt h.1⟩] at this
        exact this
      go_wp2_with fail
      go_quiet (fail)
      go_wp2_with fail
      go_region_with (go_at_call 59; refine (F.out _).mono ?_; rintro e w' ⟨rfl, rfl⟩)
      all_goals
        go_wp2
        go_end0
        refine ⟨rfl, (HT.out.drewN _).set (p := ⟨b, 1, none⟩) (Or.inl (by simp)) _, ?_⟩
        rw [← HK.out, hk]
        exact ⟨rdr_set1 (rdr_drewN HB.out _) _, hq, fun h => hlt h.1⟩
end Go.Proofs.YtmcljnohdknpoaaDoor
