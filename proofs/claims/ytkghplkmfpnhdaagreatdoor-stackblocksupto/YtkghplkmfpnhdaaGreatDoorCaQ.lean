/-
  PopType and Pops where the rest is not reached; no statement is proved here.
-/
import Derived.Test.YtkghplkmfpnhdaaGreatDoorCaP
namespace Go.Proofs.YtkghplkmfpnhdaaGreatDoor
open Go.RowKit
set_option linter.unusedVariables false
set_option linter.unusedSimpArgs false

set_option maxRecDepth 100000 in
set_option maxHeartbeats 1000000 in
theorem popTypeD {B : Nat} {w : World} {C : Nat} {lv fv ov : Value} {lo : List LO} {fr : List Int} {ops : List VT} {fs : List FV} {x : FV} {g c : Nat} (h : CK B w C lv fv ov (.slice (some ⟨g, 0, none⟩) (fs.length + 1) c) lo fr ops (fs ++ [x])) (hd : x.dead = true) (hh : ops.length = x.height) (tn th : Int) (tz : Bool) :
    Calls Tryz.prog 22 #[.pointer (some ⟨C, 0, none⟩), .agg #[.int .i64 tn, .bool tz, .int .i64 th]] w fun en w' => en = .returned (.tuple #[VT0, .int .i64 0]) ∧ Grew w w' := by
  have C1 : Hid (∀ W, Grew w W → Calls Tryz.prog 34 #[.pointer (some ⟨C, 0, none⟩)] W fun en w' => en = .returned (.bool false) ∧ w' = W) := fun W gg => zeroM (h.grew gg)
  have C2 : Hid (∀ W, Grew w W → Calls Tryz.prog 21 #[.pointer (some ⟨C, 0, none⟩)] W fun en w' => en = .returned (.tuple #[VT0, .int .i64 0]) ∧ Grew W w') := fun W gg => popD (h.grew gg) hd hh
  have C3 : Hid (∀ W, Calls Tryz.prog 48 #[.pointer (some ⟨C, 0, none⟩), VT0, .agg #[.int .i64 tn, .bool tz, .int .i64 th]] W fun en w' => en = .returned (.bool true) ∧ Grew W w') := fun W => matchesD
  have c5 := h.c5
  obtain ⟨oa, oc, hov⟩ := row_one h.rops
  subst hov
  have hCl := h.lt
  clear h
  go_enter Tryz.func22, Tryz.ntmps22
  go_wp2_with fail
  go_step3
  go_wp2_with fail
  refine (C1.out _ (((Grew.refl w).alloc _).alloc _)).mono ?_
  rintro en w1 ⟨rfl, hw⟩
  obtain rfl := hw.symm
  clear hw
  go_wp2_with fail
  obtain ⟨w1, hw1⟩ : ∃ w1, w1 = ((w.alloc (.cells #[.int .i64 tn, .bool tz, .int .i64 th] 44)).alloc (.cells #[.int .i64 0, .bool false, .int .i64 0] 44)).alloc (.cells #[.slice oa ops.length oc] 55) := ⟨_, rfl⟩
  have G1 : Hid (Grew w w1) := by rw [hw1]; exact (((Grew.refl w).alloc _).alloc _).alloc _
  have N1 : Hid (w1.heap[w.heap.size]? = some (.cells #[.int .i64 tn, .bool tz, .int .i64 th] 44 (0, 0))) := by rw [hw1]; exact heap_alloc (heap_alloc (heap_alloc_last _ _) _) _
  have N2 : Hid (w1.heap[w.heap.size + 1]? = some (.cells #[.int .i64 0, .bool false, .int .i64 0] 44 (0, 0))) := by
    rw [hw1]
    have := heap_alloc_last (w.alloc (.cells #[.int .i64 tn, .bool tz, .int .i64 th] 44)) (.cells #[.int .i64 0, .bool false, .int .i64 0] 44)
    rw [alloc_size] at this
    exact heap_alloc this _
  rw [hh] at hw1
  rw [← hw1]
  clear hw1
  refine (C2.out _ G1.out).mono ?_
  rintro en w2 ⟨rfl, g2⟩
  have G2 := Hid.mk' (G1.out.trans g2)
  have M1 := Hid.mk' ((g2.turn []).other N1.out (by simp))
  have M2 := Hid.mk' ((g2.turn []).other N2.out (by simp))
  have v0 := cell_of M1.out 0
  have v1 := cell_of M1.out 1
  have v2 := cell_of M1.out 2
  simp at v0 v1 v2
  have hl1 := lt_of_obj M1.out
  clear g2 N1 N2 G1
  go_wp2_with fail
  refine (C3.out _).mono ?_
  rintro en w3 ⟨rfl, g3⟩
  obtain ⟨gg, hl3, p0, p1, p2, _, _, _⟩ := fresh3 g3
  have G3 := Hid.mk' (G2.out.trans gg)
  have P2 := Hid.mk' ((gg.turn []).other M2.out (by simp))
  have n0 := cell_of P2.out 0
  have n1 := cell_of P2.out 1
  have n2 := cell_of P2.out 2
  have z0 := free_of P2.out 0
  have z1 := free_of P2.out 1
  have z2 := free_of P2.out 2
  simp at n0 n1 n2
  have hl4 := lt_of_obj P2.out
  clear g3 gg C1 C2 C3 M1 M2 v0 v1 v2
  go_wp2_with fail
  rw [Exit.noGoto_ret]
  refine bodyPost_ret (v := .tuple #[VT0, .int .i64 0]) (by simp [results, Tryz.results22, go_sem, n0, n1, n2]) rfl ?_
  exact ⟨rfl, ((G3.out.set (p := ⟨w.heap.size + 1, 0, none⟩) (Nat.le_succ _) _).set (p := ⟨w.heap.size + 1, 1, none⟩) (Nat.le_succ _) _).set (p := ⟨w.heap.size + 1, 2, none⟩) (Nat.le_succ _) _⟩
set_option maxRecDepth 100000 in
set_option maxHeartbeats 1000000 in
theorem popsD {B : Nat} {w : World} {C : Nat} {lv fv ov : Value} {lo : List LO} {fr : List Int} {ops : List VT} {fs : List FV} {x : FV} {g c : Nat} (h : CK B w C lv fv ov (.slice (some ⟨g, 0, none⟩) (fs.length + 1) c) lo fr ops (fs ++ [x])) {v : Value} {l : List VT} (hl : LV w v l) (hd : 0 < l.length → x.dead = true ∧ ops.length = x.height) :
    Calls Tryz.prog 10 #[.pointer (some ⟨C, 0, none⟩), v] w fun en w' => en = .returned (.int .i64 0) ∧ Grew w w' := by
  have C1 := zeroM h
  have C2 : Hid (0 < l.length → ∀ W, Grew w W → ∀ tn th tz, Calls Tryz.prog 22 #[.pointer (some ⟨C, 0, none⟩), .agg #[.int .i64 tn, .bool tz, .int .i64 th]] W fun en w' => en = .returned (.tuple #[VT0, .int .i64 0]) ∧ Grew W w') := fun h0 W gg tn th tz => popTypeD (h.grew gg) (hd h0).1 (hd h0).2 tn th tz
  obtain ⟨a, cap, hv, hle, hmx⟩ := hl.one
  subst hv
  have HL := Hid.mk' hl
  have c5 := h.c5
  obtain ⟨oa, oc, hov⟩ := row_one h.rops
  subst hov
  have hCl := h.lt
  have hml : (l.length : Int) ≤ 9223372036854775807 := by have := hmx; simp [maxLen] at this; omega
  clear h hd hl
  go_enter Tryz.func10, Tryz.ntmps10
  go_wp2_with fail
  go_step3
  go_wp2_with fail
  refine C1.mono ?_
  rintro en w1 ⟨rfl, hw⟩
  obtain rfl := hw.symm
  clear hw C1
  go_wp2_with fail
  go_loopw [6, 7] (fun e_ n_ w' => ∃ (k : Nat), e_ = .int .i64 0 ∧ n_ = .int .i64 ((k : Int) - 1) ∧ k ≤ l.length ∧ Hid (Grew w w')) (fun _ n_ _ => (intOf n_ + 1).toNat)
  case atStart => exact ⟨l.length, rfl, rfl, Nat.le_refl _, (Grew.refl w).alloc _⟩
  case round =>
    obtain ⟨k, rfl, rfl, hk, G⟩ := hrel
    obtain ⟨w0, hw0⟩ : ∃ w0, w0 = wr := ⟨_, rfl⟩
    rw [← hw0] at G ⊢
    clear hw0
    cases k with
    | zero =>
      have d1 : decide ((0 : Int) ≤ ((0 : Nat) : Int) - 1) = false := by simp
      go_wp2_with fail
      rw [Exit.noGoto_ret]
      go_ret
      exact ⟨rfl, G.out⟩
    | succ n =>
      have e0 : (((n + 1 : Nat) : Int) - 1) = (n : Int) := by omega
      rw [e0]
      have hlt : n < l.length := by omega
      obtain ⟨t, ht⟩ : ∃ t, l[n]? = some t := ⟨_, List.getElem?_eq_getElem hlt⟩
      obtain ⟨b, off, ha, hc', hE⟩ := (HL.out.grew G.out).get (by omega)
      subst ha
      obtain ⟨x0, x1, x2⟩ := hE n t ht
      clear hE
      have d1 : decide ((0 : Int) ≤ (n : Int)) = true := by simp
      have d2 : decide (n < l.length) = true := by simp; omega
      have d3 : decide ((n : Int) < (l.length : Int)) = true := by simp; omega
      have d4 : (n : Int) < (l.length : Int) := by omega
      have e1 : IntKind.i64.wrap ((n : Int) - 1) = (n : Int) - 1 := by rw [IntKind.wrap_i64]; omega
      obtain ⟨tn, tz, th⟩ := t
      simp only at x0 x1 x2
      have CP := C2.out (by omega) w0 G.out tn th tz
      clear ht
      go_wp2_with fail
      refine CP.mono ?_
      rintro en w2 ⟨rfl, g2⟩
      have G2 := Hid.mk' (G.out.trans g2)
      clear g2 CP
      go_wp2_with fail
      go_roundw
      case rel => exact ⟨n, rfl, rfl, by omega, G2⟩
      case measure => simp [intOf]
end Go.Proofs.YtkghplkmfpnhdaaGreatDoor
