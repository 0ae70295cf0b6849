/-
  Steps of vnum: select without a type, where the number that it chooses by is refused; no statement is proved here.
-/
import Derived.Test.YtikaidokllnifaaGreatDoorVnTj
import Derived.Deep.RegionHeld3
import Derived.Deep.RegionHeld
set_option maxRecDepth 100000
set_option maxHeartbeats 8000000
namespace Go.Proofs.YtikaidokllnifaaGreatDoor
open Go.RowKit
set_option linter.unusedVariables false
set_option linter.unusedSimpArgs false
section
variable {gv : Value} {L : List RT} {W0 w : World} {C : Nat} {lv fv ov : Value} {g c : Nat} {lo : List LO} {fr : List Int} {ops : List VT} {fs : List FV} {x : FV} {S : Nat} {es : Array Value}
theorem load_no {an ah bn bh e : Int} {az bz : Bool} (hac : Calls Tryz.prog 153 #[.pointer (some ⟨S, 0, none⟩)] w fun en w' => en = .returned (.tuple #[.agg #[.int .i64 an, .bool az, .int .i64 ah], .agg #[.int .i64 bn, .bool bz, .int .i64 bh], .int .i64 e]) ∧ Grew w w') (he : e ≠ 0) :
    Calls Tryz.prog 81 #[.pointer (some ⟨S, 0, none⟩)] w fun en w' => en = .returned (.int .i64 e) ∧ Grew w w' := by
  have CA := Hid.mk' hac
  have d1 : (e != 0) = true := by simpa using he
  clear hac he
  go_enter Tryz.func81, Tryz.ntmps81
  go_wp2_with fail
  refine CA.out.mono ?_
  rintro en w1 ⟨rfl, g1⟩
  have G1 := Hid.mk' g1
  clear g1 CA
  go_wp2_with fail
  go_ret
  exact ⟨rfl, (by repeat (first | with_reducible exact G1.out | refine .alloc ?_ _ | refine .drewN ?_ _ | refine .drew ?_))⟩
theorem store_no {an ah bn bh e : Int} {az bz : Bool} (hac : Calls Tryz.prog 153 #[.pointer (some ⟨S, 0, none⟩)] w fun en w' => en = .returned (.tuple #[.agg #[.int .i64 an, .bool az, .int .i64 ah], .agg #[.int .i64 bn, .bool bz, .int .i64 bh], .int .i64 e]) ∧ Grew w w') (he : e ≠ 0) :
    Calls Tryz.prog 82 #[.pointer (some ⟨S, 0, none⟩)] w fun en w' => en = .returned (.int .i64 e) ∧ Grew w w' := by
  have CA := Hid.mk' hac
  have d1 : (e != 0) = true := by simpa using he
  clear hac he
  go_enter Tryz.func82, Tryz.ntmps82
  go_wp2_with fail
  refine CA.out.mono ?_
  rintro en w1 ⟨rfl, g1⟩
  have G1 := Hid.mk' g1
  clear g1 CA
  go_wp2_with fail
  go_ret
  exact ⟨rfl, (by repeat (first | with_reducible exact G1.out | refine .alloc ?_ _ | refine .drewN ?_ _ | refine .drew ?_))⟩
theorem load_in (A : StA gv L W0 w C lv fv ov g c lo fr ops fs x S es) {an ah bn bh : Int} {az bz : Bool} (hac : Calls Tryz.prog 153 #[.pointer (some ⟨S, 0, none⟩)] w fun en w' => en = .returned (.tuple #[.agg #[.int .i64 an, .bool az, .int .i64 ah], .agg #[.int .i64 bn, .bool bz, .int .i64 bh], .int .i64 0]) ∧ Grew w w') :
    Calls Tryz.prog 81 #[.pointer (some ⟨S, 0, none⟩)] w (MP gv W0 w w C lv g c fs x (popsR (matB L) x.height x.dead [⟨an, az, ah⟩].reverse ops).1 lo fr ((popsR (matB L) x.height x.dead [⟨an, az, ah⟩].reverse ops).2 ++ [⟨bn, bz, bh⟩])) := by
  have CA := Hid.mk' hac
  have CLi : Hid (∀ v X, Calls Tryz.prog 144 #[v] X fun en w' => en = .returned v ∧ w' = X) := list_any
  have CP : Hid (∀ X u b m c', Grew w X → LV X u [⟨an, az, ah⟩] → LV X (.slice (some ⟨b, 0, none⟩) m c') [⟨bn, bz, bh⟩] → (w.heap.size ≤ b ∧ b < X.heap.size) → Calls Tryz.prog 146 #[.pointer (some ⟨C, 0, none⟩), u, .slice (some ⟨b, 0, none⟩) m c'] X fun en w' => MP gv W0 w X C lv g c fs x (popsR (matB L) x.height x.dead [⟨an, az, ah⟩].reverse ops).1 lo fr ((popsR (matB L) x.height x.dead [⟨an, az, ah⟩].reverse ops).2 ++ [⟨bn, bz, bh⟩]) en w' ∧ FR w X w') := fun X u b m c' k h1 h2 h3 => A.swapQ k h1 h2 h3 (by simp)
  generalize (popsR (matB L) x.height x.dead [⟨an, az, ah⟩].reverse ops) = RR at *
  have HAA := Hid.mk' A
  have HB0 := Hid.mk' A.hB
  clear hac A
  go_enter Tryz.func81, Tryz.ntmps81
  go_wp2_with fail
  refine CA.out.mono ?_
  rintro en w1 ⟨rfl, g1⟩
  have G1 := Hid.mk' g1
  have A1 := HAA.out.grew g1
  have s9 := A1.cell A1.hc
  have hS := lt_of_obj A1.N
  clear g1 CA A1
  go_wp2_with fail
  obtain ⟨wz, hwz⟩ : ∃ wz, wz = (w1.alloc (.cells #[.int .i64 an, .bool az, .int .i64 ah] 39)).alloc (.cells #[.int .i64 bn, .bool bz, .int .i64 bh] 39) := ⟨_, rfl⟩
  have Gz : Hid (Grew w wz) := by rw [hwz]; exact (G1.out.alloc _).alloc _
  have Na : Hid (wz.heap[w1.heap.size]? = some (.cells #[.int .i64 an, .bool az, .int .i64 ah] 39 (0, 0))) := by rw [hwz]; exact heap_alloc (heap_alloc_last _ _) _
  have Nb : Hid (wz.heap[w1.heap.size + 1]? = some (.cells #[.int .i64 bn, .bool bz, .int .i64 bh] 39 (0, 0))) := by
    rw [hwz]
    have := heap_alloc_last (w1.alloc (.cells #[.int .i64 an, .bool az, .int .i64 ah] 39)) (.cells #[.int .i64 bn, .bool bz, .int .i64 bh] 39)
    rw [alloc_size] at this
    exact this
  have HL0 : Hid (w.heap.size ≤ w1.heap.size) := G1.out.2
  have HL1 : Hid (w.heap.size ≤ w1.heap.size + 1) := Nat.le_succ_of_le G1.out.2
  rw [← hwz]
  clear hwz s9 hS
  have Az := HAA.out.grew Gz.out
  have s9 := Az.cell Az.hc
  have hS := lt_of_obj Az.N
  have HNS := Hid.mk' Az.N
  have ha := lt_of_obj Na.out
  have hb := lt_of_obj Nb.out
  have a0 := cell_of Na.out 0; have a1 := cell_of Na.out 1; have a2 := cell_of Na.out 2
  have b0 := cell_of Nb.out 0; have b1 := cell_of Nb.out 1; have b2 := cell_of Nb.out 2
  simp at a0 a1 a2 b0 b1 b2
  clear Az
  generalize w1.heap.size = q at *
  go_region_held3 (fun w' => w'.cell? ⟨S, 9, none⟩ = some (.pointer (some ⟨C, 0, none⟩)) ∧ w'.cell? ⟨q, 0, none⟩ = some (.int .i64 an) ∧ w'.cell? ⟨q, 1, none⟩ = some (.bool az) ∧ w'.cell? ⟨q, 2, none⟩ = some (.int .i64 ah) ∧ w'.cell? ⟨q + 1, 0, none⟩ = some (.int .i64 bn) ∧ w'.cell? ⟨q + 1, 1, none⟩ = some (.bool bz) ∧ w'.cell? ⟨q + 1, 2, none⟩ = some (.int .i64 bh)) (go_keep) (first
      | (with_reducible refine (CLi.out _ _).mono ?_
         rintro en wl ⟨rfl, hwl⟩
         obtain rfl := hwl.symm
         clear hwl)
      | (with_reducible refine (CP.out _ _ _ _ _ ?gr ?h1 ?h2 ?h3).mono ?_
         case gr => exact (by repeat (first | with_reducible exact Gz.out | with_reducible exact .refl _ | refine .alloc ?_ _ | refine .drewN ?_ _ | refine .drew ?_))
         case h1 => exact (lv_1 (by go_simp) (by go_simp) (by go_simp))
         case h2 => exact (lv_1 (by go_simp) (by go_simp) (by go_simp))
         case h3 => exact ⟨by (have h1 := Gz.out.2; first | (simp; omega) | omega), by first | (simp; done) | (simp; omega)⟩
         rintro en w5 ⟨⟨rfl, kb, sk, hk⟩, qq⟩
         have sk2 : SK w w5 := SK.trans (Grew.sk (by repeat (first | with_reducible exact Gz.out | with_reducible exact .refl _ | refine .alloc ?_ _ | refine .drewN ?_ _ | refine .drew ?_))) sk
         have N5 : w5.heap[S]? = some (.cells es 96 (0, 0)) := sk _ _ _ _ (by decide) (by decide) (Turn.other (Grew.turn (by repeat (first | with_reducible exact .refl _ | refine .alloc ?_ _ | refine .drewN ?_ _ | refine .drew ?_)) []) HNS.out (by simp))
         have A5 := qq _ _ HL0.out (Turn.other (Grew.turn (by repeat (first | with_reducible exact .refl _ | refine .alloc ?_ _ | refine .drewN ?_ _ | refine .drew ?_)) []) Na.out (by simp))
         have B5 := qq _ _ HL1.out (Turn.other (Grew.turn (by repeat (first | with_reducible exact .refl _ | refine .alloc ?_ _ | refine .drewN ?_ _ | refine .drew ?_)) []) Nb.out (by simp))
         have t9 := (cell_of N5 9).trans HAA.out.hc
         have t0 := cell_of A5 0; have t1 := cell_of A5 1; have t2 := cell_of A5 2
         have u0 := cell_of B5 0; have u1 := cell_of B5 1; have u2 := cell_of B5 2
         simp at t0 t1 t2 u0 u1 u2
         have HF := Hid.mk' (And.intro kb (And.intro sk2 hk))
         clear kb hk sk sk2 N5 A5 B5 qq)
      | fail)
  all_goals
    go_wp2_with fail
    go_ret
    exact ⟨rfl, HF.out.1, HF.out.2.1, fun he => HF.out.2.2 (by first | exact he | trivial)⟩
theorem store_in (A : StA gv L W0 w C lv fv ov g c lo fr ops fs x S es) {an ah bn bh : Int} {az bz : Bool} (hac : Calls Tryz.prog 153 #[.pointer (some ⟨S, 0, none⟩)] w fun en w' => en = .returned (.tuple #[.agg #[.int .i64 an, .bool az, .int .i64 ah], .agg #[.int .i64 bn, .bool bz, .int .i64 bh], .int .i64 0]) ∧ Grew w w') :
    Calls Tryz.prog 82 #[.pointer (some ⟨S, 0, none⟩)] w (MP gv W0 w w C lv g c fs x (popsR (matB L) x.height x.dead [⟨an, az, ah⟩, ⟨bn, bz, bh⟩].reverse ops).1 lo fr (popsR (matB L) x.height x.dead [⟨an, az, ah⟩, ⟨bn, bz, bh⟩].reverse ops).2) := by
  have CA := Hid.mk' hac
  have CLi : Hid (∀ v X, Calls Tryz.prog 144 #[v] X fun en w' => en = .returned v ∧ w' = X) := list_any
  have CP : Hid (∀ X v, Grew w X → LV X v [⟨an, az, ah⟩, ⟨bn, bz, bh⟩] → Calls Tryz.prog 35 #[.pointer (some ⟨C, 0, none⟩), v] X (fun en w' => MP gv W0 w X C lv g c fs x (popsR (matB L) x.height x.dead [⟨an, az, ah⟩, ⟨bn, bz, bh⟩].reverse ops).1 lo fr (popsR (matB L) x.height x.dead [⟨an, az, ah⟩, ⟨bn, bz, bh⟩].reverse ops).2 en w' ∧ FR w X w')) := fun X v k hl => A.popsQ k hl
  generalize (popsR (matB L) x.height x.dead [⟨an, az, ah⟩, ⟨bn, bz, bh⟩].reverse ops) = RR at *
  have HAA := Hid.mk' A
  have HB0 := Hid.mk' A.hB
  clear hac A
  go_enter Tryz.func82, Tryz.ntmps82
  go_wp2_with fail
  refine CA.out.mono ?_
  rintro en w1 ⟨rfl, g1⟩
  have G1 := Hid.mk' g1
  have A1 := HAA.out.grew g1
  have s9 := A1.cell A1.hc
  have hS := lt_of_obj A1.N
  clear g1 CA A1
  go_wp2_with fail
  obtain ⟨wz, hwz⟩ : ∃ wz, wz = (w1.alloc (.cells #[.int .i64 an, .bool az, .int .i64 ah] 39)).alloc (.cells #[.int .i64 bn, .bool bz, .int .i64 bh] 39) := ⟨_, rfl⟩
  have Gz : Hid (Grew w wz) := by rw [hwz]; exact (G1.out.alloc _).alloc _
  have Na : Hid (wz.heap[w1.heap.size]? = some (.cells #[.int .i64 an, .bool az, .int .i64 ah] 39 (0, 0))) := by rw [hwz]; exact heap_alloc (heap_alloc_last _ _) _
  have Nb : Hid (wz.heap[w1.heap.size + 1]? = some (.cells #[.int .i64 bn, .bool bz, .int .i64 bh] 39 (0, 0))) := by
    rw [hwz]
    have := heap_alloc_last (w1.alloc (.cells #[.int .i64 an, .bool az, .int .i64 ah] 39)) (.cells #[.int .i64 bn, .bool bz, .int .i64 bh] 39)
    rw [alloc_size] at this
    exact this
  have HL0 : Hid (w.heap.size ≤ w1.heap.size) := G1.out.2
  have HL1 : Hid (w.heap.size ≤ w1.heap.size + 1) := Nat.le_succ_of_le G1.out.2
  rw [← hwz]
  clear hwz s9 hS
  have Az := HAA.out.grew Gz.out
  have s9 := Az.cell Az.hc
  have hS := lt_of_obj Az.N
  have HNS := Hid.mk' Az.N
  have ha := lt_of_obj Na.out
  have hb := lt_of_obj Nb.out
  have a0 := cell_of Na.out 0; have a1 := cell_of Na.out 1; have a2 := cell_of Na.out 2
  have b0 := cell_of Nb.out 0; have b1 := cell_of Nb.out 1; have b2 := cell_of Nb.out 2
  simp at a0 a1 a2 b0 b1 b2
  clear Az
  generalize w1.heap.size = q at *
  go_region_held3 (fun w' => w'.cell? ⟨S, 9, none⟩ = some (.pointer (some ⟨C, 0, none⟩)) ∧ w'.cell? ⟨q, 0, none⟩ = some (.int .i64 an) ∧ w'.cell? ⟨q, 1, none⟩ = some (.bool az) ∧ w'.cell? ⟨q, 2, none⟩ = some (.int .i64 ah) ∧ w'.cell? ⟨q + 1, 0, none⟩ = some (.int .i64 bn) ∧ w'.cell? ⟨q + 1, 1, none⟩ = some (.bool bz) ∧ w'.cell? ⟨q + 1, 2, none⟩ = some (.int .i64 bh)) (go_keep) (first
      | (with_reducible refine (CLi.out _ _).mono ?_
         rintro en wl ⟨rfl, hwl⟩
         obtain rfl := hwl.symm
         clear hwl)
      | (with_reducible refine (CP.out _ _ ?gr (lv_2 (by go_simp) (by go_simp) (by go_simp) (by go_simp) (by go_simp) (by go_simp))).mono ?_
         case gr => exact (by repeat (first | with_reducible exact Gz.out | with_reducible exact .refl _ | refine .alloc ?_ _ | refine .drewN ?_ _ | refine .drew ?_))
         rintro en w5 ⟨⟨rfl, kb, sk, hk⟩, qq⟩
         have sk2 : SK w w5 := SK.trans (Grew.sk (by repeat (first | with_reducible exact Gz.out | with_reducible exact .refl _ | refine .alloc ?_ _ | refine .drewN ?_ _ | refine .drew ?_))) sk
         have N5 : w5.heap[S]? = some (.cells es 96 (0, 0)) := sk _ _ _ _ (by decide) (by decide) (Turn.other (Grew.turn (by repeat (first | with_reducible exact .refl _ | refine .alloc ?_ _ | refine .drewN ?_ _ | refine .drew ?_)) []) HNS.out (by simp))
         have A5 := qq _ _ HL0.out (Turn.other (Grew.turn (by repeat (first | with_reducible exact .refl _ | refine .alloc ?_ _ | refine .drewN ?_ _ | refine .drew ?_)) []) Na.out (by simp))
         have B5 := qq _ _ HL1.out (Turn.other (Grew.turn (by repeat (first | with_reducible exact .refl _ | refine .alloc ?_ _ | refine .drewN ?_ _ | refine .drew ?_)) []) Nb.out (by simp))
         have t9 := (cell_of N5 9).trans HAA.out.hc
         have t0 := cell_of A5 0; have t1 := cell_of A5 1; have t2 := cell_of A5 2
         have u0 := cell_of B5 0; have u1 := cell_of B5 1; have u2 := cell_of B5 2
         simp at t0 t1 t2 u0 u1 u2
         have HF := Hid.mk' (And.intro kb (And.intro sk2 hk))
         clear kb hk sk sk2 N5 A5 B5 qq)
      | fail)
  all_goals
    go_wp2_with fail
    go_ret
    exact ⟨rfl, HF.out.1, HF.out.2.1, fun he => HF.out.2.2 (by first | exact he | trivial)⟩
end
theorem popP_e6 (h : Nat) (dead : Bool) (ops : List VT) : (popP h dead ops).1 ≠ 6 := by
  rcases popP_err h dead ops with e | e <;> rw [e] <;> decide
theorem popTP_e6 (m : VT → VT → Bool) (h : Nat) (dead : Bool) (ops : List VT) (t : VT) : (popTP m h dead ops t).1 ≠ 6 := by
  unfold popTP
  split
  · split
    · exact popP_e6 h dead ops
    · simp
  · simp
theorem popsR_e6 (m : VT → VT → Bool) (h : Nat) (dead : Bool) : ∀ (l ops : List VT), (popsR m h dead l ops).1 ≠ 6
  | [], ops => by unfold popsR; simp
  | t :: l, ops => by
    unfold popsR
    split
    · exact popsR_e6 m h dead l _
    · exact popTP_e6 m h dead ops t
variable {gv : Value} {L : List RT} {W0 w : World} {C : Nat} {lv fv ov : Value} {g c : Nat} {lo : List LO} {fr : List Int} {ops : List VT} {fs : List FV} {x : FV}
theorem pops_nil (h : CHG gv W0.heap.size w C lv fv ov (.slice (some ⟨g, 0, none⟩) (fs.length + 1) c) lo fr ops (fs ++ [x])) :
    Calls Tryz.prog 35 #[.pointer (some ⟨C, 0, none⟩), .slice none 0 0] w fun en w' => en = .returned (.int .i64 0) ∧ Grew w w' := by
  have C1 := zeroMk h
  have hCl := h.lt
  obtain ⟨oa, oc, hov, _⟩ := row_max h.rops
  subst hov
  have c1 := h.c5
  clear h
  go_enter Tryz.func35, Tryz.ntmps35
  go_wp2_with fail
  refine wp_scope_jumps 0 (fun _ _ => False) (fun _ _ => 0) rfl ?_ ?_
  rotate_left
  · intro a' w' hx
    exact hx.elim
  go_wp2_with fail
  refine C1.mono ?_
  rintro en w1 ⟨rfl, hw⟩
  obtain rfl := hw.symm
  clear hw C1
  go_wp2_with fail
  have ga : Grew w (w.alloc (.cells #[.slice oa ops.length oc] 63)) := (Grew.refl w).alloc _
  have GA := Hid.mk' ga
  clear ga
  go_loopw [6, 7] (fun e_ n_ w' => e_ = .int .i64 0 ∧ n_ = .int .i64 (-1) ∧ Hid (w' = w.alloc (.cells #[.slice oa ops.length oc] 63))) (fun _ _ _ => 0)
  case atStart => exact ⟨rfl, rfl, rfl⟩
  case round =>
    obtain ⟨rfl, rfl, hw⟩ := hrel
    go_wp2_with fail
    simp only [Exit.jump]
    go_ret
    exact ⟨rfl, by rw [hw.out]; exact GA.out⟩
section
variable {gv : Value} {L : List RT} {W0 w : World} {C : Nat} {lv fv ov : Value} {g c : Nat} {lo : List LO} {fr : List Int} {ops : List VT} {fs : List FV} {x : FV} {S : Nat} {es : Array Value}
theorem popTP_kept {m : VT → VT → Bool} {h : Nat} {dead : Bool} {ops : List VT} {t : VT} (he : (popTP m h dead ops t).1 ≠ 0) : (popTP m h dead ops t).2.2 = ops ∧ (popTP m h dead ops t).2.1 = vt0k := by
  unfold popTP at he ⊢
  split at he
  · rename_i h0
    rw [if_pos h0]
    split at he
    · exact absurd h0 he
    · rename_i h1
      rw [if_neg h1]
      exact ⟨rfl, rfl⟩
  · rename_i h0
    rw [if_neg h0]
    exact ⟨rfl, rfl⟩
theorem StA.popTQ2 (A : StA gv L W0 w C lv fv ov g c lo fr ops fs x S es) (tn th : Int) (tz : Bool) {X : World} (k : Grew w X) :
    Calls Tryz.prog 70 #[.pointer (some ⟨C, 0, none⟩), .agg #[.int .i64 tn, .bool tz, .int .i64 th]] X fun en w' => (en = .returned (.tuple #[(popTP (matB L) x.height x.dead ops ⟨tn, tz, th⟩).2.1.v, .int .i64 (popTP (matB L) x.height x.dead ops ⟨tn, tz, th⟩).1]) ∧ KB W0.heap.size w w' ∧ SK X w' ∧ ∃ ov', CHG gv W0.heap.size w' C lv fv ov' (.slice (some ⟨g, 0, none⟩) (fs.length + 1) c) lo fr (popTP (matB L) x.height x.dead ops ⟨tn, tz, th⟩).2.2 (fs ++ [x]) ∧ ov'.ownBlock = ov.ownBlock) ∧ FR w X w' := by
  refine (popTypeA A.hG (A.grew k).h (A.grew k).g0 A.hh ⟨tn, tz, th⟩).mono ?_
  rintro en w' ⟨ov', rfl, h1, h2, h3, h4⟩
  exact ⟨⟨rfl, (k.kb A.hB).trans h2, Two.skN (A.grew k).h h3, ov', h1, h4⟩, A.kept h3 (by simp [Value.ownBlock])⟩
theorem StA.pushNil (A : StA gv L W0 w C lv fv ov g c lo fr ops fs x S es) {b o c' : Nat} {X w1 : World} (k : Grew w X) (hC : C < w1.heap.size) (hq : ∀ b, w1.heap.size ≤ b → ov.ownBlock ≠ some b) (hb : w.heap.size ≤ b ∧ b < X.heap.size) (hc : c' ≤ maxLen) :
    Calls Tryz.prog 31 #[.pointer (some ⟨C, 0, none⟩), .slice (some ⟨b, o, none⟩) 0 c'] X fun en w' => MP gv W0 w X C lv g c fs x 0 lo fr ops en w' ∧ FR w1 X w' := by
  have hl : LV X (.slice (some ⟨b, o, none⟩) 0 c') [] := ⟨_, _, rfl, Nat.zero_le _, hc, fun h => (by cases h), Or.inl rfl⟩
  refine (pushesA (A.grew k).h (by simp) hl (by simp; have := A.hn; omega) (fun a n' c2 e => ?_)).mono ?_
  · injection e with e1 _ _
    injection e1 with e1
    subst e1
    exact ⟨A.own hb.1, hb.2⟩
  · rintro en w' ⟨ov', rfl, h1, h2, h3, _⟩
    rw [List.append_nil] at h1
    exact ⟨⟨rfl, (k.kb A.hB).trans h2, Two.sk (A.grew k).h h3, fun _ => ⟨fv, ov', h1⟩⟩, fun k o hk ho => (h3 k (lt_of_obj ho) (by omega) (Ne.symm (hq k hk))).trans ho⟩
theorem slice_end (b : Nat) (W : World) : (Instr.slice 27 (.slice (some ⟨b, 0, none⟩) 3 3) (some (.int .i64 3)) none none).run Tryz.prog W = .ok (.slice (some ⟨b, 0, none⟩) 0 0) W := by
  simp [go_sem, Tryz.underlying27]
theorem slice_end2 (b : Nat) (W : World) : (Instr.sliceAt 27 (.slice (some ⟨b, 0, none⟩) 3 3) (some (.int .i64 3)) none none).run Tryz.prog W = .ok (.slice (some ⟨b, 0, none⟩) 0 0) W := by
  rw [run_sliceAt_slice _ _ _ _ _ _ (by kernel_rfl)]
  exact slice_end b W
theorem set_same {w : World} {b o : Nat} {v : Value} {cs : Array Value} {t : TypeId} {f : Nat × Nat} (h : w.heap[b]? = some (.cells cs t f)) (hv : cs[o]? = some v) : w.setCell ⟨b, o, none⟩ v = w := by
  have hc : cs.setIfInBounds o v = cs := by
    apply Array.ext_getElem?
    intro i
    rw [Array.getElem?_setIfInBounds]
    split
    · rename_i e
      subst e
      rw [hv]
      split
      · rfl
      · rename_i h2
        rw [Array.getElem?_eq_none (by omega)] at hv
        cases hv
    · rfl
  have e : (w.setCell ⟨b, o, none⟩ v).heap = w.heap := by
    apply Array.ext_getElem?
    intro i
    by_cases hi : i = b
    · subst hi
      rw [heap_set h o v, hc, h]
    · rw [Below.heap_setCell _ _ _ _ hi]
  unfold World.setCell at e ⊢
  simp only at e
  rw [e]
theorem choose_no (A : StA gv L W0 w C lv fv ov g c lo fr ops fs x S es) (he : (popTP (matB L) x.height x.dead ops ⟨1, false, 0⟩).1 ≠ 0) :
    Calls Tryz.prog 72 #[.pointer (some ⟨S, 0, none⟩)] w (MP gv W0 w w C lv g c fs x (popTP (matB L) x.height x.dead ops ⟨1, false, 0⟩).1 lo fr ops) := by
  have hk := popTP_kept he
  have hn := A.hn
  have CI : Hid (∀ X, Calls Tryz.prog 137 #[] X fun en w' => en = .returned (.agg #[.int .i64 1, .bool false, .int .i64 0]) ∧ Grew X w') := i32_any
  have CLi : Hid (∀ v X, Calls Tryz.prog 144 #[v] X fun en w' => en = .returned v ∧ w' = X) := list_any
  have CH : Hid (∀ X, Grew w X → Calls Tryz.prog 142 #[.pointer (some ⟨C, 0, none⟩)] X fun en w' => en = .returned (.int .i64 (ops.length : Int)) ∧ w' = X) := fun X k => heightM (A.grew k).h
  have CP : Hid (∀ X, Grew w X → Calls Tryz.prog 70 #[.pointer (some ⟨C, 0, none⟩), .agg #[.int .i64 1, .bool false, .int .i64 0]] X fun en w' => (en = .returned (.tuple #[vt0k.v, .int .i64 (popTP (matB L) x.height x.dead ops ⟨1, false, 0⟩).1]) ∧ KB W0.heap.size w w' ∧ SK X w' ∧ ∃ ov', CHG gv W0.heap.size w' C lv fv ov' (.slice (some ⟨g, 0, none⟩) (fs.length + 1) c) lo fr ops (fs ++ [x]) ∧ ov'.ownBlock = ov.ownBlock) ∧ FR w X w') := fun X k => by
    have h := A.popTQ2 1 0 false k
    rw [hk.1, hk.2] at h
    exact h
  unfold vt0k VT.v at CP
  generalize (popTP (matB L) x.height x.dead ops ⟨1, false, 0⟩).1 = e at *
  have d1 : (e == 0) = false := by simpa using he
  have d2 : (e != 0) = true := by simpa using he
  have HA := Hid.mk' A
  have HOW : Hid (∀ b, w.heap.size ≤ b → ov.ownBlock ≠ some b) := fun b hb => A.own hb
  have s9 := A.cell A.hc
  have hS := lt_of_obj A.N
  clear A hk
  go_enter Tryz.func72, Tryz.ntmps72
  go_wp2_with fail
  refine (CH.out _ (Grew.refl _)).mono ?_
  rintro en w1 ⟨rfl, hw1⟩
  obtain rfl := hw1.symm
  clear hw1
  go_wp2_with fail
  obtain ⟨wz, hwz⟩ : ∃ wz, wz = (w.alloc (.cells #[.int .i64 0, .bool false, .int .i64 0] 39)).alloc (.cells #[.int .i64 0, .bool false, .int .i64 0] 39) := ⟨_, rfl⟩
  have Gz : Hid (Grew w wz) := by rw [hwz]; exact ((Grew.refl w).alloc _).alloc _
  have Na : Hid (wz.heap[w.heap.size]? = some (.cells #[.int .i64 0, .bool false, .int .i64 0] 39 (0, 0))) := by rw [hwz]; exact heap_alloc (heap_alloc_last _ _) _
  have Nb : Hid (wz.heap[w.heap.size + 1]? = some (.cells #[.int .i64 0, .bool false, .int .i64 0] 39 (0, 0))) := by
    rw [hwz]
    have := heap_alloc_last (w.alloc (.cells #[.int .i64 0, .bool false, .int .i64 0] 39)) (.cells #[.int .i64 0, .bool false, .int .i64 0] 39)
    rw [alloc_size] at this
    exact this
  rw [← hwz]
  clear hwz
  have s9 := cell_grew s9 Gz.out
  have hS := lt_of_cell s9
  have hne1 : S ≠ wz.heap.size := Nat.ne_of_lt hS
  have hne2 : wz.heap.size ≠ S := Nat.ne_of_gt hS
  have HL0 : Hid (w.heap.size ≤ w.heap.size) := Nat.le_refl _
  have HL1 : Hid (w.heap.size ≤ w.heap.size + 1) := Nat.le_succ _
  have HLz : Hid (w.heap.size ≤ wz.heap.size) := Gz.out.2
  have HNS : Hid (wz.heap[S]? = some (.cells es 96 (0, 0))) := (Gz.out.turn []).other HA.out.N (by simp)
  go_region_held3 (fun w' => w'.cell? ⟨S, 9, none⟩ = some (.pointer (some ⟨C, 0, none⟩))) (go_keep) (first
    | (with_reducible refine (CI.out _).mono ?_
       rintro en wa ⟨rfl, ga⟩
       have gg : Grew wz wa := Grew.trans (by repeat (first | with_reducible exact .refl _ | refine .alloc ?_ _ | refine .drewN ?_ _ | refine .drew ?_)) ga
       first
       | (have gz : Grew (wz.alloc (.cells #[.int .i64 0, .bool false, .int .i64 0] 39)) wa := (by first | exact ga | exact ((Grew.refl _).drew).trans ga | exact ((Grew.refl _).drewN _).trans ga)
          have Bt := (gz.turn []).other (heap_alloc_last wz (.cells #[.int .i64 0, .bool false, .int .i64 0] 39)) (by simp)
          have HBt := Hid.mk' Bt
          clear gz Bt)
       | skip
       have GA1 := Hid.mk' (Gz.out.trans gg)
       have GG1 := Hid.mk' gg
       have HLa : Hid (w.heap.size ≤ wa.heap.size) := (Gz.out.trans gg).2
       have t9 := cell_grew s9 gg
       have hneA : S ≠ wa.heap.size := Nat.ne_of_lt (lt_of_cell t9)
       have hneB : wa.heap.size ≠ S := Nat.ne_of_gt (lt_of_cell t9)
       clear ga gg)
    | (with_reducible refine (CP.out _ ?gr).mono ?_
       case gr => exact (by repeat (first | with_reducible exact GA1.out | with_reducible exact Gz.out | with_reducible exact .refl _ | refine .alloc ?_ _ | refine .drewN ?_ _ | refine .drew ?_))
       rintro en w5 ⟨⟨rfl, kb, sk, ov', hk, hov⟩, qq⟩
       first
       | (have B5 := qq _ _ HLz.out (Turn.other (Grew.turn (by first | with_reducible exact .refl _ | with_reducible exact (Grew.refl _).drew | with_reducible exact (Grew.refl _).drewN _) []) HBt.out (by simp))
          have y0 := cell_of B5 0; have y1 := cell_of B5 1; have y2 := cell_of B5 2; have r0 := free_of B5 0; have r1 := free_of B5 1; have r2 := free_of B5 2; simp at y0 y1 y2
          have HE1 := Hid.mk' B5
          have hl5 := lt_of_obj B5
          clear B5)
       | (have B5 := qq _ _ HLa.out (Turn.other (Grew.turn (by first | with_reducible exact .refl _ | with_reducible exact (Grew.refl _).drew | with_reducible exact (Grew.refl _).drewN _) []) (heap_alloc_last wa (.cells #[.int .i64 0, .bool false, .int .i64 0] 39)) (by simp))
          have y0 := cell_of B5 0; have y1 := cell_of B5 1; have y2 := cell_of B5 2; have r0 := free_of B5 0; have r1 := free_of B5 1; have r2 := free_of B5 2; simp at y0 y1 y2
          have HE2 := Hid.mk' B5
          have hl5 := lt_of_obj B5
          clear B5)
       | skip
       have N5 : w5.heap[S]? = some (.cells es 96 (0, 0)) := sk _ _ _ _ (by decide) (by decide) (Turn.other (Grew.turn (by repeat (first | with_reducible exact GG1.out | with_reducible exact .refl _ | refine .alloc ?_ _ | refine .drewN ?_ _ | refine .drew ?_)) []) HNS.out (by simp))
       have Na5 := qq _ _ HL0.out (Turn.other (Grew.turn (by repeat (first | with_reducible exact GG1.out | with_reducible exact .refl _ | refine .alloc ?_ _ | refine .drewN ?_ _ | refine .drew ?_)) []) Na.out (by simp))
       have Nb5 := qq _ _ HL1.out (Turn.other (Grew.turn (by repeat (first | with_reducible exact GG1.out | with_reducible exact .refl _ | refine .alloc ?_ _ | refine .drewN ?_ _ | refine .drew ?_)) []) Nb.out (by simp))
       have t9 := (cell_of N5 9).trans HA.out.hc
       have HN5 := Hid.mk' N5
       have HNa5 := Hid.mk' Na5
       have HNb5 := Hid.mk' Nb5
       have HKB : Hid (KB W0.heap.size w w5) := kb
       have HSK : Hid (SK w w5) := SK.trans (Grew.sk (by repeat (first | with_reducible exact GA1.out | with_reducible exact Gz.out | with_reducible exact .refl _ | refine .alloc ?_ _ | refine .drewN ?_ _ | refine .drew ?_))) sk
       have HCH := Hid.mk' hk
       have HOV := Hid.mk' hov
       clear kb sk hk qq hov N5 Na5 Nb5)
    | fail)
  all_goals
    first
    | (rw [set_same (o := 0) (v := .int .i64 0) HE1.out rfl, set_same (o := 1) (v := .bool false) HE1.out rfl, set_same (o := 2) (v := .int .i64 0) HE1.out rfl]
       obtain ⟨q, hq⟩ : ∃ q, q = wz.heap.size := ⟨_, rfl⟩
       have Nt := HE1.out
       rw [← hq] at Nt
       have HNt := Hid.mk' Nt
       have HLq : Hid (w.heap.size ≤ q) := by rw [hq]; exact HLz.out
       simp only [← hq]
       clear hq Nt HE1 hl5 y0 y1 y2 r0 r1 r2)
    | (rw [set_same (o := 0) (v := .int .i64 0) HE2.out rfl, set_same (o := 1) (v := .bool false) HE2.out rfl, set_same (o := 2) (v := .int .i64 0) HE2.out rfl]
       obtain ⟨q, hq⟩ : ∃ q, q = wa.heap.size := ⟨_, rfl⟩
       have Nt := HE2.out
       rw [← hq] at Nt
       have HNt := Hid.mk' Nt
       have HLq : Hid (w.heap.size ≤ q) := by rw [hq]; exact HLa.out
       simp only [← hq]
       clear hq Nt HE2 hl5 y0 y1 y2 r0 r1 r2)
    | (have gq : Grew w5 (w5.alloc (.cells #[.int .i64 0, .bool false, .int .i64 0] 39)) := (Grew.refl _).alloc _
       have Nt := heap_alloc_last w5 (.cells #[.int .i64 0, .bool false, .int .i64 0] 39)
       obtain ⟨q, hq⟩ : ∃ q, q = w5.heap.size := ⟨_, rfl⟩
       rw [← hq] at Nt
       have HNt := Hid.mk' Nt
       have HLq : Hid (w.heap.size ≤ q) := by rw [hq]; exact HKB.out.2
       simp only [← hq]
       replace HN5 := Hid.mk' ((gq.turn []).other HN5.out (by simp))
       replace HNa5 := Hid.mk' ((gq.turn []).other HNa5.out (by simp))
       replace HNb5 := Hid.mk' ((gq.turn []).other HNb5.out (by simp))
       replace HKB := Hid.mk' (HKB.out.trans (gq.kb (Nat.le_trans HA.out.hB HKB.out.2)))
       replace HSK := Hid.mk' (HSK.out.trans gq.sk)
       replace HCH := Hid.mk' (HCH.out.grew gq)
       clear hq Nt gq t9
       generalize w5.alloc (.cells #[.int .i64 0, .bool false, .int .i64 0] 39) = w5 at *)
    have A5 : StA gv L W0 w5 C lv fv ov' g c lo fr ops fs x S es := ⟨HA.out.hG, HCH.out, KB.grew HA.out.g0 HKB.out, HA.out.hh, HA.out.hn, HN5.out, HA.out.hc⟩
    have CPN : Hid (∀ X b o c', Grew w5 X → (w5.heap.size ≤ b ∧ b < X.heap.size) → c' ≤ maxLen → Calls Tryz.prog 31 #[.pointer (some ⟨C, 0, none⟩), .slice (some ⟨b, o, none⟩) 0 c'] X fun en w' => MP gv W0 w5 X C lv g c fs x 0 lo fr ops en w' ∧ FR w X w') := fun X b o c' k hb hc => A5.pushNil k HA.out.h.lt (fun b hb => by rw [HOV.out]; exact HOW.out b hb) hb hc
    have CH5 := heightM A5.h
    have k9 := A5.cell A5.hc
    have hS5 := lt_of_obj A5.N
    have a0 := cell_of HNa5.out 0; have a1 := cell_of HNa5.out 1; have a2 := cell_of HNa5.out 2
    have b0 := cell_of HNb5.out 0; have b1 := cell_of HNb5.out 1; have b2 := cell_of HNb5.out 2
    have q0 := cell_of HNt.out 0; have q1 := cell_of HNt.out 1; have q2 := cell_of HNt.out 2
    simp at a0 a1 a2 b0 b1 b2 q0 q1 q2
    have ha5 := lt_of_obj HNa5.out
    have hb5 := lt_of_obj HNb5.out
    have hq5 := lt_of_obj HNt.out
    have hz : IntKind.i64.wrap ((ops.length : Int) - (ops.length : Int)) = 0 := by simp [IntKind.wrap_i64]
    have hs1 := fun (b : Nat) (W : World) => slice_end b W
    have hs2 := fun (b : Nat) (W : World) => slice_end2 b W
    clear CI CP CH A5 s9 hS hne1 hne2
    go_wp2_with fail
    refine CH5.mono ?_
    rintro en w6 ⟨rfl, hw6⟩
    obtain rfl := hw6.symm
    clear hw6 CH5
    go_wp2_with fail
    go_region_held (fun w' => w'.cell? ⟨S, 9, none⟩ = some (.pointer (some ⟨C, 0, none⟩)) ∧ w'.cell? ⟨w.heap.size, 0, none⟩ = some (.int .i64 0) ∧ w'.cell? ⟨w.heap.size, 1, none⟩ = some (.bool false) ∧ w'.cell? ⟨w.heap.size, 2, none⟩ = some (.int .i64 0) ∧ w'.cell? ⟨w.heap.size + 1, 0, none⟩ = some (.int .i64 0) ∧ w'.cell? ⟨w.heap.size + 1, 1, none⟩ = some (.bool false) ∧ w'.cell? ⟨w.heap.size + 1, 2, none⟩ = some (.int .i64 0) ∧ w'.cell? ⟨q, 0, none⟩ = some (.int .i64 0) ∧ w'.cell? ⟨q, 1, none⟩ = some (.bool false) ∧ w'.cell? ⟨q, 2, none⟩ = some (.int .i64 0)) (go_keep) (first
      | (with_reducible refine (CLi.out _ _).mono ?_
         rintro en wl ⟨rfl, hwl⟩
         obtain rfl := hwl.symm
         clear hwl)
      | (with_reducible refine (CPN.out _ _ _ _ ?gr ?h3 ?h4).mono ?_
         case gr => exact (by repeat (first | with_reducible exact .refl _ | refine .alloc ?_ _ | refine .drewN ?_ _ | refine .drew ?_))
         case h3 => exact ⟨by first | exact Nat.le_refl _ | (simp; done) | (simp; omega), by first | (simp; done) | (simp; omega)⟩
         case h4 => decide
         rintro en w8 ⟨⟨rfl, kb, sk, hk⟩, qq⟩
         have t9 := (cell_of (sk _ _ _ _ (by decide) (by decide) (Turn.other (Grew.turn (by repeat (first | with_reducible exact .refl _ | refine .alloc ?_ _ | refine .drewN ?_ _ | refine .drew ?_)) []) HN5.out (by simp))) 9).trans HA.out.hc
         have Na8 := qq _ _ HL0.out (Turn.other (Grew.turn (by repeat (first | with_reducible exact .refl _ | refine .alloc ?_ _ | refine .drewN ?_ _ | refine .drew ?_)) []) HNa5.out (by simp))
         have Nb8 := qq _ _ HL1.out (Turn.other (Grew.turn (by repeat (first | with_reducible exact .refl _ | refine .alloc ?_ _ | refine .drewN ?_ _ | refine .drew ?_)) []) HNb5.out (by simp))
         have Nt8 := qq _ _ HLq.out (Turn.other (Grew.turn (by repeat (first | with_reducible exact .refl _ | refine .alloc ?_ _ | refine .drewN ?_ _ | refine .drew ?_)) []) HNt.out (by simp))
         have c0 := cell_of Na8 0; have c1 := cell_of Na8 1; have c2 := cell_of Na8 2
         have e0 := cell_of Nb8 0; have e1 := cell_of Nb8 1; have e2 := cell_of Nb8 2
         have f0 := cell_of Nt8 0; have f1 := cell_of Nt8 1; have f2 := cell_of Nt8 2
         simp at c0 c1 c2 e0 e1 e2 f0 f1 f2
         clear Na8 Nb8 Nt8
         have HK8 : Hid (KB W0.heap.size w5 w8) := kb
         have HS8 : Hid (SK w5 w8) := SK.trans (Grew.sk (by repeat (first | with_reducible exact .refl _ | refine .alloc ?_ _ | refine .drewN ?_ _ | refine .drew ?_))) sk
         clear kb sk hk qq)
      | fail)
    all_goals
      go_wp2_with fail
      go_ret
      exact ⟨rfl, HKB.out.trans HK8.out, HSK.out.trans HS8.out, fun h0 => absurd h0 he⟩
end
end Go.Proofs.YtikaidokllnifaaGreatDoor
