/-
  Steps of vnum: data.drop, elem.drop; no statement is proved here.
-/
import Derived.Test.YtikaidokllnifaaGreatDoorClo
import Derived.Deep.RegionHeld3
import Derived.Test.YtikaidokllnifaaGreatDoorVnTj
set_option maxRecDepth 100000
set_option maxHeartbeats 8000000
namespace Go.Proofs.YtikaidokllnifaaGreatDoor
open Go.RowKit
set_option linter.unusedVariables false
set_option linter.unusedSimpArgs false
def knownB (T : List RT) (v : VT) : Bool := if v.num = 5 then (if v.heap < 0 then decide (-12 ≤ v.heap) else decide (v.heap < (cntT T : Int))) else true
theorem known_any {X : World} {tv : Value} {T : List RT} (hT : LR X tv T) (hm : T.length ≤ 1048576) (hc : cntT T ≤ 1048576) (n h : Int) (z : Bool) :
    Calls Tryz.prog 145 #[tv, .agg #[.int .i64 n, .bool z, .int .i64 h]] X fun en w' => en = .returned (.bool (knownB T ⟨n, z, h⟩)) ∧ Grew X w' := by
  have CC : Hid (∀ Y, Grew X Y → Calls Tryz.prog 189 #[tv] Y fun en w' => en = .returned (.int .i64 (cntT T : Int)) ∧ Grew Y w') := fun Y g => count_any (hT.grew g) hm hc
  obtain ⟨ta, tc, htv, _⟩ := hT.one
  subst htv
  clear hT hm hc
  by_cases h5 : n = 5
  · subst h5
    by_cases h0 : h < 0
    · have d1 : decide (h < 0) = true := by simpa using h0
      have e : knownB T ⟨5, z, h⟩ = decide (-12 ≤ h) := by simp [knownB, h0]
      rw [e]
      clear e CC
      go_enter Tryz.func145, Tryz.ntmps145
      go_wp2_with fail
      go_ret
      exact ⟨rfl, by repeat (first | with_reducible exact .refl _ | refine .alloc ?_ _ | refine .drewN ?_ _ | refine .drew ?_)⟩
    · have d1 : decide (h < 0) = false := by simpa using h0
      have e : knownB T ⟨5, z, h⟩ = decide (h < (cntT T : Int)) := by simp [knownB, h0]
      rw [e]
      clear e
      go_enter Tryz.func145, Tryz.ntmps145
      go_wp2_with fail
      have B2 : (X.alloc (.cells #[.int .i64 5, .bool z, .int .i64 h] 39)).heap[X.heap.size]? = some (.cells #[.int .i64 5, .bool z, .int .i64 h] 39 (0, 0)) := heap_alloc_last _ _
      have gg2 : Grew X (X.alloc (.cells #[.int .i64 5, .bool z, .int .i64 h] 39)) := (Grew.refl _).alloc _
      have HB2 : Hid _ := B2
      have HG2 : Hid (Grew X (X.alloc (.cells #[.int .i64 5, .bool z, .int .i64 h] 39))) := gg2
      clear B2 gg2
      generalize X.alloc (.cells #[.int .i64 5, .bool z, .int .i64 h] 39) = w2 at *
      generalize X.heap.size = q at *
      have y2 := cell_of HB2.out 2
      simp at y2
      go_region_held3 (fun w' => w'.cell? ⟨q, 2, none⟩ = some (.int .i64 h)) (go_keep) (first
      | (with_reducible refine (CC.out _ ?gr).mono ?_
         case gr => exact (by repeat (first | with_reducible exact HG2.out | with_reducible exact .refl _ | refine .alloc ?_ _ | refine .drewN ?_ _ | refine .drew ?_))
         rintro en w5 ⟨rfl, g5⟩
         have gg5 : Grew w2 w5 := Grew.trans (by repeat (first | with_reducible exact .refl _ | refine .alloc ?_ _ | refine .drewN ?_ _ | refine .drew ?_)) g5
         have HG5 : Hid (Grew X w5) := HG2.out.trans gg5
         have t2 := cell_grew y2 gg5
         clear g5 gg5)
      | fail)
      all_goals
        go_wp2_with fail
        go_ret
        exact ⟨rfl, (by repeat (first | with_reducible exact HG5.out | refine .alloc ?_ _ | refine .drewN ?_ _ | refine .drew ?_))⟩
  · have d1 : (n == 5) = false := by simpa using h5
    have e : knownB T ⟨n, z, h⟩ = true := by simp [knownB, h5]
    rw [e]
    clear e CC
    go_enter Tryz.func145, Tryz.ntmps145
    go_wp2_with fail
    go_ret
    exact ⟨rfl, by repeat (first | with_reducible exact .refl _ | refine .alloc ?_ _ | refine .drewN ?_ _ | refine .drew ?_)⟩
section
variable {gv : Value} {L : List RT} {W0 w : World} {C : Nat} {lv fv ov : Value} {g c : Nat} {lo : List LO} {fr : List Int} {ops : List VT} {fs : List FV} {x : FV} {S : Nat} {es : Array Value}
theorem chooseOf_len (A : StA gv L W0 w C lv fv ov g c lo fr ops fs x S es) {sv : Value} {l : List VT} (hs : es[25]? = some sv) (hl : LV w sv l) (h1 : l.length ≠ 1) :
    Calls Tryz.prog 73 #[.pointer (some ⟨S, 0, none⟩)] w fun en w' => en = .returned (.int .i64 152) ∧ Grew w w' := by
  have s0 := A.cell hs
  obtain ⟨ta, tc, htv, _⟩ := hl.one
  subst htv
  have d1 : ((l.length : Int) == 1) = false := by simp; omega
  clear A hs hl
  go_enter Tryz.func73, Tryz.ntmps73
  go_wp2_with fail
  go_ret
  exact ⟨rfl, by repeat (first | with_reducible exact .refl _ | refine .alloc ?_ _ | refine .drewN ?_ _ | refine .drew ?_)⟩
theorem chooseOf_no (A : StA gv L W0 w C lv fv ov g c lo fr ops fs x S es) {tv : Value} {T : List RT} (ht : es[0]? = some tv) (hT : LR w tv T) (hm : T.length ≤ 1048576) (hc : cntT T ≤ 1048576) {sv : Value} {p : VT} (hs : es[25]? = some sv) (hl : LV w sv [p]) (hk : knownB T p = false) :
    Calls Tryz.prog 73 #[.pointer (some ⟨S, 0, none⟩)] w fun en w' => en = .returned (.int .i64 150) ∧ Grew w w' := by
  have CK : Hid (∀ X, Grew w X → Calls Tryz.prog 145 #[tv, .agg #[.int .i64 p.num, .bool p.null, .int .i64 p.heap]] X fun en w' => en = .returned (.bool false) ∧ Grew X w') := fun X k => by
    have h := known_any (hT.grew k) hm hc p.num p.heap p.null
    rwa [show knownB T ⟨p.num, p.null, p.heap⟩ = false from hk] at h
  have s0 := A.cell hs
  have s1 := A.cell ht
  have hS := lt_of_obj A.N
  obtain ⟨va, vc, hvv, _⟩ := hT.one
  subst hvv
  obtain ⟨ta, tc, htv, _⟩ := hl.one
  subst htv
  obtain ⟨b, off, ha, _, hE⟩ := hl.get (by simp)
  subst ha
  obtain ⟨x0, x1, x2⟩ := hE 0 p rfl
  simp at x0 x1 x2
  have hxl := lt_of_cell x0
  clear A hs hl ht hT hm hc hk hE
  go_enter Tryz.func73, Tryz.ntmps73
  go_wp2_with fail
  have B1 := heap_alloc_last w (.cells #[.int .i64 p.num, .bool p.null, .int .i64 p.heap] 39)
  have gg1 : Grew w (w.alloc (.cells #[.int .i64 p.num, .bool p.null, .int .i64 p.heap] 39)) := (Grew.refl _).alloc _
  have HB1 := Hid.mk' B1
  have HG1 := Hid.mk' gg1
  have s2 := cell_grew s1 gg1
  clear B1 gg1 s0 s1 x0 x1 x2 hxl hS
  generalize w.alloc (.cells #[.int .i64 p.num, .bool p.null, .int .i64 p.heap] 39) = w1 at *
  obtain ⟨q, hqq, HQ⟩ : ∃ q, q = w.heap.size ∧ Hid (w.heap.size ≤ q) := ⟨_, rfl, Nat.le_refl _⟩
  rw [← hqq] at HB1
  simp only [← hqq]
  clear hqq
  have y0 := cell_of HB1.out 0; have y1 := cell_of HB1.out 1; have y2 := cell_of HB1.out 2
  simp at y0 y1 y2
  have hq1 := lt_of_obj HB1.out
  have hS1 := lt_of_cell s2
  go_region_held3 (fun w' => w'.cell? ⟨S, 0, none⟩ = some (.slice va T.length vc) ∧ w'.cell? ⟨q, 0, none⟩ = some (.int .i64 p.num) ∧ w'.cell? ⟨q, 1, none⟩ = some (.bool p.null) ∧ w'.cell? ⟨q, 2, none⟩ = some (.int .i64 p.heap)) (go_keep) (first
    | (with_reducible refine (CK.out _ ?gr).mono ?_
       case gr => exact (by repeat (first | with_reducible exact HG1.out | with_reducible exact .refl _ | refine .alloc ?_ _ | refine .drewN ?_ _ | refine .drew ?_))
       rintro en w2 ⟨rfl, g2⟩
       have gg2 : Grew w1 w2 := Grew.trans (by repeat (first | with_reducible exact .refl _ | refine .alloc ?_ _ | refine .drewN ?_ _ | refine .drew ?_)) g2
       have HG2 := Hid.mk' (HG1.out.trans gg2)
       have B2 := (gg2.turn []).other HB1.out (by simp)
       have HB2 := Hid.mk' B2
       have z2 := cell_grew s2 gg2
       have z3 := cell_grew y0 gg2; have z4 := cell_grew y1 gg2; have z5 := cell_grew y2 gg2
       clear g2 gg2 B2)
    | fail)
  all_goals
    go_wp2_with fail
    go_ret
    exact ⟨rfl, (by repeat (first | with_reducible exact HG2.out | refine .alloc ?_ _ | refine .drewN ?_ _ | refine .drew ?_))⟩
theorem chooseOf_ok (A : StA gv L W0 w C lv fv ov g c lo fr ops fs x S es) {tv : Value} {T : List RT} (ht : es[0]? = some tv) (hT : LR w tv T) (hm : T.length ≤ 1048576) (hc : cntT T ≤ 1048576) {sv : Value} {p : VT} (hs : es[25]? = some sv) (hl : LV w sv [p]) (hk : knownB T p = true) :
    Calls Tryz.prog 73 #[.pointer (some ⟨S, 0, none⟩)] w (MP gv W0 w w C lv g c fs x (popsR (matB L) x.height x.dead [⟨p.num, p.null, p.heap⟩, ⟨p.num, p.null, p.heap⟩, ⟨1, false, 0⟩].reverse ops).1 lo fr ((popsR (matB L) x.height x.dead [⟨p.num, p.null, p.heap⟩, ⟨p.num, p.null, p.heap⟩, ⟨1, false, 0⟩].reverse ops).2 ++ [⟨p.num, p.null, p.heap⟩])) := by
  have CK : Hid (∀ X, Grew w X → Calls Tryz.prog 145 #[tv, .agg #[.int .i64 p.num, .bool p.null, .int .i64 p.heap]] X fun en w' => en = .returned (.bool true) ∧ Grew X w') := fun X k => by
    have h := known_any (hT.grew k) hm hc p.num p.heap p.null
    rwa [show knownB T ⟨p.num, p.null, p.heap⟩ = true from hk] at h
  have CI : Hid (∀ X, Calls Tryz.prog 137 #[] X fun en w' => en = .returned (.agg #[.int .i64 1, .bool false, .int .i64 0]) ∧ Grew X w') := i32_any
  have CLi : Hid (∀ v X, Calls Tryz.prog 144 #[v] X fun en w' => en = .returned v ∧ w' = X) := list_any
  have CP : Hid (∀ X u b m c', Grew w X → LV X u [⟨p.num, p.null, p.heap⟩, ⟨p.num, p.null, p.heap⟩, ⟨1, false, 0⟩] → LV X (.slice (some ⟨b, 0, none⟩) m c') [⟨p.num, p.null, p.heap⟩] → (w.heap.size ≤ b ∧ b < X.heap.size) → Calls Tryz.prog 146 #[.pointer (some ⟨C, 0, none⟩), u, .slice (some ⟨b, 0, none⟩) m c'] X fun en w' => MP gv W0 w X C lv g c fs x (popsR (matB L) x.height x.dead [⟨p.num, p.null, p.heap⟩, ⟨p.num, p.null, p.heap⟩, ⟨1, false, 0⟩].reverse ops).1 lo fr ((popsR (matB L) x.height x.dead [⟨p.num, p.null, p.heap⟩, ⟨p.num, p.null, p.heap⟩, ⟨1, false, 0⟩].reverse ops).2 ++ [⟨p.num, p.null, p.heap⟩]) en w' ∧ FR w X w') := fun X u b m c' k h1 h2 h3 => A.swapQ k h1 h2 h3 (by simp)
  generalize (popsR (matB L) x.height x.dead [⟨p.num, p.null, p.heap⟩, ⟨p.num, p.null, p.heap⟩, ⟨1, false, 0⟩].reverse ops) = RR at *
  have s0 := A.cell hs
  have s1 := A.cell ht
  have hS := lt_of_obj A.N
  obtain ⟨va, vc, hvv, _⟩ := hT.one
  subst hvv
  have HAA := Hid.mk' A
  obtain ⟨ta, tc, htv, _⟩ := hl.one
  subst htv
  obtain ⟨b, off, ha, _, hE⟩ := hl.get (by simp)
  subst ha
  obtain ⟨x0, x1, x2⟩ := hE 0 p rfl
  simp at x0 x1 x2
  have hxl := lt_of_cell x0
  clear A hs hl ht hT hm hc hk hE
  go_enter Tryz.func73, Tryz.ntmps73
  go_wp2_with fail
  have B1 := heap_alloc_last w (.cells #[.int .i64 p.num, .bool p.null, .int .i64 p.heap] 39)
  have gg1 : Grew w (w.alloc (.cells #[.int .i64 p.num, .bool p.null, .int .i64 p.heap] 39)) := (Grew.refl _).alloc _
  have HB1 := Hid.mk' B1
  have HG1 := Hid.mk' gg1
  have s2 := cell_grew s1 gg1
  clear B1 gg1 s0 s1 x0 x1 x2 hxl hS
  generalize w.alloc (.cells #[.int .i64 p.num, .bool p.null, .int .i64 p.heap] 39) = w1 at *
  obtain ⟨q, hqq, HQ⟩ : ∃ q, q = w.heap.size ∧ Hid (w.heap.size ≤ q) := ⟨_, rfl, Nat.le_refl _⟩
  rw [← hqq] at HB1
  simp only [← hqq]
  clear hqq
  have y0 := cell_of HB1.out 0; have y1 := cell_of HB1.out 1; have y2 := cell_of HB1.out 2
  simp at y0 y1 y2
  have hq1 := lt_of_obj HB1.out
  have hS1 := lt_of_cell s2
  go_region_held3 (fun w' => w'.cell? ⟨S, 0, none⟩ = some (.slice va T.length vc) ∧ w'.cell? ⟨q, 0, none⟩ = some (.int .i64 p.num) ∧ w'.cell? ⟨q, 1, none⟩ = some (.bool p.null) ∧ w'.cell? ⟨q, 2, none⟩ = some (.int .i64 p.heap)) (go_keep) (first
    | (with_reducible refine (CK.out _ ?gr).mono ?_
       case gr => exact (by repeat (first | with_reducible exact HG1.out | with_reducible exact .refl _ | refine .alloc ?_ _ | refine .drewN ?_ _ | refine .drew ?_))
       rintro en w2 ⟨rfl, g2⟩
       have gg2 : Grew w1 w2 := Grew.trans (by repeat (first | with_reducible exact .refl _ | refine .alloc ?_ _ | refine .drewN ?_ _ | refine .drew ?_)) g2
       have HG2 := Hid.mk' (HG1.out.trans gg2)
       have B2 := (gg2.turn []).other HB1.out (by simp)
       have HB2 := Hid.mk' B2
       have z2 := cell_grew s2 gg2
       have z3 := cell_grew y0 gg2; have z4 := cell_grew y1 gg2; have z5 := cell_grew y2 gg2
       clear g2 gg2 B2)
    | fail)
  all_goals
    clear CK
    have A2 := HAA.out.grew HG2.out
    have s9 := A2.cell A2.hc
    have hS2 := lt_of_obj A2.N
    have HN2 := Hid.mk' A2.N
    have hq2 := lt_of_obj HB2.out
    clear y0 y1 y2 z2 z3 z4 z5 s2 hq1 hS1 HB1
    have y0 := cell_of HB2.out 0; have y1 := cell_of HB2.out 1; have y2 := cell_of HB2.out 2
    simp at y0 y1 y2
    clear A2
    go_wp2_with fail
    go_region_held3 (fun w' => w'.cell? ⟨S, 9, none⟩ = some (.pointer (some ⟨C, 0, none⟩)) ∧ w'.cell? ⟨q, 0, none⟩ = some (.int .i64 p.num) ∧ w'.cell? ⟨q, 1, none⟩ = some (.bool p.null) ∧ w'.cell? ⟨q, 2, none⟩ = some (.int .i64 p.heap)) (go_keep) (first
      | (with_reducible refine (CI.out _).mono ?_
         rintro en wa ⟨rfl, ga⟩
         have gg : Grew w2 wa := Grew.trans (by repeat (first | with_reducible exact GG1.out | with_reducible exact .refl _ | refine .alloc ?_ _ | refine .drewN ?_ _ | refine .drew ?_)) ga
         first
         | (with_reducible have gf := fresh3 ga
            obtain ⟨_, hlA, pA0, pA1, pA2, _, _, _⟩ := gf
            have hneA := Nat.ne_of_lt hlA
            have hneB := Nat.ne_of_gt hlA)
         | (with_reducible have gf := fresh3 (Grew.trans (Grew.drew (Grew.refl _)) ga)
            obtain ⟨_, hlA, pA0, pA1, pA2, _, _, _⟩ := gf
            have hneA := Nat.ne_of_lt hlA
            have hneB := Nat.ne_of_gt hlA)
         | (with_reducible have gf := freshV6 ga
            obtain ⟨hlA, pA0, pA1, pA2, pA3, pA4, pA5⟩ := gf
            have hneA := Nat.ne_of_lt hlA
            have hneB := Nat.ne_of_gt hlA)
         | (with_reducible have gf := freshV6 (Grew.trans (Grew.drew (Grew.refl _)) ga)
            obtain ⟨hlA, pA0, pA1, pA2, pA3, pA4, pA5⟩ := gf
            have hneA := Nat.ne_of_lt hlA
            have hneB := Nat.ne_of_gt hlA)
         | skip
         have GA1 := Hid.mk' (HG2.out.trans gg)
         have GG1 := Hid.mk' gg
         have t9 := cell_grew s9 gg
         have t0 := cell_grew y0 gg; have t1 := cell_grew y1 gg; have t2 := cell_grew y2 gg
         clear ga gg)
      | (with_reducible refine (CLi.out _ _).mono ?_
         rintro en wl ⟨rfl, hwl⟩
         obtain rfl := hwl.symm
         clear hwl)
      | (with_reducible refine (CP.out _ _ _ _ _ ?gr ?h1 ?h2 ?h3).mono ?_
         case gr => exact (by repeat (first | with_reducible exact GA1.out | with_reducible exact HG2.out | with_reducible exact .refl _ | refine .alloc ?_ _ | refine .drewN ?_ _ | refine .drew ?_))
         case h1 => exact (lv_3 (by go_simp) (by go_simp) (by go_simp) (by go_simp) (by go_simp) (by go_simp) (by go_simp) (by go_simp) (by go_simp))
         case h2 => exact (lv_1 (by go_simp) (by go_simp) (by go_simp))
         case h3 => exact ⟨by (have h1 := HG2.out.2; first | (have h2 := GA1.out.2; simp; omega) | (simp; omega)), by first | (simp; done) | (simp; omega)⟩
         rintro en w5 ⟨⟨rfl, kb, sk, hk⟩, qq⟩
         have sk2 : SK w w5 := SK.trans (Grew.sk (Grew.trans HG2.out (by repeat (first | with_reducible exact GG1.out | with_reducible exact .refl _ | refine .alloc ?_ _ | refine .drewN ?_ _ | refine .drew ?_)))) sk
         have N5 : w5.heap[S]? = some (.cells es 96 (0, 0)) := sk _ _ _ _ (by decide) (by decide) (Turn.other (Grew.turn (by repeat (first | with_reducible exact GG1.out | with_reducible exact .refl _ | refine .alloc ?_ _ | refine .drewN ?_ _ | refine .drew ?_)) []) HN2.out (by simp))
         have B5 : w5.heap[q]? = some (.cells #[.int .i64 p.num, .bool p.null, .int .i64 p.heap] 39 (0, 0)) := qq _ _ HQ.out (Turn.other (Grew.turn (by repeat (first | with_reducible exact GG1.out | with_reducible exact .refl _ | refine .alloc ?_ _ | refine .drewN ?_ _ | refine .drew ?_)) []) HB2.out (by simp))
         have t9 := (cell_of N5 9).trans HAA.out.hc
         have t0 := cell_of B5 0; have t1 := cell_of B5 1; have t2 := cell_of B5 2
         simp at t0 t1 t2
         have HF := Hid.mk' (And.intro kb (And.intro sk2 hk))
         clear kb hk sk sk2 N5 B5 qq)
      | fail)
    all_goals
      go_wp2_with fail
      go_ret
      exact ⟨rfl, HF.out.1, HF.out.2.1, fun he => HF.out.2.2 (by first | exact he | trivial)⟩
end
section
variable {gv : Value} {L : List RT} {W0 w : World} {C : Nat} {lv fv ov : Value} {g c : Nat} {lo : List LO} {fr : List Int} {ops : List VT} {fs : List FV} {x : FV} {S : Nat} {es : Array Value}
theorem memoryCopy_out (A : StA gv L W0 w C lv fv ov g c lo fr ops fs x S es) {n : Nat} (h32 : n < 4294967296) (hx : es[11]? = some (.int .u32 (n : Int))) {mv : Value} {M : List LMt} (hm : es[3]? = some mv) (hM : LLm w mv M) (hn : M.length ≤ n) :
    Calls Tryz.prog 88 #[.pointer (some ⟨S, 0, none⟩)] w fun en w' => en = .returned (.int .i64 150) ∧ Grew w w' := by
  have CAt : Hid (∀ X, Grew w X → Calls Tryz.prog 154 #[mv, .int .u32 (n : Int)] X fun en w' => en = .returned (.tuple #[.agg #[.bool false, .int .u64 0, .int .u64 0, .bool false], .int .i64 150]) ∧ Grew X w') := fun X k => atLM_out (hM.grew k) hn h32
  have s0 := A.cell hm
  have s1 := A.cell hx
  have hS := lt_of_obj A.N
  have hne1 : S ≠ w.heap.size := Nat.ne_of_lt hS
  have hne2 : w.heap.size ≠ S := Nat.ne_of_gt hS
  obtain ⟨ma, mc, hmv, _⟩ := hM.one
  subst hmv
  clear A hx hm hM hn h32
  go_enter Tryz.func88, Tryz.ntmps88
  go_wp2_with fail
  go_region_held3 (fun w' => w'.cell? ⟨S, 3, none⟩ = some (.slice ma M.length mc) ∧ w'.cell? ⟨S, 11, none⟩ = some (.int .u32 (n : Int))) (go_keep) (first
    | (with_reducible refine (CAt.out _ ?gr).mono ?_
       case gr => exact (by repeat (first | with_reducible exact .refl _ | refine .alloc ?_ _ | refine .drewN ?_ _ | refine .drew ?_))
       rintro en w1 ⟨rfl, g1⟩
       have gg1 : Grew w w1 := Grew.trans (by repeat (first | with_reducible exact .refl _ | refine .alloc ?_ _ | refine .drewN ?_ _ | refine .drew ?_)) g1
       have G1 := Hid.mk' gg1
       have s10 := cell_grew s0 gg1
       have s11 := cell_grew s1 gg1
       first
       | (have gz : Grew (w.alloc (.cells #[.bool false, .int .u64 0, .int .u64 0, .bool false] 81)) w1 := (by first | exact g1 | exact ((Grew.refl _).drew).trans g1 | exact ((Grew.refl _).drewN _).trans g1)
          have Bz := (gz.turn []).other (heap_alloc_last w (.cells #[.bool false, .int .u64 0, .int .u64 0, .bool false] 81)) (by simp)
          have HBz := Hid.mk' Bz
          have hlz := lt_of_obj Bz
          have y0 := cell_of Bz 0; have r0 := free_of Bz 0; have y1 := cell_of Bz 1; have r1 := free_of Bz 1; have y2 := cell_of Bz 2; have r2 := free_of Bz 2; have y3 := cell_of Bz 3; have r3 := free_of Bz 3
          simp at y0 y1 y2 y3
          clear gz Bz)
       | skip
       clear g1 gg1))
  all_goals
    go_wp2_with fail
    go_ret
    exact ⟨rfl, (by repeat (first | with_reducible exact G1.out | refine .set ?_ (Nat.le_refl _) _ | refine .alloc ?_ _ | refine .drewN ?_ _ | refine .drew ?_))⟩
theorem memoryCopy_out2 (A : StA gv L W0 w C lv fv ov g c lo fr ops fs x S es) {n : Nat} (h32 : n < 4294967296) (hx : es[11]? = some (.int .u32 (n : Int))) {n2 : Nat} (h322 : n2 < 4294967296) (hy : es[12]? = some (.int .u32 (n2 : Int))) {mv : Value} {M : List LMt} (hm : es[3]? = some mv) (hM : LLm w mv M) {p : LMt} (hp : M[n]? = some p) (hn2 : M.length ≤ n2) :
    Calls Tryz.prog 88 #[.pointer (some ⟨S, 0, none⟩)] w (fun en w' => en = .returned (.int .i64 150) ∧ Grew w w') := by
  have CAt : Hid (∀ X, Grew w X → Calls Tryz.prog 154 #[mv, .int .u32 (n : Int)] X fun en w' => en = .returned (.tuple #[.agg #[.bool p.wide, .int .u64 p.mn, .int .u64 p.mx, .bool p.hm], .int .i64 0]) ∧ Grew X w') := fun X k => atLM_in (hM.grew k) hp h32
  have CA2 : Hid (∀ X, Grew w X → Calls Tryz.prog 154 #[mv, .int .u32 (n2 : Int)] X fun en w' => en = .returned (.tuple #[.agg #[.bool false, .int .u64 0, .int .u64 0, .bool false], .int .i64 150]) ∧ Grew X w') := fun X k => atLM_out (hM.grew k) hn2 h322
  have CY := Hid.mk' hy
  clear hy h322 hn2
  have s0 := A.cell hm
  have s1 := A.cell hx
  have s2 := A.cell A.hc
  have hS := lt_of_obj A.N
  have hne1 : S ≠ w.heap.size := Nat.ne_of_lt hS
  have hne2 : w.heap.size ≠ S := Nat.ne_of_gt hS
  have HAA := Hid.mk' A
  have HC9 := Hid.mk' A.hc
  obtain ⟨ma, mc, hmv, _⟩ := hM.one
  subst hmv
  have CM3 := Hid.mk' hm
  clear A hx hm hM hp h32
  go_enter Tryz.func88, Tryz.ntmps88
  go_wp2_with fail
  go_region_held3 (fun w' => w'.cell? ⟨S, 3, none⟩ = some (.slice ma M.length mc) ∧ w'.cell? ⟨S, 11, none⟩ = some (.int .u32 (n : Int))) (go_keep) (first
    | (with_reducible refine (CAt.out _ ?gr).mono ?_
       case gr => exact (by repeat (first | with_reducible exact .refl _ | refine .alloc ?_ _ | refine .drewN ?_ _ | refine .drew ?_))
       rintro en v1 ⟨rfl, g1⟩
       have gg1 : Grew w v1 := Grew.trans (by repeat (first | with_reducible exact .refl _ | refine .alloc ?_ _ | refine .drewN ?_ _ | refine .drew ?_)) g1
       have GZ1 := Hid.mk' gg1
       have s10 := cell_grew s0 gg1
       have s11 := cell_grew s1 gg1
       first
       | (have gz : Grew (w.alloc (.cells #[.bool false, .int .u64 0, .int .u64 0, .bool false] 81)) v1 := (by first | exact g1 | exact ((Grew.refl _).drew).trans g1 | exact ((Grew.refl _).drewN _).trans g1)
          have Bz := (gz.turn []).other (heap_alloc_last w (.cells #[.bool false, .int .u64 0, .int .u64 0, .bool false] 81)) (by simp)
          have HBz := Hid.mk' Bz
          have hlz := lt_of_obj Bz
          have ya0 := cell_of Bz 0; have r0 := free_of Bz 0; have ya1 := cell_of Bz 1; have r1 := free_of Bz 1; have ya2 := cell_of Bz 2; have r2 := free_of Bz 2; have ya3 := cell_of Bz 3; have r3 := free_of Bz 3
          simp at ya0 ya1 ya2 ya3
          clear gz Bz)
       | skip
       clear g1 gg1))
  all_goals
    clear s10 s11 s0 s1 s2 CAt
    go_wp2_with fail
    first
    | (have hh0 := hlz
       have B2 : ((((v1.setCell ⟨w.heap.size, 0, none⟩ (.bool p.wide)).setCell ⟨w.heap.size, 1, none⟩ (.int .u64 p.mn)).setCell ⟨w.heap.size, 2, none⟩ (.int .u64 p.mx)).setCell ⟨w.heap.size, 3, none⟩ (.bool p.hm)).heap[w.heap.size]? = some (.cells #[.bool p.wide, .int .u64 p.mn, .int .u64 p.mx, .bool p.hm] 81 (0, 0)) := (heap_set (heap_set (heap_set (heap_set HBz.out 0 (.bool p.wide)) 1 (.int .u64 p.mn)) 2 (.int .u64 p.mx)) 3 (.bool p.hm))
       have gg2 : Grew w ((((v1.setCell ⟨w.heap.size, 0, none⟩ (.bool p.wide)).setCell ⟨w.heap.size, 1, none⟩ (.int .u64 p.mn)).setCell ⟨w.heap.size, 2, none⟩ (.int .u64 p.mx)).setCell ⟨w.heap.size, 3, none⟩ (.bool p.hm)) := ((((GZ1.out.set (p := ⟨w.heap.size, 0, none⟩) (Nat.le_refl _) (.bool p.wide)).set (p := ⟨w.heap.size, 1, none⟩) (Nat.le_refl _) (.int .u64 p.mn)).set (p := ⟨w.heap.size, 2, none⟩) (Nat.le_refl _) (.int .u64 p.mx)).set (p := ⟨w.heap.size, 3, none⟩) (Nat.le_refl _) (.bool p.hm))
       have hq : w.heap.size ≤ w.heap.size := Nat.le_refl _
       have HBa := Hid.mk' B2
       have GD := Hid.mk' gg2
       have HQA := Hid.mk' hq
       clear hh0 hlz ya0 r0 ya1 r1 ya2 r2 ya3 r3 HBz B2 gg2 hq hne1 hne2 hS
       generalize ((((v1.setCell ⟨w.heap.size, 0, none⟩ (.bool p.wide)).setCell ⟨w.heap.size, 1, none⟩ (.int .u64 p.mn)).setCell ⟨w.heap.size, 2, none⟩ (.int .u64 p.mx)).setCell ⟨w.heap.size, 3, none⟩ (.bool p.hm)) = wd at *
       obtain ⟨qa, hqq⟩ : ∃ qa, qa = w.heap.size := ⟨_, rfl⟩
       rw [← hqq] at HBa
       simp only [← hqq]
       clear hqq HQA)
    | (have B2 : (v1.alloc (.cells #[.bool p.wide, .int .u64 p.mn, .int .u64 p.mx, .bool p.hm] 81)).heap[v1.heap.size]? = some (.cells #[.bool p.wide, .int .u64 p.mn, .int .u64 p.mx, .bool p.hm] 81 (0, 0)) := heap_alloc_last _ _
       have gg2 : Grew w (v1.alloc (.cells #[.bool p.wide, .int .u64 p.mn, .int .u64 p.mx, .bool p.hm] 81)) := GZ1.out.alloc _
       have HBa := Hid.mk' B2
       have GD := Hid.mk' gg2
       clear B2 gg2 hne1 hne2 hS
       generalize v1.alloc (.cells #[.bool p.wide, .int .u64 p.mn, .int .u64 p.mx, .bool p.hm] 81) = wd at *
       obtain ⟨qa, hqq⟩ : ∃ qa, qa = v1.heap.size := ⟨_, rfl⟩
       rw [← hqq] at HBa
       simp only [← hqq]
       clear hqq)
    have A2 := HAA.out.grew GD.out
    have s9 := A2.cell A2.hc
    have hSa := lt_of_obj A2.N
    have HNa := Hid.mk' A2.N
    have hqa := lt_of_obj HBa.out
    have ya0 := cell_of HBa.out 0; have ya1 := cell_of HBa.out 1; have ya2 := cell_of HBa.out 2; have ya3 := cell_of HBa.out 3
    simp at ya0 ya1 ya2 ya3
    clear A2 GZ1
    have Ad := HAA.out.grew GD.out
    have s0 := Ad.cell CM3.out
    have s1 := Ad.cell CY.out
    have s2 := Ad.cell Ad.hc
    skip
    have hS := lt_of_obj Ad.N
    have hne1 : S ≠ wd.heap.size := Nat.ne_of_lt hS
    have hne2 : wd.heap.size ≠ S := Nat.ne_of_gt hS
    have CAt := Hid.mk' (fun X k => CA2.out X (GD.out.trans k))
    have HA0 := HAA
    replace HAA := Hid.mk' Ad
    clear Ad CA2 hSa hqa s9
    go_wp2_with fail
    go_region_held3 (fun wd' => wd'.cell? ⟨S, 3, none⟩ = some (.slice ma M.length mc) ∧ wd'.cell? ⟨S, 12, none⟩ = some (.int .u32 (n2 : Int))) (go_keep) (first
      | (with_reducible refine (CAt.out _ ?gr).mono ?_
         case gr => exact (by repeat (first | with_reducible exact .refl _ | refine .alloc ?_ _ | refine .drewN ?_ _ | refine .drew ?_))
         rintro en w1 ⟨rfl, g1⟩
         have gg1 : Grew wd w1 := Grew.trans (by repeat (first | with_reducible exact .refl _ | refine .alloc ?_ _ | refine .drewN ?_ _ | refine .drew ?_)) g1
         have G1 := Hid.mk' gg1
         have s10 := cell_grew s0 gg1
         have s11 := cell_grew s1 gg1
         first
         | (have gz : Grew (wd.alloc (.cells #[.bool false, .int .u64 0, .int .u64 0, .bool false] 81)) w1 := (by first | exact g1 | exact ((Grew.refl _).drew).trans g1 | exact ((Grew.refl _).drewN _).trans g1)
            have Bz := (gz.turn []).other (heap_alloc_last wd (.cells #[.bool false, .int .u64 0, .int .u64 0, .bool false] 81)) (by simp)
            have HBz := Hid.mk' Bz
            have hlz := lt_of_obj Bz
            have y0 := cell_of Bz 0; have r0 := free_of Bz 0; have y1 := cell_of Bz 1; have r1 := free_of Bz 1; have y2 := cell_of Bz 2; have r2 := free_of Bz 2; have y3 := cell_of Bz 3; have r3 := free_of Bz 3
            simp at y0 y1 y2 y3
            clear gz Bz)
         | skip
         clear g1 gg1))
    all_goals
      go_wp2_with fail
      go_ret
      exact ⟨rfl, GD.out.trans (by repeat (first | with_reducible exact G1.out | refine .set ?_ (by first | exact Nat.le_refl _ | exact G1.out.2) _ | refine .alloc ?_ _ | refine .drewN ?_ _ | refine .drew ?_))⟩
end
section
variable {gv : Value} {L : List RT} {W0 w : World} {C : Nat} {lv fv ov : Value} {g c : Nat} {lo : List LO} {fr : List Int} {ops : List VT} {fs : List FV} {x : FV} {S : Nat} {es : Array Value}
theorem sbelow_any {n : Nat} {d : Int} (h32 : n < 4294967296) {e : Int} (he : e = if d ≤ (n : Int) then 150 else 0) (w : World) :
    Calls Tryz.prog 195 #[.int .u32 (n : Int), .int .i64 d] w fun en w' => en = .returned (.int .i64 e) ∧ Grew w w' := by
  have hw : IntKind.i64.wrap (n : Int) = (n : Int) := by rw [IntKind.wrap_i64]; omega
  clear h32
  by_cases h : d ≤ (n : Int)
  · have hc : decide (d ≤ (n : Int)) = true := by simpa using h
    rw [if_pos h] at he
    subst he
    go_enter Tryz.func195, Tryz.ntmps195
    go_wp2_with fail
    go_ret
    exact ⟨rfl, Grew.refl _⟩
  · have hc : decide (d ≤ (n : Int)) = false := by simpa using h
    rw [if_neg h] at he
    subst he
    go_enter Tryz.func195, Tryz.ntmps195
    go_wp2_with fail
    go_ret
    exact ⟨rfl, Grew.refl _⟩
theorem data_any (A : StA gv L W0 w C lv fv ov g c lo fr ops fs x S es) {n : Nat} {d : Int} (h32 : n < 4294967296) (hx : es[11]? = some (.int .u32 (n : Int))) (hd : es[7]? = some (.int .i64 d)) {e : Int} (he : e = if d ≤ (n : Int) then 150 else 0) :
    Calls Tryz.prog 156 #[.pointer (some ⟨S, 0, none⟩)] w fun en w' => en = .returned (.int .i64 e) ∧ Grew w w' := by
  have s0 := A.cell hd
  have s1 := A.cell hx
  have CB : Hid (∀ X, Calls Tryz.prog 195 #[.int .u32 (n : Int), .int .i64 d] X fun en w' => en = .returned (.int .i64 e) ∧ Grew X w') := sbelow_any h32 he
  clear A hx hd h32 he
  go_enter Tryz.func156, Tryz.ntmps156
  go_wp2_with fail
  go_region_held3 (fun w' => w'.cell? ⟨S, 7, none⟩ = some (.int .i64 d) ∧ w'.cell? ⟨S, 11, none⟩ = some (.int .u32 (n : Int))) (go_keep) (first
    | (with_reducible refine (CB.out _).mono ?_
       rintro en w1 ⟨rfl, g1⟩
       have gg1 : Grew w w1 := Grew.trans (by repeat (first | with_reducible exact .refl _ | refine .alloc ?_ _ | refine .drewN ?_ _ | refine .drew ?_)) g1
       have G1 := Hid.mk' gg1
       have s10 := cell_grew s0 gg1
       have s11 := cell_grew s1 gg1
       clear g1 gg1))
  all_goals
    go_wp2_with fail
    go_ret
    exact ⟨rfl, by repeat (first | with_reducible exact G1.out | refine .alloc ?_ _ | refine .drewN ?_ _ | refine .drew ?_)⟩
theorem dataDrop_any (A : StA gv L W0 w C lv fv ov g c lo fr ops fs x S es) {n : Nat} {d : Int} (h32 : n < 4294967296) (hx : es[11]? = some (.int .u32 (n : Int))) (hd : es[7]? = some (.int .i64 d)) :
    Calls Tryz.prog 87 #[.pointer (some ⟨S, 0, none⟩)] w fun en w' => en = .returned (.int .i64 (if d ≤ (n : Int) then 150 else 0)) ∧ Grew w w' := by
  have C1 : Hid (Calls Tryz.prog 156 #[.pointer (some ⟨S, 0, none⟩)] w fun en w' => en = .returned (.int .i64 (if d ≤ (n : Int) then 150 else 0)) ∧ Grew w w') := data_any A h32 hx hd rfl
  clear A hx hd h32
  generalize (if d ≤ (n : Int) then (150 : Int) else 0) = e at *
  go_enter Tryz.func87, Tryz.ntmps87
  go_wp2_with fail
  refine C1.out.mono ?_
  rintro en w1 ⟨rfl, g1⟩
  have G1 := Hid.mk' g1
  clear g1 C1
  go_wp2_with fail
  go_ret
  exact ⟨rfl, G1.out⟩
end
end Go.Proofs.YtikaidokllnifaaGreatDoor
