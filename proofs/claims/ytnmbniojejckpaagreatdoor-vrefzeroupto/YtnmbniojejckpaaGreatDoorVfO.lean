/-
  vref's structs of told values; no statement is proved here.
-/
import Derived.Test.YtnmbniojejckpaaGreatDoorVfM
set_option maxRecDepth 100000
set_option maxHeartbeats 8000000
namespace Go.Proofs.YtnmbniojejckpaaGreatDoor
open Go.RowKit
set_option linter.unusedVariables false
set_option linter.unusedSimpArgs false
section
variable {w : World} {cx : Array Value} {TT : List RT} {FL : List Int} {EL : List VT} {RB : List Bool} {dt : Int}
theorem enter_noDefault (args : Array Value) (W : World) : (callFunc 74 args).run Tryz.prog W = .ok (.enter 74 args) W := by kernel_rfl
theorem idxN_any {X : World} {v : Value} {l : List FT} (h : LF X v l) : Calls Tryz.prog 106 #[v, .func (.func 74) #[] #[]] X fun en w' => ∃ k : Int, en = .returned (.int .i64 k) ∧ Grew X w' := by
  have CN : Hid (∀ Y (n h : Int) (z m : Bool), Calls Tryz.prog 74 #[.agg #[.int .i64 n, .bool z, .int .i64 h, .bool m]] Y (BoQ Y)) := fun Y n h z m => noDefault_any n h z m Y
  have EN := enter_noDefault
  have HL := Hid.mk' h
  obtain ⟨la, lc, e1, _, hmx⟩ := h.one
  subst e1
  have hmx : l.length ≤ 9223372036854775807 := by simp [maxLen] at hmx; omega
  clear h
  go_enter Tryz.func106, Tryz.ntmps106
  go_wp2_with fail
  go_loopw [8] (fun i_ w' => ∃ i : Nat, i_ = .int .i64 i ∧ i ≤ l.length ∧ Hid (Grew X w')) (fun i_ _ => l.length - (intOf i_).toNat)
  case atStart => exact ⟨0, rfl, Nat.zero_le _, Grew.refl X⟩
  case round =>
    obtain ⟨i, rfl, hi, HG⟩ := hrel
    by_cases hlt : i < l.length
    · obtain ⟨x, hx⟩ : ∃ x, l[i]? = some x := ⟨_, List.getElem?_eq_getElem hlt⟩
      obtain ⟨b1, o1, e1, _, hE1⟩ := HL.out.get (by omega)
      subst e1
      obtain ⟨⟨x0, x1, x2⟩, x3⟩ := hE1 i x hx
      have x0' := cell_grew x0 HG.out
      have x1' := cell_grew x1 HG.out
      have x2' := cell_grew x2 HG.out
      have x3' := cell_grew x3 HG.out
      have z0 := lt_of_cell x0'
      have d1 : decide ((i : Int) < (l.length : Int)) = true := by simp; omega
      have d2 : decide (i < l.length) = true := by simp; omega
      clear hE1 x0 x1 x2 x3 hx
      go_wp2_with fail
      refine (CN.out _ _ _ _ _).mono ?_
      rintro en w1 ⟨r, rfl, g1⟩
      have Y := Hid.mk' (HG.out.trans g1)
      clear g1 CN HG x0' x1' x2' x3'
      cases r with
      | true =>
        go_wp2_with fail
        go_ret
        exact ⟨_, rfl, Y.out⟩
      | false =>
        go_wp2_with fail
        go_roundw
        case rel => exact ⟨i + 1, by go_num, by omega, Y⟩
        case measure => simp [intOf]; omega
    · have d1 : decide ((i : Int) < (l.length : Int)) = false := by simp; omega
      go_wp2_with fail
      go_ret
      exact ⟨_, rfl, HG.out⟩
theorem cntN_any {X : World} {v : Value} {l : List FT} (h : LF X v l) : Calls Tryz.prog 73 #[v, .func (.func 74) #[] #[]] X (BoQ X) := by
  have CI := Hid.mk' (idxN_any h)
  obtain ⟨la, lc, e1, _, _⟩ := h.one
  subst e1
  clear h
  go_enter Tryz.func73, Tryz.ntmps73
  go_wp2_with fail
  refine CI.out.mono ?_
  rintro en w1 ⟨k, rfl, g1⟩
  have GP := Hid.mk' g1
  clear g1 CI
  go_wp2_with fail
  go_ret
  exact ⟨_, rfl, GP.out⟩
theorem structNewDefault1_z (hc : CTX w cx TT FL EL RB dt) {X : World} (g : Grew w X) {p q : Nat} {es : Array Value} (hx : X.heap[p]? = some (.cells cx 30 (0, 0))) (hq : X.heap[q]? = some (.cells es 52 (0, 0))) {n : Nat} (h32 : n < 4294967296) (h1 : es[1]? = some (.int .u32 (n : Int))) : Calls Tryz.prog 72 #[.pointer (some ⟨p, 0, none⟩), .pointer (some ⟨q, 0, none⟩)] X (TkQ X) := by
  have CE : Hid (∀ Y, Grew X Y → Calls Tryz.prog 70 #[.agg cx, .int .u32 (n : Int)] Y fun en w' => ∃ fv l e, en = .returned (.tuple #[fv, .int .i64 e]) ∧ (e = 0 ∨ e = 150 ∨ e = 151) ∧ LF w' fv l ∧ l.length ≤ 1048576 ∧ Grew Y w') := fun Y gy => fields_any hc n h32 (g.trans gy)
  have hsz := hc.sz
  have HX := Hid.mk' hx
  have q1 := (cell_of hq 1).trans h1
  have GP : Hid (Grew X X) := Grew.refl X
  clear hc g h32 hq h1
  go_enter Tryz.func72, Tryz.ntmps72
  go_wp2_with (first
    | (with_reducible refine stop_load 30 rfl ?_
       unfold Stop
       refine wpList_load_row rfl 30 _ rfl p (by go_simp) 30 cx (0, 0) _ HX.out Tryz.underlying30 rfl (by rw [hsz]; kernel_rfl) ?_)
    | fail)
  refine (CE.out _ (Grew.refl X)).mono ?_
  rintro en w1 ⟨fv, l, e, rfl, he, hl, _, g1⟩
  have CC := Hid.mk' (cntN_any hl)
  obtain ⟨fa, fc, e1, _, _⟩ := hl.one
  subst e1
  clear GP
  have GP := Hid.mk' g1
  have H6 : Hid (e ≠ 6) := by
    show e ≠ 6
    omega
  clear he hl g1 CE HX hx
  go_wp2_with fail
  refine CC.out.mono ?_
  rintro en w2 ⟨r, rfl, g2⟩
  have gx := GP.out.trans g2
  clear GP
  have GP := Hid.mk' gx
  clear gx g2 CC
  cases r
  · go_wp2_with fail
    refine bodyPost_ret (v := .tuple #[.slice none 0 0, .int .i64 e]) (by simp [results, Tryz.results72, go_sem]) rfl ?_
    exact ⟨_, [], e, rfl, H6.out, Lst.nil _ _ _, GP.out⟩
  · go_wp2_with fail
    refine bodyPost_ret (v := .tuple #[.slice none 0 0, .int .i64 163]) (by simp [results, Tryz.results72, go_sem]) rfl ?_
    exact ⟨_, [], 163, rfl, by decide, Lst.nil _ _ _, GP.out⟩
end
section
variable {w : World} {cx : Array Value} {TT : List RT} {FL : List Int} {EL : List VT} {RB : List Bool} {dt : Int}
theorem structNew1_z (hc : CTX w cx TT FL EL RB dt) {X : World} (g : Grew w X) {p q : Nat} {es : Array Value} (hx : X.heap[p]? = some (.cells cx 30 (0, 0))) (hq : X.heap[q]? = some (.cells es 52 (0, 0))) {n : Nat} (h32 : n < 4294967296) (h1 : es[1]? = some (.int .u32 (n : Int))) : Calls Tryz.prog 69 #[.pointer (some ⟨p, 0, none⟩), .pointer (some ⟨q, 0, none⟩)] X (TkQ X) := by
  have CE : Hid (∀ Y, Grew X Y → Calls Tryz.prog 70 #[.agg cx, .int .u32 (n : Int)] Y fun en w' => ∃ fv l e, en = .returned (.tuple #[fv, .int .i64 e]) ∧ (e = 0 ∨ e = 150 ∨ e = 151) ∧ LF w' fv l ∧ l.length ≤ 1048576 ∧ Grew Y w') := fun Y gy => fields_any hc n h32 (g.trans gy)
  have hsz := hc.sz
  have HX := Hid.mk' hx
  have q1 := (cell_of hq 1).trans h1
  have GP : Hid (Grew X X) := Grew.refl X
  have CU : Hid (∀ Y (n h : Int) (z : Bool), Calls Tryz.prog 71 #[.agg #[.int .i64 n, .bool z, .int .i64 h]] Y (VtQ Y)) := fun Y n h z => unpack_any n h z Y
  clear hc g h32 hq h1
  go_enter Tryz.func69, Tryz.ntmps69
  go_wp2_with (first
    | (with_reducible refine stop_load 30 rfl ?_
       unfold Stop
       refine wpList_load_row rfl 30 _ rfl p (by go_simp) 30 cx (0, 0) _ HX.out Tryz.underlying30 rfl (by rw [hsz]; kernel_rfl) ?_)
    | fail)
  refine (CE.out _ (Grew.refl X)).mono ?_
  rintro en w1 ⟨fv, l, e, rfl, he, hl, hll, g1⟩
  have HL := Hid.mk' hl
  obtain ⟨fa, fc, e1, _, hmx⟩ := hl.one
  subst e1
  clear GP
  have GP := Hid.mk' g1
  have H6 : Hid (e ≠ 6) := by
    show e ≠ 6
    omega
  clear he hl g1 CE HX hx
  go_wp2_with fail
  go_loopw [6, 18] (fun v_ i_ w' => ∃ (i : Nat) (m : List VT), i_ = .int .i64 i ∧ i ≤ l.length ∧ m.length ≤ i ∧ Hid (RowV w1.heap.size w' v_ m) ∧ Hid (Grew w1 w')) (fun _ i_ _ => l.length - (intOf i_).toNat)
  case atStart => exact ⟨0, [], rfl, Nat.zero_le _, by simp, RowV.nil _ _, Grew.refl _⟩
  case round =>
    obtain ⟨i, m, rfl, hi, hml, R, G⟩ := hrel
    obtain ⟨w0, hw0⟩ : ∃ w0, w0 = wr := ⟨_, rfl⟩
    rw [← hw0] at G R ⊢
    clear hw0
    obtain ⟨ra, rc, hra, hrc, hrm, _⟩ := row_max R.out
    subst hra
    by_cases hlt : i < l.length
    · obtain ⟨x, hx⟩ : ∃ x, l[i]? = some x := ⟨_, List.getElem?_eq_getElem hlt⟩
      obtain ⟨b, off, ha, hc', hE⟩ := (HL.out.grew G.out).get (by omega)
      subst ha
      obtain ⟨⟨c0, c1, c2⟩, c3⟩ := hE i x hx
      clear hE
      have z0 := lt_of_cell c0
      have d1 : decide ((i : Int) < (l.length : Int)) = true := by simp; omega
      have d2 : decide (i < l.length) = true := by simp; omega
      obtain ⟨⟨tn, tz, th⟩, tm⟩ := x
      simp only at c0 c1 c2 c3
      clear hx
      go_wp2_with fail
      refine (CU.out _ _ _ _).mono ?_
      rintro en w2 ⟨yn, yz, yh, rfl, g2⟩
      have gg : Grew w0 w2 := by repeat (first | with_reducible exact g2 | with_reducible exact .refl _ | refine Grew.trans ?_ g2 | refine .alloc ?_ _ | refine .set ?_ (by simp) _ | refine .drewN ?_ _ | refine .drew ?_)
      have R1 : Hid (RowV w1.heap.size w2 (.slice ra m.length rc) m) := R.out.grew gg
      have G1 : Hid (Grew w1 w2) := G.out.trans gg
      have hgs := G1.out.2
      clear gg g2 R c0 c1 c2 c3 z0
      go_wp2_with (at_builtin; refine wp_app1 (v := .slice ra m.length rc) (n := m.length) (cs := m.flatMap VT.c) (B := w1.heap.size) rfl _ _ 27 46 3 24 _ Tryz.underlying27 infoV rfl (by decide) (by decide) rfl w1.heap.size rfl rfl R1.out hgs rfl (by simp [Value.oneCell']) (by omega) ?_; intro v3 w3 hO3 hT3 hG3)
      go_roundw
      case rel => exact ⟨i + 1, m ++ [(⟨yn, yz, yh⟩ : VT)], by go_num, by omega, by simp; omega, RowV.snoc (a := ⟨yn, yz, yh⟩) hO3, hT3.grew' G1.out (Nat.le_refl _) (Nat.le_refl _)⟩
      case measure => simp [intOf]; omega
    · have d1 : decide ((i : Int) < (l.length : Int)) = false := by simp; omega
      go_wp2_with fail
      refine bodyPost_ret (v := .tuple #[.slice ra m.length rc, .int .i64 e]) (by simp [results, Tryz.results69, go_sem]) rfl ?_
      exact ⟨_, m, e, rfl, H6.out, R.out.lst, GP.out.trans G.out⟩
end
end Go.Proofs.YtnmbniojejckpaaGreatDoor
