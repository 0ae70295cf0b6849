/-
  The program's each: lists of numbers, of value types, of fields; no statement is proved here.
-/
import Derived.Test.YtojkonoffdlbpaaDoorCTold
namespace Go.Proofs.YtojkonoffdlbpaaDoor
open Go.RowKit
set_option linter.unusedVariables false
set_option linter.unusedSimpArgs false

set_option maxRecDepth 100000 in
set_option maxHeartbeats 1000000 in
theorem eachI_any {w : World} {v : Value} {l : List Int} {k1 k2 : Value} {f : Int → Int} {D : Int → Prop} (h : LI w v l) (hl : l.length ≤ 1048576) (ht : Tells w k1 k2 f D) (hd : ∀ x ∈ l, D x) :
    Calls Tryd.prog 72 #[v, SWAP k1 k2] w fun en w' => ∃ u, en = .returned u ∧ RowI w.heap.size w' u (l.map f) ∧ Grew w w' := by
  obtain ⟨a, cap, hv, hcap, hmax⟩ := h.one
  subst hv
  have CC : Hid (∀ x ∈ l, ∀ w', Grew w w' → Calls Tryd.prog 56 #[.int .i64 x, k1, k2] w' fun e w'' => e = .returned (.int .i64 (f x)) ∧ Grew w' w'') := fun x hx w' g => ht w' g x (hd x hx)
  have H : Hid (LI w (.slice a l.length cap) l) := h
  clear h ht hd
  unfold SWAP
  go_enter Tryd.func72, Tryd.ntmps72
  go_wp2_with fail
  go_loopw [5, 10] (fun v_ i_ w' => ∃ (i : Nat) (m : List Int), i_ = .int .i64 i ∧ i ≤ l.length ∧ Hid (m = (l.take i).map f) ∧ m.length ≤ i ∧ Hid (RowI w.heap.size w' v_ m) ∧ Hid (Grew w w')) (fun _ i_ _ => l.length - (intOf i_).toNat)
  case atStart => exact ⟨0, [], rfl, Nat.zero_le _, rfl, by simp, RowI.nil _ _, Grew.refl _⟩
  case round =>
    obtain ⟨i, m, rfl, hi, HM, hml, R, G⟩ := hrel
    obtain ⟨w0, hw0⟩ : ∃ w0, w0 = wr := ⟨_, rfl⟩
    rw [← hw0] at G R ⊢
    clear hw0
    obtain ⟨ra, rc, hra, hrc, hrm, _⟩ := row_max R.out
    subst hra
    by_cases hlt : i < l.length
    · obtain ⟨x, hx⟩ : ∃ x, l[i]? = some x := ⟨_, List.getElem?_eq_getElem hlt⟩
      obtain ⟨b, off, ha, hc', hE⟩ := (H.out.grew G.out).get (by omega)
      subst ha
      have c0 := hE i x hx
      unfold EI at c0
      rw [Nat.mul_one] at c0
      clear hE
      have d1 : decide ((i : Int) < (l.length : Int)) = true := by simp; omega
      have d2 : decide (i < l.length) = true := by simp; omega
      have HS : Hid ((l.take (i + 1)).map f = m ++ [f x]) := (by rw [HM.out, take_snoc hx, List.map_append]; rfl : (l.take (i + 1)).map f = m ++ [f x])
      have C := CC.out x (List.mem_of_getElem? hx)
      obtain ⟨y, hy⟩ : ∃ y, f x = y := ⟨_, rfl⟩
      rw [hy] at C HS
      clear hy
      have C' : Hid (∀ w', Grew w w' → Calls Tryd.prog 56 #[.int .i64 x, k1, k2] w' fun e w'' => e = .returned (.int .i64 y) ∧ Grew w' w'') := C
      clear hx C
      go_wp2_with fail
      refine (C'.out _ G.out).mono ?_
      rintro en w1 ⟨rfl, g1⟩
      have gg : Grew w0 w1 := g1
      have R1 : Hid (RowI w.heap.size w1 (.slice ra m.length rc) m) := R.out.grew gg
      have G1 : Hid (Grew w w1) := G.out.trans gg
      have hgs := G1.out.2
      clear gg g1 C' R c0
      go_wp2_with (at_builtin; refine wp_app1 (v := .slice ra m.length rc) (n := m.length) (cs := m.flatMap ic1) (B := w.heap.size) rfl _ _ 26 3 1 8 _ Tryd.underlying26 infoI rfl (by decide) (by decide) rfl w.heap.size rfl rfl R1.out hgs rfl (by simp [Value.oneCell']) (by omega) ?_; intro v3 w3 hO3 hT3 hG3)
      go_roundw
      case rel => exact ⟨i + 1, m ++ [(y : Int)], by go_num, by omega, HS.out.symm, by simp; omega, RowI.snoc (a := y) hO3, hT3.grew' G1.out (Nat.le_refl _) (Nat.le_refl _)⟩
      case measure => simp [intOf]; omega
    · have d1 : decide ((i : Int) < (l.length : Int)) = false := by simp; omega
      have hin : l.take i = l := List.take_of_length_le (by omega)
      have e : l.map f = m := by rw [HM.out, hin]
      go_wp2_with fail
      go_ret
      exact ⟨_, rfl, by rw [e]; exact R.out, G.out⟩
set_option maxRecDepth 100000 in
set_option maxHeartbeats 1000000 in
theorem eachV_any {w : World} {v : Value} {l : List VT} {k1 k2 : Value} {f : Int → Int} {D : Int → Prop} {sb : Nat} (h : LV w v l) (hl : l.length ≤ 1048576) (ht : Tells w k1 k2 f D) (hb : BX w sb 99 (SWAP k1 k2)) (hd : ∀ x ∈ l, x.num = 5 → 0 ≤ x.heap → D x.heap) :
    Calls Tryd.prog 70 #[v, VALC sb] w fun en w' => ∃ u, en = .returned u ∧ RowV w.heap.size w' u (l.map (VT.sw f)) ∧ Grew w w' := by
  obtain ⟨a, cap, hv, hcap, hmax⟩ := h.one
  subst hv
  have CC : Hid (∀ x ∈ l, ∀ w', Grew w w' → Calls Tryd.prog 67 #[x.v, .pointer (some ⟨sb, 0, none⟩)] w' fun en w'' => en = .returned (x.sw f).v ∧ Grew w' w'') := fun x hx w' g => swc1_any (ht.grew g) (hb.grew g) x (hd x hx)
  have H : Hid (LV w (.slice a l.length cap) l) := h
  clear h ht hd hb
  unfold VALC
  go_enter Tryd.func70, Tryd.ntmps70
  go_wp2_with fail
  go_loopw [5, 10] (fun v_ i_ w' => ∃ (i : Nat) (m : List VT), i_ = .int .i64 i ∧ i ≤ l.length ∧ Hid (m = (l.take i).map (VT.sw f)) ∧ m.length ≤ i ∧ Hid (RowV w.heap.size w' v_ m) ∧ Hid (Grew w w')) (fun _ i_ _ => l.length - (intOf i_).toNat)
  case atStart => exact ⟨0, [], rfl, Nat.zero_le _, rfl, by simp, RowV.nil _ _, Grew.refl _⟩
  case round =>
    obtain ⟨i, m, rfl, hi, HM, hml, R, G⟩ := hrel
    obtain ⟨w0, hw0⟩ : ∃ w0, w0 = wr := ⟨_, rfl⟩
    rw [← hw0] at G R ⊢
    clear hw0
    obtain ⟨ra, rc, hra, hrc, hrm, _⟩ := row_max R.out
    subst hra
    by_cases hlt : i < l.length
    · obtain ⟨x, hx⟩ : ∃ x, l[i]? = some x := ⟨_, List.getElem?_eq_getElem hlt⟩
      obtain ⟨b, off, ha, hc', hE⟩ := (H.out.grew G.out).get (by omega)
      subst ha
      obtain ⟨c0, c1, c2⟩ := hE i x hx
      clear hE
      have d1 : decide ((i : Int) < (l.length : Int)) = true := by simp; omega
      have d2 : decide (i < l.length) = true := by simp; omega
      have HS : Hid ((l.take (i + 1)).map (VT.sw f) = m ++ [x.sw f]) := (by rw [HM.out, take_snoc hx, List.map_append]; rfl : (l.take (i + 1)).map (VT.sw f) = m ++ [x.sw f])
      have C := CC.out x (List.mem_of_getElem? hx)
      unfold VT.v at C
      generalize x.sw f = y at *
      obtain ⟨tn, tz, th⟩ := x
      obtain ⟨yn, yz, yh⟩ := y
      simp only at c0 c1 c2 C
      have C' : Hid (∀ w', Grew w w' → Calls Tryd.prog 67 #[.agg #[.int .i64 tn, .bool tz, .int .i64 th], .pointer (some ⟨sb, 0, none⟩)] w' fun en w'' => en = .returned (.agg #[.int .i64 yn, .bool yz, .int .i64 yh]) ∧ Grew w' w'') := C
      clear hx C
      go_wp2_with fail
      refine (C'.out _ (G.out.alloc _)).mono ?_
      rintro en w1 ⟨rfl, g1⟩
      have gg : Grew w0 w1 := ((Grew.refl w0).alloc _).trans g1
      have R1 : Hid (RowV w.heap.size w1 (.slice ra m.length rc) m) := R.out.grew gg
      have G1 : Hid (Grew w w1) := G.out.trans gg
      have hgs := G1.out.2
      clear gg g1 C' R c0 c1 c2
      go_wp2_with (at_builtin; refine wp_app1 (v := .slice ra m.length rc) (n := m.length) (cs := m.flatMap VT.c) (B := w.heap.size) rfl _ _ 27 68 3 24 _ Tryd.underlying27 infoV rfl (by decide) (by decide) rfl w.heap.size rfl rfl R1.out hgs rfl (by simp [Value.oneCell']) (by omega) ?_; intro v3 w3 hO3 hT3 hG3)
      go_roundw
      case rel => exact ⟨i + 1, m ++ [(⟨yn, yz, yh⟩ : VT)], by go_num, by omega, HS.out.symm, by simp; omega, RowV.snoc (a := ⟨yn, yz, yh⟩) hO3, hT3.grew' G1.out (Nat.le_refl _) (Nat.le_refl _)⟩
      case measure => simp [intOf]; omega
    · have d1 : decide ((i : Int) < (l.length : Int)) = false := by simp; omega
      have hin : l.take i = l := List.take_of_length_le (by omega)
      have e : l.map (VT.sw f) = m := by rw [HM.out, hin]
      go_wp2_with fail
      go_ret
      exact ⟨_, rfl, by rw [e]; exact R.out, G.out⟩
def FLDC (vb : Nat) : Value := .func (.func 69) #[] #[.pointer (some ⟨vb, 0, none⟩)]
set_option maxRecDepth 100000 in
set_option maxHeartbeats 1000000 in
theorem eachF_any {w : World} {v : Value} {l : List FT} {k1 k2 : Value} {f : Int → Int} {D : Int → Prop} {sb vb : Nat} (h : LF w v l) (hl : l.length ≤ 1048576) (ht : Tells w k1 k2 f D) (hb : BX w sb 99 (SWAP k1 k2)) (hv : BX w vb 111 (VALC sb)) (hd : ∀ x ∈ l, x.ty.num = 5 → 0 ≤ x.ty.heap → D x.ty.heap) :
    Calls Tryd.prog 71 #[v, FLDC vb] w fun en w' => ∃ u, en = .returned u ∧ RowF w.heap.size w' u (l.map (FT.sw f)) ∧ Grew w w' := by
  obtain ⟨a, cap, hv, hcap, hmax⟩ := h.one
  subst hv
  have CC : Hid (∀ x ∈ l, ∀ w', Grew w w' → Calls Tryd.prog 69 #[x.v, .pointer (some ⟨vb, 0, none⟩)] w' fun en w'' => en = .returned (x.sw f).v ∧ Grew w' w'') := fun x hx w' g => swc2_any (ht.grew g) (hb.grew g) (hv.grew g) x (hd x hx)
  have H : Hid (LF w (.slice a l.length cap) l) := h
  clear h ht hd hb hv
  unfold FLDC
  go_enter Tryd.func71, Tryd.ntmps71
  go_wp2_with fail
  go_loopw [5, 10] (fun v_ i_ w' => ∃ (i : Nat) (m : List FT), i_ = .int .i64 i ∧ i ≤ l.length ∧ Hid (m = (l.take i).map (FT.sw f)) ∧ m.length ≤ i ∧ Hid (RowF w.heap.size w' v_ m) ∧ Hid (Grew w w')) (fun _ i_ _ => l.length - (intOf i_).toNat)
  case atStart => exact ⟨0, [], rfl, Nat.zero_le _, rfl, by simp, RowF.nil _ _, Grew.refl _⟩
  case round =>
    obtain ⟨i, m, rfl, hi, HM, hml, R, G⟩ := hrel
    obtain ⟨w0, hw0⟩ : ∃ w0, w0 = wr := ⟨_, rfl⟩
    rw [← hw0] at G R ⊢
    clear hw0
    obtain ⟨ra, rc, hra, hrc, hrm, _⟩ := row_max R.out
    subst hra
    by_cases hlt : i < l.length
    · obtain ⟨x, hx⟩ : ∃ x, l[i]? = some x := ⟨_, List.getElem?_eq_getElem hlt⟩
      obtain ⟨b, off, ha, hc', hE⟩ := (H.out.grew G.out).get (by omega)
      subst ha
      obtain ⟨⟨c0, c1, c2⟩, c3⟩ := hE i x hx
      clear hE
      have d1 : decide ((i : Int) < (l.length : Int)) = true := by simp; omega
      have d2 : decide (i < l.length) = true := by simp; omega
      have HS : Hid ((l.take (i + 1)).map (FT.sw f) = m ++ [x.sw f]) := (by rw [HM.out, take_snoc hx, List.map_append]; rfl : (l.take (i + 1)).map (FT.sw f) = m ++ [x.sw f])
      have C := CC.out x (List.mem_of_getElem? hx)
      unfold FT.v at C
      generalize x.sw f = y at *
      obtain ⟨⟨tn, tz, th⟩, tm⟩ := x
      obtain ⟨⟨yn, yz, yh⟩, ym⟩ := y
      simp only at c0 c1 c2 c3 C
      have C' : Hid (∀ w', Grew w w' → Calls Tryd.prog 69 #[.agg #[.int .i64 tn, .bool tz, .int .i64 th, .bool tm], .pointer (some ⟨vb, 0, none⟩)] w' fun en w'' => en = .returned (.agg #[.int .i64 yn, .bool yz, .int .i64 yh, .bool ym]) ∧ Grew w' w'') := C
      clear hx C
      go_wp2_with fail
      refine (C'.out _ (G.out.alloc _)).mono ?_
      rintro en w1 ⟨rfl, g1⟩
      have gg : Grew w0 w1 := ((Grew.refl w0).alloc _).trans g1
      have R1 : Hid (RowF w.heap.size w1 (.slice ra m.length rc) m) := R.out.grew gg
      have G1 : Hid (Grew w w1) := G.out.trans gg
      have hgs := G1.out.2
      clear gg g1 C' R c0 c1 c2 c3
      go_wp2_with (at_builtin; refine wp_app1 (v := .slice ra m.length rc) (n := m.length) (cs := m.flatMap FT.c) (B := w.heap.size) rfl _ _ 28 70 4 32 _ Tryd.underlying28 infoF rfl (by decide) (by decide) rfl w.heap.size rfl rfl R1.out hgs rfl (by simp [Value.oneCell']) (by omega) ?_; intro v3 w3 hO3 hT3 hG3)
      go_roundw
      case rel => exact ⟨i + 1, m ++ [(⟨⟨yn, yz, yh⟩, ym⟩ : FT)], by go_num, by omega, HS.out.symm, by simp; omega, RowF.snoc (a := ⟨⟨yn, yz, yh⟩, ym⟩) hO3, hT3.grew' G1.out (Nat.le_refl _) (Nat.le_refl _)⟩
      case measure => simp [intOf]; omega
    · have d1 : decide ((i : Int) < (l.length : Int)) = false := by simp; omega
      have hin : l.take i = l := List.take_of_length_le (by omega)
      have e : l.map (FT.sw f) = m := by rw [HM.out, hin]
      go_wp2_with fail
      go_ret
      exact ⟨_, rfl, by rw [e]; exact R.out, G.out⟩
end Go.Proofs.YtojkonoffdlbpaaDoor
