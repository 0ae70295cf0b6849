/-
  Sub's has and one of an order; no statement is proved here.
-/
import Derived.Test.YtnmbniojejckpaaGreatDoorKinO
import Derived.BigQuiet
set_option maxRecDepth 100000
set_option maxHeartbeats 8000000
namespace Go.Proofs.YtnmbniojejckpaaGreatDoor
open Go.RowKit
set_option linter.unusedVariables false
set_option linter.unusedSimpArgs false
def kA (k : Option (Int × Int × Int)) : Int := (k.getD (0, 0, 0)).1
def kB (k : Option (Int × Int × Int)) : Int := (k.getD (0, 0, 0)).2.1
def kD (k : Option (Int × Int × Int)) : Int := (k.getD (0, 0, 0)).2.2
theorem kinV_is (k : Option (Int × Int × Int)) : kinV k = .tuple #[.agg #[.int .i64 (kA k), .int .i64 (kB k), .int .i64 (kD k)], .bool k.isSome] := by
  cases k <;> rfl
theorem kinOf_is (h : Int) (w : World) : Calls Tryz.prog 142 #[.int .i64 h] w fun en w' => en = .returned (.tuple #[.agg #[.int .i64 (kA (kinP h)), .int .i64 (kB (kinP h)), .int .i64 (kD (kinP h))], .bool (kinP h).isSome]) ∧ Grew w w' := by
  rw [← kinV_is]; exact kinOf_any h w
theorem OW.defines {ob : Nat} {L : List RT} {w W : World} (h : OW ob L w W) (n : Int) :
    Calls Tryz.prog 136 #[.pointer (some ⟨ob, 0, none⟩), .int .i64 n] W fun en w' => en = .returned (.bool (decide (0 ≤ n) && decide (n < ((flatT L).length : Int)))) ∧ Grew W w' := by
  obtain ⟨v, tv, iv, h1, h2, ⟨ps, p1, p2, p3⟩, h4⟩ := h.o
  obtain ⟨a, c, rfl, _⟩ := row_max p2
  exact defines_any h1
/- The object's end for a kin of three cells. -/
theorem kin_set' {w W : World} {r : Nat} {a b c : Int} (g : Grew w W) (hr : w.heap.size ≤ r) (h : W.heap[r]? = some (.cells #[.int .i64 0, .int .i64 0, .int .i64 0] 185 (0, 0))) :
    Grew w (((W.setCell ⟨r, 0, none⟩ (.int .i64 a)).setCell ⟨r, 1, none⟩ (.int .i64 b)).setCell ⟨r, 2, none⟩ (.int .i64 c)) ∧
    ∀ j, (((W.setCell ⟨r, 0, none⟩ (.int .i64 a)).setCell ⟨r, 1, none⟩ (.int .i64 b)).setCell ⟨r, 2, none⟩ (.int .i64 c)).cell? ⟨r, j, none⟩ = #[Value.int .i64 a, .int .i64 b, .int .i64 c][j]? := by
  refine ⟨((g.set hr _).set hr _).set hr _, fun j => ?_⟩
  rw [cell_of (heap_set (heap_set (heap_set h 0 _) 1 _) 2 _)]
  rfl
theorem kin_out {ob : Nat} {L : List RT} {w W : World} {h : Int} (hO : OW ob L w W) (hh : h < 0 ∨ ((flatT L).length : Int) ≤ h) :
    Calls Tryz.prog 135 #[.pointer (some ⟨ob, 0, none⟩), .int .i64 h] W fun en w' => en = .returned (.tuple #[.agg #[.int .i64 (kA (kinP h)), .int .i64 (kB (kinP h)), .int .i64 (kD (kinP h))], .bool (kinP h).isSome]) ∧ Grew W w' := by
  have CD : Hid (∀ X, Grew W X → Calls Tryz.prog 136 #[.pointer (some ⟨ob, 0, none⟩), .int .i64 h] X fun en w' => en = .returned (.bool false) ∧ Grew X w') := fun X g => by
    have := (hO.grew g).defines h
    have e : (decide (0 ≤ h) && decide (h < ((flatT L).length : Int))) = false := by
      rcases hh with hh | hh
      · rw [decide_eq_false (by omega)]; rfl
      · rw [decide_eq_false (p := h < _) (by omega), Bool.and_false]
    rw [e] at this
    exact this
  have CK' : Hid (∀ X, Calls Tryz.prog 142 #[.int .i64 h] X fun en w' => en = .returned (.tuple #[.agg #[.int .i64 (kA (kinP h)), .int .i64 (kB (kinP h)), .int .i64 (kD (kinP h))], .bool (kinP h).isSome]) ∧ Grew X w') := fun X => kinOf_is h X
  generalize kA (kinP h) = a at *
  generalize kB (kinP h) = b at *
  generalize kD (kinP h) = d at *
  generalize (kinP h).isSome = ok at *
  clear hO hh
  go_enter Tryz.func135, Tryz.ntmps135
  go_wp2_with fail
  refine (CD.out _ ((Grew.refl W).alloc _)).mono ?_
  rintro en w1 ⟨rfl, g1⟩
  have A1 := g1.other (heap_alloc_last W (.cells #[.int .i64 0, .int .i64 0, .int .i64 0] 185))
  have G1 : Hid (Grew W w1) := ((Grew.refl W).alloc _).trans g1
  clear g1 CD
  go_wp2_with fail
  refine (CK'.out w1).mono ?_
  rintro en w2 ⟨rfl, g2⟩
  have A2 := g2.other A1
  have G2 : Hid (Grew W w2) := G1.out.trans g2
  have a0 := cell_of A2 0
  have a1 := cell_of A2 1
  have a2 := cell_of A2 2
  have z0 := free_of A2 0
  have z1 := free_of A2 1
  have z2 := free_of A2 2
  simp at a0 a1 a2
  have lt := lt_of_obj A2
  have HA : Hid (w2.heap[W.heap.size]? = some (.cells #[.int .i64 0, .int .i64 0, .int .i64 0] 185 (0, 0))) := A2
  clear A1 A2 g2 G1 CK'
  go_wp2_with fail
  obtain ⟨g, hc⟩ := kin_set' (a := a) (b := b) (c := d) G2.out (Nat.le_refl _) HA.out
  have e0 := hc 0
  have e1 := hc 1
  have e2 := hc 2
  simp at e0 e1 e2
  have G : Hid (Grew W (((w2.setCell ⟨W.heap.size, 0, none⟩ (.int .i64 a)).setCell ⟨W.heap.size, 1, none⟩ (.int .i64 b)).setCell ⟨W.heap.size, 2, none⟩ (.int .i64 d))) := g
  clear hc g a0 a1 a2 z0 z1 z2 HA G2
  generalize (((w2.setCell ⟨W.heap.size, 0, none⟩ (.int .i64 a)).setCell ⟨W.heap.size, 1, none⟩ (.int .i64 b)).setCell ⟨W.heap.size, 2, none⟩ (.int .i64 d)) = V at *
  refine bodyPost_ret (v := .tuple #[.agg #[.int .i64 a, .int .i64 b, .int .i64 d], .bool ok]) (by simp [results, Tryz.results135, go_sem, e0, e1, e2]) rfl ⟨rfl, G.out⟩
theorem kin_in {ob n : Nat} {L : List RT} {w W : World} {x : SB} (hO : OW ob L w W) (hx : (flatT L)[n]? = some x) :
    Calls Tryz.prog 135 #[.pointer (some ⟨ob, 0, none⟩), .int .i64 (n : Int)] W fun en w' => en = .returned (.tuple #[.agg #[.int .i64 (kA (kinP (kindH x.comp.kind))), .int .i64 (kB (kinP (kindH x.comp.kind))), .int .i64 (kD (kinP (kindH x.comp.kind)))], .bool (kinP (kindH x.comp.kind)).isSome]) ∧ Grew W w' := by
  have hn := (List.getElem?_eq_some_iff.1 hx).1
  have CD : Hid (∀ X, Grew W X → Calls Tryz.prog 136 #[.pointer (some ⟨ob, 0, none⟩), .int .i64 (n : Int)] X fun en w' => en = .returned (.bool true) ∧ Grew X w') := fun X g => by
    have := (hO.grew g).defines (n : Int)
    rw [decide_eq_true (p := (0 : Int) ≤ n) (by omega), decide_eq_true (p := (n : Int) < _) (by omega)] at this
    exact this
  have CK' : Hid (∀ X, Calls Tryz.prog 142 #[.int .i64 (kindH x.comp.kind)] X fun en w' => en = .returned (.tuple #[.agg #[.int .i64 (kA (kinP (kindH x.comp.kind))), .int .i64 (kB (kinP (kindH x.comp.kind))), .int .i64 (kD (kinP (kindH x.comp.kind)))], .bool (kinP (kindH x.comp.kind)).isSome]) ∧ Grew X w') := fun X => kinOf_is _ X
  obtain ⟨v, g, cap, iv, pb, po, h1, h2, h3, h4, _, hne⟩ := hO.rd.get hx
  obtain ⟨sv, pv, rv, fv, ⟨_, hp, hr, hf⟩, b0, b1, b2, b3, b4, b5⟩ := h4
  have CN : Hid (∀ X, Calls Tryz.prog 141 #[.agg #[.int .i64 x.comp.kind, pv, rv, fv]] X fun en w' => en = .returned (.int .i64 (kindH x.comp.kind)) ∧ Grew X w') := fun X => by
    obtain ⟨_, _, rfl, _⟩ := hp.one
    obtain ⟨_, _, rfl, _⟩ := hr.one
    obtain ⟨_, _, rfl, _⟩ := hf.one
    refine kindOf_any _ _ _ _ X ?_ ?_ ?_ <;> (unfold Value.oneCell'; rfl)
  obtain ⟨_, _, rfl, _⟩ := hp.one
  obtain ⟨_, _, rfl, _⟩ := hr.one
  obtain ⟨_, _, rfl, _⟩ := hf.one
  generalize kA (kinP (kindH x.comp.kind)) = a at *
  generalize kB (kinP (kindH x.comp.kind)) = b at *
  generalize kD (kinP (kindH x.comp.kind)) = d at *
  generalize (kinP (kindH x.comp.kind)).isSome = ok at *
  generalize kindH x.comp.kind = kh at *
  have HX : Hid (∀ X, Grew W X → X.heap[ob]? = some (oobj v (.slice (some ⟨g, 0, none⟩) (flatT L).length cap) iv) ∧ X.cell? ⟨g, n, none⟩ = some (.pointer (some ⟨pb, po, none⟩)) ∧ X.cell? ⟨pb, po + 2, none⟩ = some (.int .i64 x.comp.kind) ∧ X.cell? ⟨pb, po + 3, none⟩ = some _ ∧ X.cell? ⟨pb, po + 4, none⟩ = some _ ∧ X.cell? ⟨pb, po + 5, none⟩ = some _) := fun X gX =>
    ⟨gX.other h1, cell_grew h3 gX, cell_grew b2 (hO.g.trans gX), cell_grew b3 (hO.g.trans gX), cell_grew b4 (hO.g.trans gX), cell_grew b5 (hO.g.trans gX)⟩
  generalize (flatT L).length = N at *
  have d1 : decide ((n : Int) < (N : Int)) = true := by simp; omega
  have d2 : decide (n < N) = true := by simp; omega
  have hnN : (n : Int) < (N : Int) := by omega
  clear hO hx h1 h3 hp hr hf b0 b1 b2 b3 b4 b5
  go_enter Tryz.func135, Tryz.ntmps135
  go_wp2_with fail
  refine (CD.out _ ((Grew.refl W).alloc _)).mono ?_
  rintro en w1 ⟨rfl, g1⟩
  have A1 := g1.other (heap_alloc_last W (.cells #[.int .i64 0, .int .i64 0, .int .i64 0] 185))
  have G1 : Hid (Grew W w1) := ((Grew.refl W).alloc _).trans g1
  obtain ⟨q1, q2, q3, q4, q5, q6⟩ := HX.out w1 G1.out
  have o1 := cell_of q1 1
  simp at o1
  clear g1 CD q1
  go_wp2_with fail
  refine (CN.out w1).mono ?_
  rintro en w2 ⟨rfl, g2⟩
  have A2 := g2.other A1
  have G2 : Hid (Grew W w2) := G1.out.trans g2
  clear g2 CN q2 q3 q4 q5 q6 o1 G1 A1
  go_wp2_with fail
  refine (CK'.out w2).mono ?_
  rintro en w3 ⟨rfl, g3⟩
  have A3 := g3.other A2
  have G3 : Hid (Grew W w3) := G2.out.trans g3
  have a0 := cell_of A3 0
  have a1 := cell_of A3 1
  have a2 := cell_of A3 2
  have z0 := free_of A3 0
  have z1 := free_of A3 1
  have z2 := free_of A3 2
  simp at a0 a1 a2
  have lt := lt_of_obj A3
  have HA : Hid (w3.heap[W.heap.size]? = some (.cells #[.int .i64 0, .int .i64 0, .int .i64 0] 185 (0, 0))) := A3
  clear A2 A3 g3 G2 CK' HX
  go_wp2_with fail
  obtain ⟨g, hc⟩ := kin_set' (a := a) (b := b) (c := d) G3.out (Nat.le_refl _) HA.out
  have e0 := hc 0
  have e1 := hc 1
  have e2 := hc 2
  simp at e0 e1 e2
  have G : Hid (Grew W (((w3.setCell ⟨W.heap.size, 0, none⟩ (.int .i64 a)).setCell ⟨W.heap.size, 1, none⟩ (.int .i64 b)).setCell ⟨W.heap.size, 2, none⟩ (.int .i64 d))) := g
  clear hc g a0 a1 a2 z0 z1 z2 HA G3
  generalize (((w3.setCell ⟨W.heap.size, 0, none⟩ (.int .i64 a)).setCell ⟨W.heap.size, 1, none⟩ (.int .i64 b)).setCell ⟨W.heap.size, 2, none⟩ (.int .i64 d)) = V at *
  refine bodyPost_ret (v := .tuple #[.agg #[.int .i64 a, .int .i64 b, .int .i64 d], .bool ok]) (by simp [results, Tryz.results135, go_sem, e0, e1, e2]) rfl ⟨rfl, G.out⟩
abbrev OB (ob : Nat) : Nat → Prop := fun k => k = ob
/- What a call of an order's method leaves: the object's ids alone may have turned. -/
structure MV (ob : Nat) (A B : World) : Prop where
  t : TurnP (OB ob) A B
  k : KC ob A B
  n : ∀ v tv iv v' tv' iv' g, A.heap[ob]? = some (oobj v tv iv) → B.heap[ob]? = some (oobj v' tv' iv') → iv'.ownBlock = some g → g < A.heap.size → iv.ownBlock = some g
theorem oobj_inj {v tv iv v' tv' iv' : Value} (h : some (oobj v tv iv) = some (oobj v' tv' iv')) : v = v' ∧ tv = tv' ∧ iv = iv' := by
  unfold oobj at h
  injection h with h
  injection h with h _ _
  simpa using h
theorem MV.same {ob : Nat} {A B : World} (t : TurnP (OB ob) A B) (k : KC ob A B) (h : ∀ o, A.heap[ob]? = some o → o.isCells = true → B.heap[ob]? = some o) : MV ob A B :=
  ⟨t, k, fun v tv iv v' tv' iv' g h1 h2 h3 _ => by
    have h4 := h _ h1 rfl
    rw [h4] at h2
    obtain ⟨_, _, rfl⟩ := oobj_inj h2
    exact h3⟩
theorem MV.refl (ob : Nat) (A : World) : MV ob A A := MV.same (TurnP.refl _ _) (KC.refl _ _) (fun _ h _ => h)
theorem MV.trans {ob : Nat} {A B C : World} (h : MV ob A B) (k : MV ob B C) : MV ob A C := ⟨h.t.trans k.t, h.k.trans k.k, fun v tv iv v' tv' iv' g h1 h2 h3 h4 => by
  obtain ⟨iv2, h5⟩ := h.k.2 v tv iv h1
  exact h.n _ _ _ _ _ _ g h1 h5 (k.n _ _ _ _ _ _ g h5 h2 h3 (Nat.lt_of_lt_of_le h4 h.t.size)) h4⟩
theorem Grew.mv {A B : World} (g : Grew A B) (ob : Nat) : MV ob A B := MV.same (g.turnP _) (g.kc ob) (fun _ h _ => g.other h)
theorem nil_yes (W : World) : (binOp .eql 23 (.slice none 0 0) (.slice none 0 0)).run Tryz.prog W = .ok (.bool true) W := by kernel_rfl
theorem nil_no (W : World) (g : Addr) (n c : Nat) : (binOp .eql 23 (.slice (some g) n c) (.slice none 0 0)).run Tryz.prog W = .ok (.bool false) W := by kernel_rfl
/- The ids' row, behind a nil check. -/
theorem ids_get {w W : World} {iv : Value} {l : List Int} (h : RowI w.heap.size W iv l) (h0 : 0 < l.length) : ∃ g c, iv = .slice (some ⟨g, 0, none⟩) l.length c ∧ l.length ≤ c ∧ ∀ i y, l[i]? = some y → W.cell? ⟨g, i, none⟩ = some (.int .i64 y) := by
  have h' := h
  obtain ⟨_, ⟨_, h3⟩ | ⟨g, cap, cur, rfl, hB, hg, h3, _⟩⟩ := h'
  · omega
  · refine ⟨g, cap, rfl, h3, fun i y hy => ?_⟩
    have hi := (List.getElem?_eq_some_iff.1 hy).1
    have := World.ownsRow.cellAt h i (by omega)
    rw [this]
    have h5 := flat_at ic1 1 (fun _ => rfl) l i y 0 hy (by decide)
    rw [Nat.mul_one, Nat.add_zero] at h5
    rw [h5]
    rfl
theorem one_any {ob a b : Nat} {L : List RT} {w W : World} {x y : Int} (hO : OW ob L w W) (hx : (idsU L)[a]? = some x) (hy : (idsU L)[b]? = some y) :
    Calls Tryz.prog 144 #[.pointer (some ⟨ob, 0, none⟩), .int .i64 (a : Int), .int .i64 (b : Int)] W fun en w' => en = .returned (.bool (x == y)) ∧ OW ob L w w' ∧ MV ob W w' := by
  have ha := (List.getElem?_eq_some_iff.1 hx).1
  have hb := (List.getElem?_eq_some_iff.1 hy).1
  obtain ⟨v, tv, iv, h1, h2, h3, h4⟩ := hO.o
  obtain ⟨va, vc, ev, _⟩ := h2.one
  subst ev
  by_cases hn : iv = NILS
  · subst hn
    have CI : Hid (Calls Tryz.prog 150 #[.slice va L.length vc] W fun en w' => ∃ iv, en = .returned iv ∧ RowI W.heap.size w' iv (idsU L) ∧ Grew W w') := (ids_any (hO.tab.grew hO.g) (h2.grew hO.g) hO.fit hO.cl).mono fun en w' ⟨iv, e1, e2, _, e3⟩ => ⟨iv, e1, e2, e3⟩
    have o0 := cell_of h1 0
    have o2 := cell_of h1 2
    simp at o0 o2
    have lt := lt_of_obj h1
    have K : Hid (OW ob L w W) := hO
    have H1 : Hid (W.heap[ob]? = some (oobj (.slice va L.length vc) tv NILS)) := h1
    have H2 : Hid (LR w (.slice va L.length vc) L ∧ PtS w.heap.size w W tv (flatT L)) := ⟨h2, h3⟩
    have ny := nil_yes W
    clear h1 h2 h3 h4 hO
    go_enter Tryz.func144, Tryz.ntmps144
    go_wp2_with fail
    refine CI.out.mono ?_
    rintro en w1 ⟨iv, rfl, hr, g1⟩
    obtain ⟨g, c, rfl, hc, hcell⟩ := ids_get hr (by omega)
    have A1 := g1.other H1.out
    have n0 := cell_of A1 0
    have n1 := cell_of A1 1
    have n2 := cell_of A1 2
    have z2 := free_of A1 2
    have lt1 := lt_of_obj A1
    have hgo : g ≠ ob := by
      rintro rfl
      have : W.heap.size ≤ g := (World.ownsRow.lt hr g rfl).1
      omega
    have A2 := heap_set A1 2 (.slice (some ⟨g, 0, none⟩) (idsU L).length c)
    have T : TurnP (fun k => k = ob) W (w1.setCell ⟨ob, 2, none⟩ (.slice (some ⟨g, 0, none⟩) (idsU L).length c)) := TurnP.set (S := fun k => k = ob) (g1.turnP _) (p := ⟨ob, 2, none⟩) rfl _
    have o2' : OW ob L w (w1.setCell ⟨ob, 2, none⟩ (.slice (some ⟨g, 0, none⟩) (idsU L).length c)) := by
      refine ⟨K.out.fit, K.out.cl, K.out.tab, T.grew K.out.g (fun k hk => by rw [hk]; exact K.out.lo), K.out.lo, _, _, _, A2, H2.out.1, ?_, Or.inr ?_⟩
      · obtain ⟨ps, p1, p2, p3⟩ := H2.out.2
        refine ⟨ps, p1, row_turnP p2 T (fun q hq e => ?_), p3⟩
        subst e
        obtain ⟨cur, hcur⟩ := row_tag p2 hq
        rw [H1.out] at hcur
        unfold oobj at hcur
        injection hcur with hcur
        injection hcur with _ hcur _
        revert hcur; decide
      · refine row_same (row_low hr K.out.g.2) (fun q hq => Below.heap_setCell _ _ _ _ (fun e => ?_))
        injection hq with hq
        exact hgo (hq.trans e)
    have KK : KC ob W (w1.setCell ⟨ob, 2, none⟩ (.slice (some ⟨g, 0, none⟩) (idsU L).length c)) := ⟨fun i o h0 h1 _ => T.other h1 h0, fun v' tv' iv' hh => by
      rw [H1.out] at hh
      unfold oobj at hh
      injection hh with hh
      injection hh with hh _ _
      simp at hh
      obtain ⟨rfl, rfl, _⟩ := hh
      exact ⟨_, A2⟩⟩
    have E : Hid (OW ob L w (w1.setCell ⟨ob, 2, none⟩ (.slice (some ⟨g, 0, none⟩) (idsU L).length c)) ∧ MV ob W (w1.setCell ⟨ob, 2, none⟩ (.slice (some ⟨g, 0, none⟩) (idsU L).length c))) := ⟨o2', T, KK, fun v1 tv1 iv1 v2 tv2 iv2 q h1 h2 h3 h4 => by
      rw [A2] at h2
      obtain ⟨_, _, rfl⟩ := oobj_inj h2
      have h5 := (World.ownsRow.lt hr q h3).1
      omega⟩
    have m2 := cell_of A2 2
    have ca : (w1.setCell ⟨ob, 2, none⟩ (.slice (some ⟨g, 0, none⟩) (idsU L).length c)).cell? ⟨g, a, none⟩ = some (.int .i64 x) := by
      rw [World.cell?_setCell_other _ _ _ _ (by intro e; injection e with e; exact hgo e.symm)]; exact hcell a x hx
    have cb : (w1.setCell ⟨ob, 2, none⟩ (.slice (some ⟨g, 0, none⟩) (idsU L).length c)).cell? ⟨g, b, none⟩ = some (.int .i64 y) := by
      rw [World.cell?_setCell_other _ _ _ _ (by intro e; injection e with e; exact hgo e.symm)]; exact hcell b y hy
    simp at n0 n1 n2 m2
    have hs1 : W.heap.size ≤ w1.heap.size := g1.2
    clear T KK o2' A1 A2 hr hcell CI H1 H2 K hx hy g1
    generalize hNN : (idsU L).length = N at *
    clear hNN
    have q1 : ((a : Nat) : Int) < (N : Int) := by omega
    have q2 : ((b : Nat) : Int) < (N : Int) := by omega
    have q3 : decide (a < N) = true := by simp; omega
    have q4 : decide (b < N) = true := by simp; omega
    generalize hV : (w1.setCell ⟨ob, 2, none⟩ (.slice (some ⟨g, 0, none⟩) N c)) = V at *
    go_wp2_with fail
    go_quiet (fail)
    go_wp2_with fail
    go_ret
    exact ⟨rfl, E.out.1.grew ((Grew.refl _).drewN _), E.out.2.trans (((Grew.refl _).drewN _).mv ob)⟩
  · have hr := h4.resolve_left hn
    obtain ⟨g, c, rfl, hc, hcell⟩ := ids_get hr (by omega)
    have m2 := cell_of h1 2
    have ca := hcell a x hx
    have cb := hcell b y hy
    simp at m2
    have lt := lt_of_obj h1
    have K : Hid (OW ob L w W) := hO
    clear h1 h2 h3 h4 hO hcell hr hx hy hn
    generalize hNN : (idsU L).length = N at *
    clear hNN
    have q1 : ((a : Nat) : Int) < (N : Int) := by omega
    have q2 : ((b : Nat) : Int) < (N : Int) := by omega
    have q3 : decide (a < N) = true := by simp; omega
    have q4 : decide (b < N) = true := by simp; omega
    have ny := nil_no W ⟨g, 0, none⟩ N c
    go_enter Tryz.func144, Tryz.ntmps144
    go_wp2_with fail
    go_quiet (fail)
    go_wp2_with fail
    go_ret
    exact ⟨rfl, K.out.grew ((Grew.refl _).drewN _), ((Grew.refl _).drewN _).mv ob⟩
end Go.Proofs.YtnmbniojejckpaaGreatDoor
