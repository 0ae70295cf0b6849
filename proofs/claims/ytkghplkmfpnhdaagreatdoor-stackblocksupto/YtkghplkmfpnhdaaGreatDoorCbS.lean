/-
  Set; no statement is proved here.
-/
import Derived.Test.YtkghplkmfpnhdaaGreatDoorCbL
namespace Go.Proofs.YtkghplkmfpnhdaaGreatDoor
open Go.RowKit
set_option linter.unusedVariables false
set_option linter.unusedSimpArgs false

theorem flat_set {α : Type} (f : α → List Value) (k : Nat) (hf : ∀ a, (f a).length = k) (u : Value) (j : Nat) (hj : j < k) (x y : α) (hy : f y = (f x).set j u) : ∀ (l : List α) (n : Nat), l[n]? = some x → (l.flatMap f).set (n * k + j) u = (l.set n y).flatMap f := by
  intro l
  induction l with
  | nil => intro n h; simp at h
  | cons a l ih =>
    intro n h
    cases n with
    | zero =>
      simp only [List.getElem?_cons_zero, Option.some.injEq] at h
      subst h
      rw [List.set_cons_zero, List.flatMap_cons, List.flatMap_cons, Nat.zero_mul, Nat.zero_add, List.set_append_left _ _ (by rw [hf]; exact hj), hy]
    | succ n =>
      rw [List.getElem?_cons_succ] at h
      rw [List.set_cons_succ, List.flatMap_cons, List.flatMap_cons, List.set_append_right _ _ (by rw [hf, Nat.succ_mul]; omega), hf, show (n + 1) * k + j - k = n * k + j by rw [Nat.succ_mul]; omega, ih n h]
theorem RowLo.cat {B : Nat} {w : World} {g m c : Nat} {l : List LO} (h : RowLo B w (.slice (some ⟨g, 0, none⟩) m c) l) {n : Nat} {x : LO} (hx : l[n]? = some x) : ∀ j, j < 4 → w.cell? ⟨g, n * 4 + j, none⟩ = (LO.c x)[j]? := by
  obtain ⟨g', c', hv, _, _, _, _, hc⟩ := h.at hx
  injection hv with e1 _ e3
  injection e1 with e1
  injection e1 with e1 _ _
  subst e1
  exact hc
def LO.to (x : LO) (b : Bool) : LO := ⟨x.kind, b⟩
theorem CK.setLo {B : Nat} {w : World} {C : Nat} {fv ov qv : Value} {lo : List LO} {fr : List Int} {ops : List VT} {fs : List FV} {g c : Nat} (h : CK B w C (.slice (some ⟨g, 0, none⟩) lo.length c) fv ov qv lo fr ops fs) {n : Nat} {x : LO} (hx : lo[n]? = some x) (b : Bool) :
    w.frozen? ⟨g, n * 4 + 3, none⟩ = false ∧ B ≤ g ∧ CK B (w.setCell ⟨g, n * 4 + 3, none⟩ (.bool b)) C (.slice (some ⟨g, 0, none⟩) lo.length c) fv ov qv (lo.set n (x.to b)) fr ops fs := by
  obtain ⟨g', c', hv, hle, hmx, hBg, ⟨cur, hcur⟩, hcells⟩ := h.rlo.at hx
  injection hv with e1 _ e3
  injection e1 with e1
  injection e1 with e1 _ _
  subst e1 e3
  have nt : ∀ e : TypeId, e ≠ 82 → NoT w g e := fun e he => NoT.of hcur (fun hh => he hh.symm)
  obtain ⟨⟨gv, rv, a, b', co⟩, h1, h2, h3, h4, h5, h6⟩ := h
  refine ⟨free_of hcur _, hBg, ⟨gv, rv, a, b', heap_other co (by rintro rfl; rw [hcur] at co; simp [ckObj] at co) _⟩, h1, ?_, row_set h3 (nt _ (by decide)) _, row_set h4 (nt _ (by decide)) _, row_set h5 (nt _ (by decide)) _, h6⟩
  unfold RowLo at h2 ⊢
  rw [List.length_set, ← flat_set LO.c 4 (fun _ => rfl) (.bool b) 3 (by decide) x (x.to b) rfl lo n hx]
  exact (h2.stored (n * 4 + 3) (.bool b)).1
theorem raw_u {w : World} (n : Int) {t : TypeId} : Raw 1 (w.alloc (.cells #[.int .u32 n] t)) (.slice (some ⟨w.heap.size, 0, none⟩) 1 1) (([n] : List Int).length) (([n] : List Int).flatMap cu) := by
  refine ⟨rfl, ?_, some ⟨w.heap.size, 0, none⟩, 1, rfl, Nat.le_refl _, by decide, (fun h => by cases h), Or.inr ⟨w.heap.size, 0, rfl, fun j u hu => ?_⟩⟩
  · intro u hu
    simp [cu] at hu
    rw [hu]; rfl
  · rw [Nat.zero_add, cell_of (heap_alloc_last _ _)]
    simpa [cu] using hu
set_option maxRecDepth 100000 in
set_option maxHeartbeats 1000000 in
theorem setM_out {B : Nat} {w : World} {C : Nat} {lv fv ov qv : Value} {lo : List LO} {fr : List Int} {ops : List VT} {fs : List FV} (h : CK B w C lv fv ov qv lo fr ops fs) {n : Nat} (hn : lo.length ≤ n) (h32 : n < 4294967296) :
    Calls Tryz.prog 18 #[.pointer (some ⟨C, 0, none⟩), .int .u32 (n : Int)] w fun en w' => en = .returned (.tuple #[VT0g, .int .i64 1]) ∧ Grew w w' := by
  have C1 : Hid (∀ W, Grew w W → Calls Tryz.prog 44 #[.pointer (some ⟨C, 0, none⟩), .int .u32 (n : Int)] W fun en w' => en = .returned (.tuple #[.pointer none, .int .i64 1]) ∧ Grew W w') := fun W gg => localM_out (h.grew gg) hn h32
  clear h
  go_enter Tryz.func18, Tryz.ntmps18
  go_wp2_with fail
  refine (C1.out _ ((Grew.refl w).alloc _)).mono ?_
  rintro en w1 ⟨rfl, g1⟩
  obtain ⟨gg, hl, n0, n1, n2, z0, z1, z2⟩ := fresh3g g1
  have G1 := Hid.mk' gg
  clear g1 gg C1
  go_wp2_with fail
  refine bodyPost_ret (v := .tuple #[VT0g, .int .i64 1]) (by simp [results, Tryz.results18, go_sem, n0, n1, n2]) rfl ?_
  exact ⟨rfl, ((G1.out.set (p := ⟨w.heap.size, 0, none⟩) (Nat.le_refl _) _).set (p := ⟨w.heap.size, 1, none⟩) (Nat.le_refl _) _).set (p := ⟨w.heap.size, 2, none⟩) (Nat.le_refl _) _⟩
theorem CK.setV {B : Nat} {w : World} {C : Nat} {lv fv ov qv : Value} {lo : List LO} {fr : List Int} {ops : List VT} {fs : List FV} (h : CK B w C lv fv ov qv lo fr ops fs) {N : Nat} {cs : Array Value} (hN : w.heap[N]? = some (.cells cs 44 (0, 0))) (ho : ∀ g, ov.ownBlock = some g → g ≠ N) (j : Nat) (u : Value) : CK B (w.setCell ⟨N, j, none⟩ u) C lv fv ov qv lo fr ops fs := by
  obtain ⟨⟨gv, rv, a, b', co⟩, h1, h2, h3, h4, h5, h6⟩ := h
  refine ⟨⟨gv, rv, a, b', heap_other co (by rintro rfl; rw [hN] at co; simp [ckObj] at co) _⟩, h1, row_set h2 (NoT.of hN (by decide)) _, row_set h3 (NoT.of hN (by decide)) _, ?_, row_set h5 (NoT.of hN (by decide)) _, h6⟩
  obtain ⟨r1, r2 | ⟨g, cap, cur, hv, hB, hg, r3⟩⟩ := h4
  · exact ⟨r1, Or.inl r2⟩
  · exact ⟨r1, Or.inr ⟨g, cap, cur, hv, hB, heap_other hg (ho g (by rw [hv]; rfl)) u, r3⟩⟩
/- What setting a local leaves. -/
def setL (lo : List LO) (fr : List Int) (n : Nat) (x : LO) : List LO × List Int := if x.set then (lo, fr) else (lo.set n (x.to true), fr ++ [(n : Int)])
set_option maxRecDepth 100000 in
set_option maxHeartbeats 2000000 in
theorem setM_in {B : Nat} {w : World} {C : Nat} {lv fv ov qv : Value} {lo : List LO} {fr : List Int} {ops : List VT} {fs : List FV} (h : CK B w C lv fv ov qv lo fr ops fs) {n : Nat} {x : LO} (hx : lo[n]? = some x) (h32 : n < 4294967296) (hfr : fr.length ≤ 4194304) (hBw : B ≤ w.heap.size) :
    Calls Tryz.prog 18 #[.pointer (some ⟨C, 0, none⟩), .int .u32 (n : Int)] w fun en w' => ∃ fv', en = .returned (.tuple #[.agg #[.int .i64 x.kind.num, .bool x.kind.null, .int .i64 x.kind.heap], .int .i64 0]) ∧ CK B w' C lv fv' ov qv (setL lo fr n x).1 (setL lo fr n x).2 ops fs ∧ KB B w w' ∧ KT w w' := by
  obtain ⟨g, c, hv, _, _, _, _, hc⟩ := h.rlo.at hx
  subst hv
  have hn := (List.getElem?_eq_some_iff.1 hx).1
  have C1 : Hid (∀ W, Grew w W → Calls Tryz.prog 44 #[.pointer (some ⟨C, 0, none⟩), .int .u32 (n : Int)] W fun en w' => en = .returned (.tuple #[.pointer (some ⟨g, n * 4, none⟩), .int .i64 0]) ∧ Grew W w') := fun W gg => localM_in (h.grew gg) hn h32
  have k0 := hc 0 (by decide)
  have k1 := hc 1 (by decide)
  have k2 := hc 2 (by decide)
  have k3 := hc 3 (by decide)
  have H := Hid.mk' h
  have HX := Hid.mk' hx
  obtain ⟨⟨tn, tz, th⟩, st⟩ := x
  simp [LO.c] at k0 k1 k2 k3
  unfold setL
  simp only
  clear h hc hx
  cases st with
  | true =>
    simp only [if_true]
    go_enter Tryz.func18, Tryz.ntmps18
    go_wp2_with fail
    refine (C1.out _ ((Grew.refl w).alloc _)).mono ?_
    rintro en w1 ⟨rfl, g1⟩
    obtain ⟨gg, hl, n0, n1, n2, z0, z1, z2⟩ := fresh3g g1
    have G1 := Hid.mk' gg
    replace k0 := cell_grew k0 gg
    replace k1 := cell_grew k1 gg
    replace k2 := cell_grew k2 gg
    replace k3 := cell_grew k3 gg
    clear g1 gg C1
    go_wp2_with fail
    refine bodyPost_ret (v := .tuple #[.agg #[.int .i64 tn, .bool tz, .int .i64 th], .int .i64 0]) (by simp [results, Tryz.results18, go_sem, n0, n1, n2]) rfl ?_
    have gf := ((G1.out.set (p := ⟨w.heap.size, 0, none⟩) (Nat.le_refl _) (.int .i64 tn)).set (p := ⟨w.heap.size, 1, none⟩) (Nat.le_refl _) (.bool tz)).set (p := ⟨w.heap.size, 2, none⟩) (Nat.le_refl _) (.int .i64 th)
    exact ⟨_, rfl, H.out.grew gf, gf.kb hBw, gf.kt⟩
  | false =>
    go_enter Tryz.func18, Tryz.ntmps18
    go_wp2_with fail
    refine (C1.out _ ((Grew.refl w).alloc _)).mono ?_
    rintro en w1 ⟨rfl, g1⟩
    obtain ⟨gg, hl, _, _, _, _, _, _⟩ := fresh3g g1
    have N1 := Hid.mk' ((g1.turn []).other (heap_alloc_last w (.cells #[.int .i64 0, .bool false, .int .i64 0] 44)) (by simp))
    have G1 := Hid.mk' gg
    replace k0 := cell_grew k0 gg
    replace k1 := cell_grew k1 gg
    replace k2 := cell_grew k2 gg
    replace k3 := cell_grew k3 gg
    have H1 := Hid.mk' (H.out.grew gg)
    obtain ⟨z3, hBg, K2⟩ := H1.out.setLo HX.out true
    have H2 := Hid.mk' K2
    have hgl := lt_of_cell k0
    clear g1 gg C1 K2
    have hsz : (w1.setCell ⟨g, n * 4 + 3, none⟩ (.bool true)).heap.size = w1.heap.size := by simp
    have CU : Hid (Calls Tryz.prog 45 #[.pointer (some ⟨C, 4, none⟩), .slice (some ⟨w1.heap.size, 0, none⟩) 1 1] ((w1.setCell ⟨g, n * 4 + 3, none⟩ (.bool true)).alloc (.cells #[.int .u32 (n : Int)] 47)) fun en w' => ∃ v', en = .returned (.tuple #[]) ∧ CK B w' C (.slice (some ⟨g, 0, none⟩) lo.length c) v' ov qv (lo.set n (LO.to ⟨⟨tn, tz, th⟩, false⟩ true)) (fr ++ [(n : Int)]) ops fs ∧ KB B w w' ∧ KT w w' ∧ w'.heap[w.heap.size]? = some (.cells #[.int .i64 0, .bool false, .int .i64 0] 44 (0, 0))) := by
      have hraw := raw_u (w := w1.setCell ⟨g, n * 4 + 3, none⟩ (.bool true)) (n : Int) (t := 47)
      rw [hsz] at hraw
      have hck := H2.out.grew ((Grew.refl _).alloc (.cells #[.int .u32 (n : Int)] 47))
      refine (pushU_any hck hraw (by simp; omega)).mono ?_
      rintro en w' ⟨v', h1, h2, h3, h4⟩
      obtain ⟨gv, rv, _, _, co⟩ := hck.obj
      have hne : w.heap.size ≠ g := fun hx => by
        obtain ⟨_, _, hv', _, _, _, ⟨cur, hcur⟩, _⟩ := H1.out.rlo.at HX.out
        injection hv' with e1 _ _
        injection e1 with e1
        injection e1 with e1 _ _
        subst e1
        have := N1.out
        rw [hx, hcur] at this
        simp at this
      have hN2 := heap_alloc (heap_other N1.out (p := ⟨g, n * 4 + 3, none⟩) hne (.bool true)) (.cells #[.int .u32 (n : Int)] 47)
      refine ⟨v', h1, h2, ?_, ?_, ?_⟩
      · exact (((G1.out.kb hBw).set (p := ⟨g, n * 4 + 3, none⟩) hBg (.bool true)).trans (Grew.kb ((Grew.refl _).alloc _) (by rw [hsz]; have := G1.out.2; omega))).trans h3
      · have hgt : NoT w1 g 30 := H1.out.noE.2.1 g rfl
        exact ((G1.out.kt.trans (set_kt hgt)).trans (Grew.kt ((Grew.refl _).alloc _))).trans (h4.kt hck.noE.1 hck.noE.2.2.1)
      · exact (h4 _ (lt_of_obj hN2) (fun hx => (NoT.of co (by decide) : NoT _ C 44) _ _ (by rw [← hx]; exact hN2)) (fun hx => row_no hck.rfr (by decide) _ hx.symm _ _ hN2)).trans hN2
    go_wp2_with fail
    refine CU.out.mono ?_
    rintro en w4 ⟨v4, rfl, K4, B4, T4, N4⟩
    have hx4 : (lo.set n (LO.to ⟨⟨tn, tz, th⟩, false⟩ true))[n]? = some (⟨⟨tn, tz, th⟩, true⟩ : LO) := by rw [List.getElem?_set_self hn]; rfl
    have hc4 := K4.rlo.cat hx4
    clear k0 k1 k2 k3
    have k0 := hc4 0 (by decide)
    have k1 := hc4 1 (by decide)
    have k2 := hc4 2 (by decide)
    simp [LO.c] at k0 k1 k2
    have n0 := cell_of N4 0
    have n1 := cell_of N4 1
    have n2 := cell_of N4 2
    simp at n0 n1 n2
    have z0 := free_of N4 0
    have z1 := free_of N4 1
    have z2 := free_of N4 2
    have hl4 := lt_of_obj N4
    have hgl4 := lt_of_cell k0
    have H4 := Hid.mk' K4
    have HB4 := Hid.mk' B4
    have HT4 := Hid.mk' T4
    have HN4 := Hid.mk' N4
    obtain ⟨gv4, rv4, _, _, co4⟩ := K4.obj
    have HCO := Hid.mk' co4
    clear K4 B4 T4 N4 hc4 CU H1 H2 N1 co4
    go_wp2_with fail
    refine bodyPost_ret (v := .tuple #[.agg #[.int .i64 tn, .bool tz, .int .i64 th], .int .i64 0]) (by simp [results, Tryz.results18, go_sem, n0, n1, n2]) rfl ?_
    have ho : ∀ gg, ov.ownBlock = some gg → gg ≠ w.heap.size := fun gg hg hx => by have := row_lt H.out.rops gg hg; omega
    have q0 := H4.out.setV HN4.out ho 0 (.int .i64 tn)
    have m0 := heap_set HN4.out 0 (.int .i64 tn)
    have q1 := q0.setV m0 ho 1 (.bool tz)
    have m1 := heap_set m0 1 (.bool tz)
    have q2 := q1.setV m1 ho 2 (.int .i64 th)
    exact ⟨rfl, ⟨_, q2⟩, ((HB4.out.set (p := ⟨w.heap.size, 0, none⟩) hBw _).set (p := ⟨w.heap.size, 1, none⟩) hBw _).set (p := ⟨w.heap.size, 2, none⟩) hBw _, ((HT4.out.trans (set_kt (NoT.of HN4.out (by decide)))).trans (set_kt (NoT.of m0 (by decide)))).trans (set_kt (NoT.of m1 (by decide)))⟩
end Go.Proofs.YtkghplkmfpnhdaaGreatDoor
