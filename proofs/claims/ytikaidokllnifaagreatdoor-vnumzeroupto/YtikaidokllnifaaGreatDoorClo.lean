/-
  The closures of the program's replaced, Roll, Unroll; no statement is proved here.
-/
import Derived.Test.YtikaidokllnifaaGreatDoorCbL
import Derived.Test.YtikaidokllnifaaGreatDoorTy
import Derived.Deep.RegionHeld3
import Derived.OrdersHeld
set_option maxRecDepth 100000
set_option maxHeartbeats 8000000
namespace Go.Proofs.YtikaidokllnifaaGreatDoor
open Go.RowKit
set_option linter.unusedVariables false
set_option linter.unusedSimpArgs false
variable {G : Value → Prop}
theorem flat_setk {α : Type} (f : α → List Value) (k : Nat) (hf : ∀ a, (f a).length = k) (u : Value) (j : Nat) (hj : j < k) (x y : α) (hy : f y = (f x).set j u) : ∀ (l : List α) (n : Nat), l[n]? = some x → (l.flatMap f).set (n * k + j) u = (l.set n y).flatMap f := by
  intro l
  induction l with
  | nil => intro n h; simp at h
  | cons a l ih =>
    intro n h
    cases n with
    | zero =>
      simp only [List.getElem?_cons_zero, Option.some.injEq] at h
      subst h
      rw [List.set_cons_zero, List.flatMap_cons, List.flatMap_cons, Nat.zero_mul, Nat.zero_add, List.set_append_left _ _ (by rw [hf]; exact hj), hy]
    | succ n =>
      rw [List.getElem?_cons_succ] at h
      rw [List.set_cons_succ, List.flatMap_cons, List.flatMap_cons, List.set_append_right _ _ (by rw [hf, Nat.succ_mul]; omega), hf, show (n + 1) * k + j - k = n * k + j by rw [Nat.succ_mul]; omega, ih n h]
theorem RowLo.cat {B : Nat} {w : World} {g m c : Nat} {l : List LO} (h : RowLo B w (.slice (some ⟨g, 0, none⟩) m c) l) {n : Nat} {x : LO} (hx : l[n]? = some x) : ∀ j, j < 4 → w.cell? ⟨g, n * 4 + j, none⟩ = (LO.c x)[j]? := by
  obtain ⟨g', c', hv, _, _, _, _, hc⟩ := h.at hx
  injection hv with e1 _ e3
  injection e1 with e1
  injection e1 with e1 _ _
  subst e1
  exact hc
def LO.to (x : LO) (b : Bool) : LO := ⟨x.kind, b⟩
theorem CHK.setLo {B : Nat} {w : World} {C : Nat} {fv ov qv : Value} {lo : List LO} {fr : List Int} {ops : List VT} {fs : List FV} {g c : Nat} (h : CHK G B w C (.slice (some ⟨g, 0, none⟩) lo.length c) fv ov qv lo fr ops fs) {n : Nat} {x : LO} (hx : lo[n]? = some x) (b : Bool) :
    w.frozen? ⟨g, n * 4 + 3, none⟩ = false ∧ B ≤ g ∧ CHK G B (w.setCell ⟨g, n * 4 + 3, none⟩ (.bool b)) C (.slice (some ⟨g, 0, none⟩) lo.length c) fv ov qv (lo.set n (x.to b)) fr ops fs := by
  obtain ⟨g', c', hv, hle, hmx, hBg, ⟨cur, hcur⟩, hcells⟩ := h.rlo.at hx
  injection hv with e1 _ e3
  injection e1 with e1
  injection e1 with e1 _ _
  subst e1 e3
  have nt : ∀ e : TypeId, e ≠ 146 → NoT w g e := fun e he => NoT.of hcur (fun hh => he hh.symm)
  obtain ⟨⟨gv, rv, a, b', co⟩, h1, h2, h3, h4, h5, h6⟩ := h
  refine ⟨free_of hcur _, hBg, ⟨gv, rv, a, b', heap_other co (by rintro rfl; rw [hcur] at co; simp [ckObj] at co) _⟩, h1, ?_, row_set h3 (nt _ (by decide)) _, row_set h4 (nt _ (by decide)) _, row_set h5 (nt _ (by decide)) _, h6⟩
  unfold RowLo at h2 ⊢
  rw [List.length_set, ← flat_setk LO.c 4 (fun _ => rfl) (.bool b) 3 (by decide) x (x.to b) rfl lo n hx]
  exact (h2.stored (n * 4 + 3) (.bool b)).1
theorem raw_u {w : World} (n : Int) {t : TypeId} : Raw 1 (w.alloc (.cells #[.int .u32 n] t)) (.slice (some ⟨w.heap.size, 0, none⟩) 1 1) (([n] : List Int).length) (([n] : List Int).flatMap cu) := by
  refine ⟨rfl, ?_, some ⟨w.heap.size, 0, none⟩, 1, rfl, Nat.le_refl _, by decide, (fun h => by cases h), Or.inr ⟨w.heap.size, 0, rfl, fun j u hu => ?_⟩⟩
  · intro u hu
    simp [cu] at hu
    rw [hu]; rfl
  · rw [Nat.zero_add, cell_of (heap_alloc_last _ _)]
    simpa [cu] using hu
/- Blocks that are no checker's, no types', no locals', no numbers' stay. -/
def SL (w w' : World) : Prop := ∀ (k : Nat) (cs : Array Value) (t : TypeId) (f : Nat × Nat), t ≠ 68 → t ≠ 39 → t ≠ 146 → t ≠ 34 → w.heap[k]? = some (.cells cs t f) → w'.heap[k]? = some (.cells cs t f)
def NoS (w : World) (N : Nat) : Prop := ∀ (t : TypeId), t ≠ 68 → t ≠ 39 → t ≠ 146 → t ≠ 34 → NoT w N t
theorem SL.trans {a b c : World} (h : SL a b) (k : SL b c) : SL a c := fun x cs t f h1 h2 h3 h4 hx => k x cs t f h1 h2 h3 h4 (h x cs t f h1 h2 h3 h4 hx)
theorem Grew.sl {w w' : World} (g : Grew w w') : SL w w' := fun x cs t f _ _ _ _ hx => (g.turn []).other hx (by simp)
theorem Two.sl {C : Nat} {q : Value} {w w' : World} (t : Two C q w w') (hC : NoS w C) (hq : ∀ g, q.ownBlock = some g → NoS w g) : SL w w' := fun x cs ty f n1 n2 n3 n4 hx =>
  (t x (lt_of_obj hx) (fun h => hC ty n1 n2 n3 n4 _ _ (by rw [← h]; exact hx)) (fun h => hq x h.symm ty n1 n2 n3 n4 _ _ hx)).trans hx
theorem set_sl {w : World} {N j : Nat} {u : Value} (hN : NoS w N) : SL w (w.setCell ⟨N, j, none⟩ u) := fun x cs ty f n1 n2 n3 n4 hx => heap_other hx (fun h => hN ty n1 n2 n3 n4 _ _ (by have e : x = N := h; rw [← e]; exact hx)) u
theorem CHK.noS {B : Nat} {w : World} {C : Nat} {lv fv ov qv : Value} {lo : List LO} {fr : List Int} {ops : List VT} {fs : List FV} (h : CHK G B w C lv fv ov qv lo fr ops fs) : NoS w C ∧ (∀ g, lv.ownBlock = some g → NoS w g) ∧ (∀ g, fv.ownBlock = some g → NoS w g) := by
  obtain ⟨⟨gv, rv, a, b, co⟩, h1, h2, h3, h4, h5, h6⟩ := h
  exact ⟨fun t n1 _ _ _ => NoT.of co (Ne.symm n1), fun g hg t _ _ n3 _ => row_no h2 (Ne.symm n3) g hg, fun g hg t _ _ _ n4 => row_no h3 (Ne.symm n4) g hg⟩
theorem vt_noS {w : World} {N : Nat} {cs : Array Value} {f : Nat × Nat} (h : w.heap[N]? = some (.cells cs 39 f)) : NoS w N := fun t _ n2 _ _ => NoT.of h (Ne.symm n2)
theorem CHK.setV {B : Nat} {w : World} {C : Nat} {lv fv ov qv : Value} {lo : List LO} {fr : List Int} {ops : List VT} {fs : List FV} (h : CHK G B w C lv fv ov qv lo fr ops fs) {N : Nat} {cs : Array Value} (hN : w.heap[N]? = some (.cells cs 39 (0, 0))) (ho : ∀ g, ov.ownBlock = some g → g ≠ N) (j : Nat) (u : Value) : CHK G B (w.setCell ⟨N, j, none⟩ u) C lv fv ov qv lo fr ops fs := by
  obtain ⟨⟨gv, rv, a, b', co⟩, h1, h2, h3, h4, h5, h6⟩ := h
  refine ⟨⟨gv, rv, a, b', heap_other co (by rintro rfl; rw [hN] at co; simp [ckObj] at co) _⟩, h1, row_set h2 (NoT.of hN (by decide)) _, row_set h3 (NoT.of hN (by decide)) _, ?_, row_set h5 (NoT.of hN (by decide)) _, h6⟩
  obtain ⟨r1, r2 | ⟨g, cap, cur, hv, hB, hg, r3⟩⟩ := h4
  · exact ⟨r1, Or.inl r2⟩
  · exact ⟨r1, Or.inr ⟨g, cap, cur, hv, hB, heap_other hg (ho g (by rw [hv]; rfl)) u, r3⟩⟩
/- What setting a local leaves. -/
def setL (lo : List LO) (fr : List Int) (n : Nat) (x : LO) : List LO × List Int := if x.set then (lo, fr) else (lo.set n (x.to true), fr ++ [(n : Int)])
theorem setM_in {B : Nat} {w : World} {C : Nat} {lv fv ov qv : Value} {lo : List LO} {fr : List Int} {ops : List VT} {fs : List FV} (h : CHK G B w C lv fv ov qv lo fr ops fs) {n : Nat} {x : LO} (hx : lo[n]? = some x) (h32 : n < 4294967296) (hfr : fr.length ≤ 4194304) (hBw : B ≤ w.heap.size) :
    Calls Tryz.prog 150 #[.pointer (some ⟨C, 0, none⟩), .int .u32 (n : Int)] w fun en w' => ∃ fv', en = .returned (.tuple #[.agg #[.int .i64 x.kind.num, .bool x.kind.null, .int .i64 x.kind.heap], .int .i64 0]) ∧ CHK G B w' C lv fv' ov qv (setL lo fr n x).1 (setL lo fr n x).2 ops fs ∧ KB B w w' ∧ SL w w' := by
  obtain ⟨g, c, hv, _, _, _, _, hc⟩ := h.rlo.at hx
  subst hv
  have hn := (List.getElem?_eq_some_iff.1 hx).1
  have C1 : Hid (∀ W, Grew w W → Calls Tryz.prog 190 #[.pointer (some ⟨C, 0, none⟩), .int .u32 (n : Int)] W fun en w' => en = .returned (.tuple #[.pointer (some ⟨g, n * 4, none⟩), .int .i64 0]) ∧ Grew W w') := fun W gg => localM_in (h.grew gg) hn h32
  have k0 := hc 0 (by decide)
  have k1 := hc 1 (by decide)
  have k2 := hc 2 (by decide)
  have k3 := hc 3 (by decide)
  have H := Hid.mk' h
  have HX := Hid.mk' hx
  obtain ⟨⟨tn, tz, th⟩, st⟩ := x
  simp [LO.c] at k0 k1 k2 k3
  unfold setL
  simp only
  clear h hc hx
  cases st with
  | true =>
    simp only [if_true]
    go_enter Tryz.func150, Tryz.ntmps150
    go_wp2_with fail
    refine (C1.out _ ((Grew.refl w).alloc _)).mono ?_
    rintro en w1 ⟨rfl, g1⟩
    obtain ⟨gg, hl, n0, n1, n2, z0, z1, z2⟩ := fresh3g g1
    have G1 := Hid.mk' gg
    replace k0 := cell_grew k0 gg
    replace k1 := cell_grew k1 gg
    replace k2 := cell_grew k2 gg
    replace k3 := cell_grew k3 gg
    clear g1 gg C1
    go_wp2_with fail
    refine bodyPost_ret (v := .tuple #[.agg #[.int .i64 tn, .bool tz, .int .i64 th], .int .i64 0]) (by simp [results, Tryz.results150, go_sem, n0, n1, n2]) rfl ?_
    have gf := ((G1.out.set (p := ⟨w.heap.size, 0, none⟩) (Nat.le_refl _) (.int .i64 tn)).set (p := ⟨w.heap.size, 1, none⟩) (Nat.le_refl _) (.bool tz)).set (p := ⟨w.heap.size, 2, none⟩) (Nat.le_refl _) (.int .i64 th)
    exact ⟨_, rfl, H.out.grew gf, gf.kb hBw, gf.sl⟩
  | false =>
    go_enter Tryz.func150, Tryz.ntmps150
    go_wp2_with fail
    refine (C1.out _ ((Grew.refl w).alloc _)).mono ?_
    rintro en w1 ⟨rfl, g1⟩
    obtain ⟨gg, hl, _, _, _, _, _, _⟩ := fresh3g g1
    have N1 := Hid.mk' ((g1.turn []).other (heap_alloc_last w (.cells #[.int .i64 0, .bool false, .int .i64 0] 39)) (by simp))
    have G1 := Hid.mk' gg
    replace k0 := cell_grew k0 gg
    replace k1 := cell_grew k1 gg
    replace k2 := cell_grew k2 gg
    replace k3 := cell_grew k3 gg
    have H1 := Hid.mk' (H.out.grew gg)
    obtain ⟨z3, hBg, K2⟩ := H1.out.setLo HX.out true
    have H2 := Hid.mk' K2
    have hgl := lt_of_cell k0
    clear g1 gg C1 K2
    have hsz : (w1.setCell ⟨g, n * 4 + 3, none⟩ (.bool true)).heap.size = w1.heap.size := by simp
    have CU : Hid (Calls Tryz.prog 191 #[.pointer (some ⟨C, 4, none⟩), .slice (some ⟨w1.heap.size, 0, none⟩) 1 1] ((w1.setCell ⟨g, n * 4 + 3, none⟩ (.bool true)).alloc (.cells #[.int .u32 (n : Int)] 34)) fun en w' => ∃ v', en = .returned (.tuple #[]) ∧ CHK G B w' C (.slice (some ⟨g, 0, none⟩) lo.length c) v' ov qv (lo.set n (LO.to ⟨⟨tn, tz, th⟩, false⟩ true)) (fr ++ [(n : Int)]) ops fs ∧ KB B w w' ∧ SL w w' ∧ w'.heap[w.heap.size]? = some (.cells #[.int .i64 0, .bool false, .int .i64 0] 39 (0, 0))) := by
      have hraw := raw_u (w := w1.setCell ⟨g, n * 4 + 3, none⟩ (.bool true)) (n : Int) (t := 34)
      rw [hsz] at hraw
      have hck := H2.out.grew ((Grew.refl _).alloc (.cells #[.int .u32 (n : Int)] 34))
      refine (pushU_any hck hraw (by simp; omega)).mono ?_
      rintro en w' ⟨v', h1, h2, h3, h4⟩
      obtain ⟨gv, rv, _, _, co⟩ := hck.obj
      have hne : w.heap.size ≠ g := fun hx => by
        obtain ⟨_, _, hv', _, _, _, ⟨cur, hcur⟩, _⟩ := H1.out.rlo.at HX.out
        injection hv' with e1 _ _
        injection e1 with e1
        injection e1 with e1 _ _
        subst e1
        have := N1.out
        rw [hx, hcur] at this
        simp at this
      have hN2 := heap_alloc (heap_other N1.out (p := ⟨g, n * 4 + 3, none⟩) hne (.bool true)) (.cells #[.int .u32 (n : Int)] 34)
      refine ⟨v', h1, h2, ?_, ?_, ?_⟩
      · exact (((G1.out.kb hBw).set (p := ⟨g, n * 4 + 3, none⟩) hBg (.bool true)).trans (Grew.kb ((Grew.refl _).alloc _) (by rw [hsz]; have := G1.out.2; omega))).trans h3
      · have hgt : NoS w1 g := H1.out.noS.2.1 g rfl
        exact ((G1.out.sl.trans (set_sl hgt)).trans (Grew.sl ((Grew.refl _).alloc _))).trans (h4.sl hck.noS.1 hck.noS.2.2)
      · exact (h4 _ (lt_of_obj hN2) (fun hx => (NoT.of co (by decide) : NoT _ C 39) _ _ (by rw [← hx]; exact hN2)) (fun hx => row_no hck.rfr (by decide) _ hx.symm _ _ hN2)).trans hN2
    go_wp2_with fail
    refine CU.out.mono ?_
    rintro en w4 ⟨v4, rfl, K4, B4, T4, N4⟩
    have hx4 : (lo.set n (LO.to ⟨⟨tn, tz, th⟩, false⟩ true))[n]? = some (⟨⟨tn, tz, th⟩, true⟩ : LO) := by rw [List.getElem?_set_self hn]; rfl
    have hc4 := K4.rlo.cat hx4
    clear k0 k1 k2 k3
    have k0 := hc4 0 (by decide)
    have k1 := hc4 1 (by decide)
    have k2 := hc4 2 (by decide)
    simp [LO.c] at k0 k1 k2
    have n0 := cell_of N4 0
    have n1 := cell_of N4 1
    have n2 := cell_of N4 2
    simp at n0 n1 n2
    have z0 := free_of N4 0
    have z1 := free_of N4 1
    have z2 := free_of N4 2
    have hl4 := lt_of_obj N4
    have hgl4 := lt_of_cell k0
    have H4 := Hid.mk' K4
    have HB4 := Hid.mk' B4
    have HT4 := Hid.mk' T4
    have HN4 := Hid.mk' N4
    obtain ⟨gv4, rv4, _, _, co4⟩ := K4.obj
    have HCO := Hid.mk' co4
    clear K4 B4 T4 N4 hc4 CU H1 H2 N1 co4
    go_wp2_with fail
    refine bodyPost_ret (v := .tuple #[.agg #[.int .i64 tn, .bool tz, .int .i64 th], .int .i64 0]) (by simp [results, Tryz.results150, go_sem, n0, n1, n2]) rfl ?_
    have ho : ∀ gg, ov.ownBlock = some gg → gg ≠ w.heap.size := fun gg hg hx => by have := row_lt H.out.rops gg hg; omega
    have q0 := H4.out.setV HN4.out ho 0 (.int .i64 tn)
    have m0 := heap_set HN4.out 0 (.int .i64 tn)
    have q1 := q0.setV m0 ho 1 (.bool tz)
    have m1 := heap_set m0 1 (.bool tz)
    have q2 := q1.setV m1 ho 2 (.int .i64 th)
    exact ⟨rfl, ⟨_, q2⟩, ((HB4.out.set (p := ⟨w.heap.size, 0, none⟩) hBw _).set (p := ⟨w.heap.size, 1, none⟩) hBw _).set (p := ⟨w.heap.size, 2, none⟩) hBw _, ((HT4.out.trans (set_sl (vt_noS HN4.out))).trans (set_sl (vt_noS m0))).trans (set_sl (vt_noS m1))⟩
theorem take_snoc {α : Type} {l : List α} {i : Nat} {x : α} (h : l[i]? = some x) : l.take (i + 1) = l.take i ++ [x] := by
  rw [List.take_add_one, h]; rfl
/- No list is too long. -/
def Sml (x : SB) : Prop := x.supers.length ≤ 1048576 ∧ x.comp.params.length ≤ 1048576 ∧ x.comp.results.length ≤ 1048576 ∧ x.comp.fields.length ≤ 1048576
theorem RowI.app {B : Nat} {w : World} {v : Value} {l m : List Int} (h : w.ownsRow B 3 1 v (l.length + m.length) (l.flatMap ic1 ++ m.flatMap ic1)) : RowI B w v (l ++ m) := by
  unfold RowI
  rw [List.length_append, List.flatMap_append]
  exact h
def okS (e h : Int) : Bool := decide (0 ≤ h) && decide (h < e)
theorem all_bad {α : Type} {l : List α} {P : α → Bool} {i : Nat} {x : α} (h : l[i]? = some x) (hx : P x = false) : l.all P = false := by
  have hm : x ∈ l := List.mem_of_getElem? h
  cases hb : l.all P with
  | false => rfl
  | true => have := List.all_eq_true.1 hb x hm; rw [hx] at this; cases this
theorem all_good {α : Type} {l : List α} {P : α → Bool} (h : ∀ j y, j < l.length → l[j]? = some y → P y = true) : l.all P = true := by
  rw [List.all_eq_true]
  intro y hy
  obtain ⟨j, hj⟩ := List.getElem?_of_mem hy
  exact h j y (List.getElem?_eq_some_iff.1 hj).1 hj
def cntT : List RT → Nat
  | [] => 0
  | r :: l => r.types.length + cntT l
/- Nothing is too long. -/
def SmlL (L : List RT) : Prop := L.length ≤ 1048576 ∧ cntT L ≤ 1048576 ∧ ∀ r ∈ L, ∀ x ∈ r.types, Sml x
theorem cntT_app (a b : List RT) : cntT (a ++ b) = cntT a + cntT b := by
  induction a with
  | nil => simp [cntT]
  | cons r a ih => rw [List.cons_append, cntT, cntT, ih]; omega
theorem cntT_snoc {L : List RT} {i : Nat} {r : RT} (h : L[i]? = some r) : cntT (L.take (i + 1)) = cntT (L.take i) + r.types.length := by
  rw [take_snoc h, cntT_app]; simp [cntT]
theorem cntT_take (L : List RT) (i : Nat) : cntT (L.take i) ≤ cntT L := by
  have := cntT_app (L.take i) (L.drop i)
  rw [List.take_append_drop] at this
  omega
theorem count_any {w : World} {v : Value} {L : List RT} (h : LR w v L) (hm : L.length ≤ 1048576) (hc : cntT L ≤ 1048576) :
    Calls Tryz.prog 189 #[v] w fun en w' => en = .returned (.int .i64 (cntT L : Int)) ∧ Grew w w' := by
  obtain ⟨a, cap, hv, hcap, hmax⟩ := h.one
  subst hv
  have H : Hid (LR w (.slice a L.length cap) L) := h
  clear h
  go_enter Tryz.func189, Tryz.ntmps189
  go_wp2_with fail
  go_loopw [3, 8] (fun n_ i_ w' => ∃ (i n : Nat), i_ = .int .i64 i ∧ n_ = .int .i64 n ∧ Hid (n = cntT (L.take i)) ∧ n ≤ 1048576 ∧ i ≤ L.length ∧ Hid (Grew w w')) (fun _ i_ _ => L.length - (intOf i_).toNat)
  case atStart => exact ⟨0, 0, rfl, rfl, rfl, by omega, Nat.zero_le _, Grew.refl _⟩
  case round =>
    obtain ⟨i, n, rfl, rfl, HNN, hn, hi, G⟩ := hrel
    by_cases hlt : i < L.length
    · obtain ⟨r, hr⟩ : ∃ r, L[i]? = some r := ⟨_, List.getElem?_eq_getElem hlt⟩
      obtain ⟨b, off, ha, hc', hE⟩ := (H.out.grew G.out).get (by omega)
      subst ha
      obtain ⟨tv, ht, c0, c1⟩ := hE i r hr
      obtain ⟨ta, tc, et, _, _⟩ := ht.one
      subst et
      have d1 : decide ((i : Int) < (L.length : Int)) = true := by simp; omega
      have d2 : decide (i < L.length) = true := by simp; omega
      have HS : Hid (cntT (L.take (i + 1)) = cntT (L.take i) + r.types.length) := cntT_snoc hr
      have hb := cntT_take L (i + 1)
      rw [HS.out, ← HNN.out] at hb
      generalize r.types.length = k at *
      generalize r.explicit = ex at *
      clear hE ht hr
      go_wp2_with fail
      go_roundw
      case rel => exact ⟨i + 1, n + k, by go_num, by go_num, by rw [HS.out, ← HNN.out]; exact rfl, by omega, by omega, G.out.alloc _⟩
      case measure => simp [intOf]; omega
    · have d1 : decide ((i : Int) < (L.length : Int)) = false := by simp; omega
      have hin : L.take i = L := List.take_of_length_le (by omega)
      have e : cntT L = n := by rw [HNN.out, hin]
      go_wp2_with fail
      go_ret
      exact ⟨by rw [e]; rfl, G.out⟩
def absB (h : Int) : Bool := decide (-12 ≤ h) && decide (h ≤ -1)
def VT.cnt (x : VT) : VT := if x.num = 5 then x else ⟨x.num, false, 0⟩
def FT.cnt (x : FT) : FT := ⟨x.ty.cnt, x.mut_⟩
def CT.ofK (c : CT) : CT := if c.kind = 1 then ⟨c.kind, c.params, c.results, []⟩ else if c.kind = 2 ∨ c.kind = 3 then ⟨c.kind, [], [], c.fields⟩ else ⟨c.kind, [], [], []⟩
theorem abstract_any (h : Int) (w : World) : Calls Tryz.prog 240 #[.int .i64 h] w fun en w' => en = .returned (.bool (absB h)) ∧ w' = w := by
  by_cases h1 : -12 ≤ h
  · by_cases h2 : h ≤ -1
    · have e : absB h = true := by unfold absB; simp; omega
      rw [e]
      go_enter Tryz.func240, Tryz.ntmps240
      go_wp2_with fail
      go_ret
      exact ⟨rfl, rfl⟩
    · have e : absB h = false := by unfold absB; simp; omega
      rw [e]
      go_enter Tryz.func240, Tryz.ntmps240
      go_wp2_with fail
      go_ret
      exact ⟨rfl, rfl⟩
  · have e : absB h = false := by unfold absB; simp; omega
    rw [e]
    go_enter Tryz.func240, Tryz.ntmps240
    go_wp2_with fail
    go_ret
    exact ⟨rfl, rfl⟩
def KP (k : Int) (v : Value) : Value := if k = 1 then v else NILS
def KF (k : Int) (v : Value) : Value := if k = 2 ∨ k = 3 then v else NILS
theorem ofKind_any (k : Int) (pv rv fv : Value) (w : World) (hp : ∃ a n c, pv = .slice a n c) (hr : ∃ a n c, rv = .slice a n c) (hf : ∃ a n c, fv = .slice a n c) :
    Calls Tryz.prog 231 #[.agg #[.int .i64 k, pv, rv, fv]] w fun en w' => en = .returned (.agg #[.int .i64 k, KP k pv, KP k rv, KF k fv]) ∧ Grew w w' := by
  obtain ⟨pa, pn, pc, rfl⟩ := hp
  obtain ⟨ra, rn, rc, rfl⟩ := hr
  obtain ⟨fa, fn, fc, rfl⟩ := hf
  unfold KP KF
  by_cases h1 : k = 1
  · subst h1
    rw [if_pos rfl, if_pos rfl, if_neg (by decide)]
    go_enter Tryz.func231, Tryz.ntmps231
    go_wp2_with fail
    refine bodyPost_ret (v := .agg #[.int .i64 1, .slice pa pn pc, .slice ra rn rc, NILS]) (by simp [results, Tryz.results231, go_sem]) rfl ?_
    exact ⟨rfl, ((Grew.refl w).alloc _).alloc _⟩
  · rw [if_neg h1, if_neg h1]
    by_cases h2 : k = 2
    · subst h2
      rw [if_pos (Or.inl rfl)]
      go_enter Tryz.func231, Tryz.ntmps231
      go_wp2_with fail
      refine bodyPost_ret (v := .agg #[.int .i64 2, NILS, NILS, .slice fa fn fc]) (by simp [results, Tryz.results231, go_sem]) rfl ?_
      exact ⟨rfl, ((Grew.refl w).alloc _).alloc _⟩
    · by_cases h3 : k = 3
      · subst h3
        rw [if_pos (Or.inr rfl)]
        go_enter Tryz.func231, Tryz.ntmps231
        go_wp2_with fail
        refine bodyPost_ret (v := .agg #[.int .i64 3, NILS, NILS, .slice fa fn fc]) (by simp [results, Tryz.results231, go_sem]) rfl ?_
        exact ⟨rfl, ((Grew.refl w).alloc _).alloc _⟩
      · rw [if_neg (by omega)]
        have d1 : (k == 1) = false := by simpa using h1
        have d2 : (k == 2) = false := by simpa using h2
        have d3 : (k == 3) = false := by simpa using h3
        go_enter Tryz.func231, Tryz.ntmps231
        go_wp2_with fail
        refine bodyPost_ret (v := .agg #[.int .i64 k, NILS, NILS, NILS]) (by simp [results, Tryz.results231, go_sem]) rfl ?_
        exact ⟨rfl, ((Grew.refl w).alloc _).alloc _⟩
/- Of what lay in w only blocks of S may have turned. -/
structure TurnP (S : Nat → Prop) (w w' : World) : Prop where
  os : w'.os = w.os
  tape : w'.tape = w.tape
  output : w'.output = w.output
  size : w.heap.size ≤ w'.heap.size
  block : ∀ k, k < w.heap.size → ¬ S k → w'.heap[k]? = w.heap[k]?
theorem TurnP.refl (S : Nat → Prop) (w : World) : TurnP S w w := ⟨rfl, rfl, rfl, Nat.le_refl _, fun _ _ _ => rfl⟩
theorem TurnP.trans {S : Nat → Prop} {a b c : World} (h : TurnP S a b) (k : TurnP S b c) : TurnP S a c :=
  ⟨k.os.trans h.os, k.tape.trans h.tape, k.output.trans h.output, Nat.le_trans h.size k.size, fun i hi hn => (k.block i (Nat.lt_of_lt_of_le hi h.size) hn).trans (h.block i hi hn)⟩
theorem TurnP.mono {S S' : Nat → Prop} {w w' : World} (h : TurnP S w w') (hs : ∀ k, k < w.heap.size → S k → S' k) : TurnP S' w w' := ⟨h.os, h.tape, h.output, h.size, fun k hk hn => h.block k hk (fun hx => hn (hs k hk hx))⟩
theorem Grew.turnP {w w' : World} (h : Grew w w') (S : Nat → Prop) : TurnP S w w' := ⟨h.1.os, h.1.tape, h.1.output, h.2, fun k hk _ => h.1.block k hk⟩
theorem TurnP.grew {S : Nat → Prop} {w0 w w' : World} (h : TurnP S w w') (g : Grew w0 w) (hs : ∀ k, S k → w0.heap.size ≤ k) : Grew w0 w' :=
  ⟨⟨h.os.trans g.1.os, h.tape.trans g.1.tape, h.output.trans g.1.output, Nat.le_trans g.2 h.size, fun k hk => (h.block k (Nat.lt_of_lt_of_le hk g.2) (fun hx => by have := hs k hx; omega)).trans (g.1.block k hk)⟩, Nat.le_trans g.2 h.size⟩
theorem TurnP.other {S : Nat → Prop} {w w' : World} (h : TurnP S w w') {b : Nat} {o : Obj} (ho : w.heap[b]? = some o) (hn : ¬ S b) : w'.heap[b]? = some o := (h.block b (lt_of_obj ho) hn).trans ho
theorem TurnP.alloc {S : Nat → Prop} {w w' : World} (h : TurnP S w w') (x : Obj) : TurnP S w (w'.alloc x) := h.trans (((Grew.refl w').alloc x).turnP S)
theorem TurnP.drewN {S : Nat → Prop} {w w' : World} (h : TurnP S w w') (n : Nat) : TurnP S w (w'.drewN n) := ⟨h.os, h.tape, h.output, h.size, h.block⟩
theorem TurnP.drew {S : Nat → Prop} {w w' : World} (h : TurnP S w w') : TurnP S w w'.drew := ⟨h.os, h.tape, h.output, h.size, h.block⟩
theorem TurnP.set {S : Nat → Prop} {w w' : World} (h : TurnP S w w') {p : Addr} (hp : S p.block) (u : Value) : TurnP S w (w'.setCell p u) := by
  refine ⟨h.os, h.tape, h.output, by simpa [World.setCell] using h.size, fun k hk hn => ?_⟩
  rw [Below.heap_setCell _ _ _ _ (fun hx => hn (by rw [hx]; exact hp))]
  exact h.block k hk hn
theorem row_turnP {w w' : World} {B : Nat} {e : TypeId} {k : Nat} {v : Value} {n : Nat} {cs : List Value} {S : Nat → Prop} (h : w.ownsRow B e k v n cs) (t : TurnP S w w') (hS : ∀ g, v.ownBlock = some g → ¬ S g) : w'.ownsRow B e k v n cs := by
  obtain ⟨h1, h2 | ⟨g, cap, cur, hv, hB, hg, h3⟩⟩ := h
  · exact ⟨h1, Or.inl h2⟩
  · exact ⟨h1, Or.inr ⟨g, cap, cur, hv, hB, t.other hg (hS g (by rw [hv]; rfl)), h3⟩⟩
/- The rows of a type. -/
structure Q4 where
  s : Value
  p : Value
  r : Value
  f : Value
def Lo (hi : Nat) (v : Value) : Prop := ∀ g, v.ownBlock = some g → g < hi
def Apart (u v : Value) : Prop := ∀ g, u.ownBlock = some g → v.ownBlock ≠ some g
def SubO (lo hi : Nat) (w : World) (x : SB) (q : Q4) : Prop :=
  RowI lo w q.s x.supers ∧ RowV lo w q.p x.comp.params ∧ RowV lo w q.r x.comp.results ∧ RowF lo w q.f x.comp.fields ∧ Apart q.p q.r ∧ Lo hi q.s ∧ Lo hi q.p ∧ Lo hi q.r ∧ Lo hi q.f
theorem SubO.turnP {lo hi : Nat} {w w' : World} {x : SB} {q : Q4} {S : Nat → Prop} (h : SubO lo hi w x q) (t : TurnP S w w') (hS : ∀ g, lo ≤ g → g < hi → ¬ S g) : SubO lo hi w' x q := by
  obtain ⟨h1, h2, h3, h4, h5, h6, h7, h8, h9⟩ := h
  exact ⟨row_turnP h1 t (fun g hg => hS g (h1.lt g hg).1 (h6 g hg)), row_turnP h2 t (fun g hg => hS g (h2.lt g hg).1 (h7 g hg)), row_turnP h3 t (fun g hg => hS g (h3.lt g hg).1 (h8 g hg)), row_turnP h4 t (fun g hg => hS g (h4.lt g hg).1 (h9 g hg)), h5, h6, h7, h8, h9⟩
/- A turn in a block of another kind. -/
theorem SubO.turnK {lo hi : Nat} {w w' : World} {x : SB} {q : Q4} {S : Nat → Prop} (h : SubO lo hi w x q) (t : TurnP S w w') (hS : ∀ g, S g → NoT w g 3 ∧ NoT w g 39 ∧ NoT w g 144) : SubO lo hi w' x q := by
  obtain ⟨h1, h2, h3, h4, h5, h6, h7, h8, h9⟩ := h
  have key : ∀ {e k v n cs}, w.ownsRow lo e k v n cs → (∀ g, S g → NoT w g e) → w'.ownsRow lo e k v n cs := by
    intro e k v n cs hr hn
    obtain ⟨r1, r2 | ⟨g, cap, cur, hv, hB, hg, r3⟩⟩ := hr
    · exact ⟨r1, Or.inl r2⟩
    · exact ⟨r1, Or.inr ⟨g, cap, cur, hv, hB, t.other hg (fun hx => hn g hx _ _ hg), r3⟩⟩
  exact ⟨key h1 (fun g hg => (hS g hg).1), key h2 (fun g hg => (hS g hg).2.1), key h3 (fun g hg => (hS g hg).2.1), key h4 (fun g hg => (hS g hg).2.2), h5, h6, h7, h8, h9⟩
def Chain (w : World) : Nat → List (SB × Q4) → Nat → Prop
  | lo, [], hi => lo ≤ hi
  | lo, (x, q) :: r, hi => ∃ mid, lo ≤ mid ∧ SubO lo mid w x q ∧ Chain w mid r hi
theorem Chain.le {w : World} : ∀ {l : List (SB × Q4)} {lo hi : Nat}, Chain w lo l hi → lo ≤ hi
  | [], _, _, h => h
  | _ :: _, _, _, ⟨_, h1, _, h3⟩ => Nat.le_trans h1 h3.le
theorem Chain.snoc {w : World} : ∀ {l : List (SB × Q4)} {lo hi hi' : Nat} {x : SB} {q : Q4}, Chain w lo l hi → hi ≤ hi' → SubO hi hi' w x q → Chain w lo (l ++ [(x, q)]) hi'
  | [], lo, hi, hi', x, q, h, h1, h2 => ⟨hi', Nat.le_trans h h1, by
      obtain ⟨a1, a2, a3, a4, a5⟩ := h2
      exact ⟨row_low a1 h, row_low a2 h, row_low a3 h, row_low a4 h, a5⟩, Nat.le_refl _⟩
  | (y, p) :: l, lo, hi, hi', x, q, ⟨mid, h0, h1, h2⟩, h3, h4 => ⟨mid, h0, h1, Chain.snoc h2 h3 h4⟩
theorem Chain.turnK {w w' : World} {S : Nat → Prop} (t : TurnP S w w') (hS : ∀ g, S g → NoT w g 3 ∧ NoT w g 39 ∧ NoT w g 144) : ∀ {l : List (SB × Q4)} {lo hi : Nat}, Chain w lo l hi → Chain w' lo l hi
  | [], _, _, h => h
  | _ :: _, _, _, ⟨mid, h1, h2, h3⟩ => ⟨mid, h1, h2.turnK t hS, Chain.turnK t hS h3⟩
theorem Chain.turnP {w w' : World} {S : Nat → Prop} (t : TurnP S w w') : ∀ {l : List (SB × Q4)} {lo hi : Nat}, Chain w lo l hi → (∀ g, lo ≤ g → g < hi → ¬ S g) → Chain w' lo l hi
  | [], _, _, h, _ => h
  | _ :: _, _, _, ⟨mid, h1, h2, h3⟩, hS => ⟨mid, h1, h2.turnP t (fun g a b => hS g a (Nat.lt_of_lt_of_le b h3.le)), Chain.turnP t h3 (fun g a b => hS g (Nat.le_trans h1 a) b)⟩
theorem Chain.grew {w w' : World} {l : List (SB × Q4)} {lo hi : Nat} (h : Chain w lo l hi) (g : Grew w w') : Chain w' lo l hi := Chain.turnK (S := fun _ => False) (g.turnP _) (fun _ h => h.elim) h
/- The i-th of them; when only its blocks turn. -/
theorem Chain.at {w : World} : ∀ {l : List (SB × Q4)} {lo hi : Nat} {i : Nat} {x : SB} {q : Q4}, Chain w lo l hi → l[i]? = some (x, q) → ∃ a b, lo ≤ a ∧ b ≤ hi ∧ SubO a b w x q ∧
    ∀ (w' : World) (S : Nat → Prop) (x' : SB), TurnP S w w' → (∀ g, S g → a ≤ g ∧ g < b ∨ hi ≤ g) → SubO a b w' x' q → Chain w' lo (l.set i (x', q)) hi
  | (y, p) :: l, lo, hi, 0, x, q, ⟨mid, h0, h1, h2⟩, h => by
    simp only [List.getElem?_cons_zero, Option.some.injEq, Prod.mk.injEq] at h
    obtain ⟨rfl, rfl⟩ := h
    refine ⟨lo, mid, Nat.le_refl _, h2.le, h1, fun w' S x' t hS hx => ⟨mid, h0, hx, Chain.turnP t h2 (fun g a b hg => ?_)⟩⟩
    rcases hS g hg with h | h <;> omega
  | (y, p) :: l, lo, hi, i + 1, x, q, ⟨mid, h0, h1, h2⟩, h => by
    rw [List.getElem?_cons_succ] at h
    obtain ⟨a, b, h3, h4, h5, h6⟩ := Chain.at h2 h
    refine ⟨a, b, Nat.le_trans h0 h3, h4, h5, fun w' S x' t hS hx => ⟨mid, h0, h1.turnP t (fun g ha hb hg => ?_), h6 w' S x' t hS hx⟩⟩
    have := h2.le
    rcases hS g hg with h | h <;> omega
def f6 (y : SB × Q4) : List Value := [.bool y.1.final_, y.2.s, .int .i64 y.1.comp.kind, y.2.p, y.2.r, y.2.f]
def SubsO (B : Nat) (w : World) (v : Value) (l : List (SB × Q4)) (hi : Nat) : Prop := w.ownsRow B 121 6 v l.length (l.flatMap f6) ∧ Chain w B l hi ∧ hi ≤ w.heap.size
theorem SubsO.nil (B : Nat) (w : World) (h : B ≤ w.heap.size) : SubsO B w NILS [] w.heap.size := ⟨World.ownsRow_nil _ _ _ _, h, Nat.le_refl _⟩
theorem SubsO.grew {B : Nat} {w w' : World} {v : Value} {l : List (SB × Q4)} {hi : Nat} (h : SubsO B w v l hi) (g : Grew w w') : SubsO B w' v l hi := ⟨row_grew h.1 g, h.2.1.grew g, Nat.le_trans h.2.2 g.2⟩
/- A turn below. -/
theorem SubsO.low {B : Nat} {w w' : World} {v : Value} {l : List (SB × Q4)} {hi : Nat} {S : Nat → Prop} (h : SubsO B w v l hi) (t : TurnP S w w') (hS : ∀ g, S g → g < B) : SubsO B w' v l hi :=
  ⟨row_turnP h.1 t (fun g hg hx => by have := (h.1.lt g hg).1; have := hS g hx; omega), h.2.1.turnP t (fun g a _ hx => by have := hS g hx; omega), Nat.le_trans h.2.2 t.size⟩
theorem SubO.rd {lo hi : Nat} {w : World} {x : SB} {q : Q4} (h : SubO lo hi w x q) : SubR w x q.s q.p q.r q.f := ⟨h.1.lst, h.2.1.lst, h.2.2.1.lst, h.2.2.2.1.lst⟩
theorem Chain.all {w : World} {l : List (SB × Q4)} {lo hi : Nat} (h : Chain w lo l hi) {i : Nat} {y : SB × Q4} (hy : l[i]? = some y) : SubR w y.1 y.2.s y.2.p y.2.r y.2.f := by
  obtain ⟨a, b, _, _, h5, _⟩ := h.at (x := y.1) (q := y.2) hy
  exact h5.rd
theorem SubsO.lst {B : Nat} {w : World} {v : Value} {l : List (SB × Q4)} {hi : Nat} (h : SubsO B w v l hi) : LS w v (l.map Prod.fst) := by
  obtain ⟨h1, h2, h3⟩ := h
  obtain ⟨a, c, hv, e1, e2, hz⟩ := row_max h1
  refine ⟨a, c, by rw [List.length_map]; exact hv, by rw [List.length_map]; exact e1, e2, hz, ?_⟩
  have h0 := h1
  obtain ⟨hl, ⟨_, h4⟩ | ⟨g, cap, cur, hv', hB, hg, h4⟩⟩ := h1
  · left; rw [List.eq_nil_of_length_eq_zero h4]; rfl
  · right
    have hva := hv.symm.trans hv'
    injection hva with e3 _ _
    refine ⟨g, 0, e3, fun i x hx => ?_⟩
    rw [List.getElem?_map] at hx
    obtain ⟨y, hy, rfl⟩ := Option.map_eq_some_iff.1 hx
    have hi : i < l.length := (List.getElem?_eq_some_iff.1 hy).1
    rw [hv'] at h0
    have cl : ∀ j, j < 6 → w.cell? ⟨g, 0 + i * 6 + j, none⟩ = (f6 y)[j]? := fun j hj => by
      rw [Nat.zero_add, h0.cellAt (i * 6 + j) (by omega)]
      exact flat_at f6 6 (fun _ => rfl) l i y j hy hj
    exact ⟨_, _, _, _, h2.all hy, cl 0 (by decide), cl 1 (by decide), cl 2 (by decide), cl 3 (by decide), cl 4 (by decide), cl 5 (by decide)⟩
theorem row_tag {w : World} {B : Nat} {e : TypeId} {k : Nat} {v : Value} {n : Nat} {cs : List Value} (h : w.ownsRow B e k v n cs) {g : Nat} (hg : v.ownBlock = some g) : ∃ cur, w.heap[g]? = some (.cells cur e (0, 0)) := by
  obtain ⟨h1, ⟨h2, _⟩ | ⟨g', cap, cur, hv, hB, hgg, h3⟩⟩ := h
  · rw [h2] at hg; cases hg
  · rw [hv] at hg; cases hg; exact ⟨cur, hgg⟩
theorem Chain.low {w : World} : ∀ {l : List (SB × Q4)} {lo lo' hi : Nat}, Chain w lo l hi → lo' ≤ lo → Chain w lo' l hi
  | [], _, _, _, h, h' => Nat.le_trans h' h
  | _ :: _, _, _, _, ⟨mid, h1, ⟨a1, a2, a3, a4, a5⟩, h3⟩, h' => ⟨mid, Nat.le_trans h' h1, ⟨row_low a1 h', row_low a2 h', row_low a3 h', row_low a4 h', a5⟩, h3⟩
def CT.cp (c : CT) : CT := ⟨c.kind, c.ofK.params.map VT.cnt, c.ofK.results.map VT.cnt, c.ofK.fields.map FT.cnt⟩
def SB.cp (x : SB) : SB := ⟨x.final_, x.supers, x.comp.cp⟩
theorem ofK_rd {w : World} {x : SB} {sv pv rv fv : Value} (h : SubR w x sv pv rv fv) : LV w (KP x.comp.kind pv) x.comp.ofK.params ∧ LV w (KP x.comp.kind rv) x.comp.ofK.results ∧ LF w (KF x.comp.kind fv) x.comp.ofK.fields := by
  obtain ⟨h1, h2, h3, h4⟩ := h
  unfold KP KF CT.ofK
  by_cases k1 : x.comp.kind = 1
  · rw [if_pos k1, if_pos k1, if_pos k1, if_neg (by omega)]
    exact ⟨h2, h3, Lst.nil _ _ _⟩
  · rw [if_neg k1, if_neg k1, if_neg k1]
    by_cases k2 : x.comp.kind = 2 ∨ x.comp.kind = 3
    · rw [if_pos k2, if_pos k2]
      exact ⟨Lst.nil _ _ _, Lst.nil _ _ _, h4⟩
    · rw [if_neg k2, if_neg k2]
      exact ⟨Lst.nil _ _ _, Lst.nil _ _ _, Lst.nil _ _ _⟩
theorem ofK_sml {x : SB} (h : Sml x) : x.comp.ofK.params.length ≤ 1048576 ∧ x.comp.ofK.results.length ≤ 1048576 ∧ x.comp.ofK.fields.length ≤ 1048576 := by
  obtain ⟨h1, h2, h3, h4⟩ := h
  unfold CT.ofK
  split
  · exact ⟨h2, h3, by simp⟩
  · split
    · exact ⟨by simp, by simp, h4⟩
    · exact ⟨by simp, by simp, by simp⟩
def UNIT : Value := .tuple #[]
theorem row_same {w w' : World} {B : Nat} {e : TypeId} {k : Nat} {v : Value} {n : Nat} {cs : List Value} (h : w.ownsRow B e k v n cs) (hg : ∀ g, v.ownBlock = some g → w'.heap[g]? = w.heap[g]?) : w'.ownsRow B e k v n cs := by
  obtain ⟨h1, h2 | ⟨g, cap, cur, hv, hB, hgg, h3⟩⟩ := h
  · exact ⟨h1, Or.inl h2⟩
  · exact ⟨h1, Or.inr ⟨g, cap, cur, hv, hB, (hg g (by rw [hv]; rfl)).trans hgg, h3⟩⟩
def bobj (b : Bool) : Obj := .cells #[.bool b] 4 (0, 0)
def iobj (n : Int) : Obj := .cells #[.int .i64 n] 3 (0, 0)
/- What the closure leaves: the number is turned, and the flag is set still. -/
structure RepO (g j okb : Nat) (m : Int) (w w' : World) : Prop where
  turn : TurnP (fun k => k = g ∨ k = okb) w w'
  num : w'.heap[g]? = (w.setCell ⟨g, j, none⟩ (.int .i64 m)).heap[g]?
  ok : w'.heap[okb]? = some (bobj true)
end Go.Proofs.YtikaidokllnifaaGreatDoor
