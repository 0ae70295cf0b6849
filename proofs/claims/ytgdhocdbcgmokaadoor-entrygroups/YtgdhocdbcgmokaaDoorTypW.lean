/-
  The walk of EntryTypes; no statement is proved here.
-/
import Derived.Test.YtgdhocdbcgmokaaDoorDBlk
import Derived.Test.YtgdhocdbcgmokaaDoorAwk
namespace Go.Proofs.YtgdhocdbcgmokaaDoor
open Go.RowKit
set_option linter.unusedVariables false
set_option linter.unusedSimpArgs false
set_option linter.constructorNameAsVariable false

theorem neqV (n h : Int) (u : Bool) (W : World) : (binOp .neq 29 (.agg #[.int .i64 n, .bool u, .int .i64 h]) (.agg #[.int .i64 n, .bool u, .int .i64 h])).run Tryd.prog W = .ok (.bool false) W := by
  simp [go_sem]
theorem neqB (t n h : Int) (u : Bool) (W : World) : (binOp .neq 35 (.agg #[.int .i64 t, .int .i64 n, .bool u, .int .i64 h]) (.agg #[.int .i64 t, .int .i64 n, .bool u, .int .i64 h])).run Tryd.prog W = .ok (.bool false) W := by
  simp [go_sem]
theorem flat_at {α : Type} (f : α → List Value) (k : Nat) (hf : ∀ a, (f a).length = k) : ∀ (l : List α) (i : Nat) (x : α) (j : Nat), l[i]? = some x → j < k → (l.flatMap f)[i * k + j]? = (f x)[j]? := by
  intro l
  induction l with
  | nil => intro i x j h; simp at h
  | cons a l ih =>
    intro i x j h hj
    rw [List.flatMap_cons]
    cases i with
    | zero =>
      simp only [List.getElem?_cons_zero, Option.some.injEq] at h
      subst h
      rw [Nat.zero_mul, Nat.zero_add, List.getElem?_append_left (by rw [hf]; exact hj)]
    | succ i =>
      rw [List.getElem?_cons_succ] at h
      rw [List.getElem?_append_right (by rw [hf, Nat.succ_mul]; omega), hf, show (i + 1) * k + j - k = i * k + j by rw [Nat.succ_mul]; omega]
      exact ih i x j h hj
/- Where the element of a row lies. -/
theorem row_at {w : World} {B : Nat} {e : TypeId} {k : Nat} {v : Value} {n : Nat} {cs : List Value} (h : w.ownsRow B e k v n cs) (hn : 0 < n) : ∃ g c, v = .slice (some ⟨g, 0, none⟩) n c ∧ n ≤ c ∧ ∀ j, j < n * k → w.cell? ⟨g, j, none⟩ = cs[j]? := by
  have h0 := h
  obtain ⟨h1, ⟨_, h2⟩ | ⟨g, cap, cur, rfl, hB, hg, h3⟩⟩ := h
  · omega
  · exact ⟨g, cap, rfl, h3.1, fun j hj => h0.cellAt j hj⟩
theorem rowV_cell {w : World} {B g c n : Nat} {l : List VT} (h : RowV B w (.slice (some ⟨g, 0, none⟩) n c) l) (hn : n = l.length) {i : Nat} {x : VT} (hx : l[i]? = some x) : w.cell? ⟨g, i * 3, none⟩ = some (.int .i64 x.num) ∧ w.cell? ⟨g, i * 3 + 1, none⟩ = some (.bool x.null) ∧ w.cell? ⟨g, i * 3 + 2, none⟩ = some (.int .i64 x.heap) := by
  subst hn
  have hi : i < l.length := (List.getElem?_eq_some_iff.1 hx).1
  have e := flat_at VT.c 3 (fun _ => rfl) l i x
  have ha := fun j hj => World.ownsRow.cellAt h j hj
  refine ⟨?_, ?_, ?_⟩
  · rw [ha _ (by omega)]; exact e 0 hx (by omega)
  · rw [ha _ (by omega)]; exact e 1 hx (by omega)
  · rw [ha _ (by omega)]; exact e 2 hx (by omega)
theorem row_max {w : World} {B : Nat} {e : TypeId} {k : Nat} {v : Value} {n : Nat} {cs : List Value} (h : w.ownsRow B e k v n cs) : n ≤ 9223372036854775807 := by
  obtain ⟨h1, ⟨_, h2⟩ | ⟨g, cap, cur, rfl, hB, hg, h3⟩⟩ := h
  · omega
  · have := h3.1
    have := h3.2.1
    unfold maxLen at this
    omega
theorem RowV.grew {B : Nat} {w w' : World} {v : Value} {l : List VT} (h : RowV B w v l) (g : Grew w w') : RowV B w' v l := row_turn h (g.turn []) (by simp)
set_option maxRecDepth 100000 in
set_option maxHeartbeats 4000000 in
theorem types_any (v : Value) (l : List Int) (x : Int) (w : World) (hR : Reads w v l) (hB : Byt l) (hl : l.length ≤ 140737488351232) (hT : Tab w) :
    Calls Tryd.prog 3 #[v, .int .i64 x] w fun en w' => en = .returned (.bool true) ∧ Grew w w' := by
  have CH : Hid (∀ w1, Grew w w1 → Calls Tryd.prog 7 #[v, .int .i64 x] w1 fun en w' => en = .returned (ansH (topR (heapR l) 0 l x)) ∧ Grew w1 w') := fun w1 g => topH_any v l x w1 (g.reads hR) hB hl (hT.grew g)
  have DH : Hid (∀ w1, Grew w w1 → Calls Tryd.prog 8 #[v, .int .i64 x] w1 fun en w' => en = .returned (ansH (topR (heapR l) 0 l x)) ∧ Grew w1 w') := fun w1 g => dtopH_any v l x w1 (g.reads hR) hB hl
  have CR : Hid (∀ w1, Grew w w1 → Calls Tryd.prog 9 #[v, .int .i64 x] w1 fun en w' => en = .returned (ansR (topR (refR l) ⟨0, false, 0⟩ l x)) ∧ Grew w1 w') := fun w1 g => topR_any v l x w1 (g.reads hR) hB hl (hT.grew g)
  have DR_ : Hid (∀ w1, Grew w w1 → Calls Tryd.prog 10 #[v, .int .i64 x] w1 fun en w' => en = .returned (ansR (topR (refR l) ⟨0, false, 0⟩ l x)) ∧ Grew w1 w') := fun w1 g => dtopR_any v l x w1 (g.reads hR) hB hl
  have CV : Hid (∀ w1, Grew w w1 → Calls Tryd.prog 11 #[v, .int .i64 x] w1 fun en w' => en = .returned (ansV (topR (valR l) ⟨0, false, 0⟩ l x)) ∧ Grew w1 w') := fun w1 g => topV_any v l x w1 (g.reads hR) hB hl (hT.grew g)
  have DV : Hid (∀ w1, Grew w w1 → Calls Tryd.prog 12 #[v, .int .i64 x] w1 fun en w' => en = .returned (ansV (topR (valR l) ⟨0, false, 0⟩ l x)) ∧ Grew w1 w') := fun w1 g => dtopV_any v l x w1 (g.reads hR) hB hl
  have CB : Hid (∀ w1, Grew w w1 → Calls Tryd.prog 13 #[v, .int .i64 x] w1 fun en w' => en = .returned (ansB (topR (blockR l) ⟨0, ⟨0, false, 0⟩⟩ l x)) ∧ Grew w1 w') := fun w1 g => topB_any v l x w1 (g.reads hR) hB hl (hT.grew g)
  have DB : Hid (∀ w1, Grew w w1 → Calls Tryd.prog 14 #[v, .int .i64 x] w1 fun en w' => en = .returned (ansB (topR (blockR l) ⟨0, ⟨0, false, 0⟩⟩ l x)) ∧ Grew w1 w') := fun w1 g => dtopB_any v l x w1 (g.reads hR) hB hl
  have CL : Hid (∀ w1, Grew w w1 → Calls Tryd.prog 15 #[v, .int .i64 x] w1 fun en w' => ∃ rv, en = .returned (.tuple #[rv, .int .i64 (topR (valsR l) [] l x).2.1, .int .i64 (topR (valsR l) [] l x).2.2]) ∧ RowV w1.heap.size w' rv (topR (valsR l) [] l x).1 ∧ Grew w1 w') := fun w1 g => topL_any v l x w1 (g.reads hR) hB hl (hT.grew g)
  have DL : Hid (∀ w1, Grew w w1 → Calls Tryd.prog 16 #[v, .int .i64 x] w1 fun en w' => ∃ rv, en = .returned (.tuple #[rv, .int .i64 (topR (valsR l) [] l x).2.1, .int .i64 (topR (valsR l) [] l x).2.2]) ∧ RowV w1.heap.size w' rv (topR (valsR l) [] l x).1 ∧ Grew w1 w') := fun w1 g => dtopL_any v l x w1 (g.reads hR) hB hl
  have AW : Hid (∀ w1, Grew w w1 → Calls Tryd.prog 17 #[] w1 fun en w' => en = .returned (.bool true) ∧ Grew w1 w') := fun w1 g => awake_any w1 (hT.grew g)
  obtain ⟨sa, cap, rfl⟩ := hR.len
  clear hR hB hT
  generalize topR (heapR l) 0 l x = XH at *
  generalize topR (refR l) ⟨0, false, 0⟩ l x = XR at *
  generalize topR (valR l) ⟨0, false, 0⟩ l x = XV at *
  generalize topR (blockR l) ⟨0, ⟨0, false, 0⟩⟩ l x = XB at *
  generalize topR (valsR l) [] l x = XL at *
  obtain ⟨h, hp, he⟩ := XH
  obtain ⟨⟨rn, rb, rh⟩, rp, re⟩ := XR
  obtain ⟨⟨vn, vb, vh⟩, vp, ve⟩ := XV
  obtain ⟨⟨bt, ⟨bn, bb, bh⟩⟩, bp, be⟩ := XB
  obtain ⟨xs, lp, le⟩ := XL
  unfold ansH at CH DH
  unfold ansR VT.v vt at CR DR_
  unfold ansV VT.v vt at CV DV
  unfold ansB BK.v at CB DB
  simp only at CH DH CR DR_ CV DV CB DB CL DL
  have nV := neqV
  have nB := neqB
  go_enter Tryd.func3, Tryd.ntmps3
  go_wp2_with fail
  refine (CH.out _ (Grew.refl w)).mono ?_
  rintro en w1 ⟨rfl, g1⟩
  have G1 : Hid (Grew w w1) := g1
  clear g1 CH
  go_wp2_with fail
  refine (DH.out _ G1.out).mono ?_
  rintro en w2 ⟨rfl, g2⟩
  have G2 : Hid (Grew w w2) := G1.out.trans g2
  clear g2 DH G1
  go_wp2_with fail
  refine (CR.out _ G2.out).mono ?_
  rintro en w3 ⟨rfl, g3⟩
  have G3 : Hid (Grew w w3) := G2.out.trans g3
  have l3 := G3.out.2
  clear g3 CR G2
  go_wp2_with fail
  refine (DR_.out _ (G3.out.alloc _)).mono ?_
  rintro en w4 ⟨rfl, g4⟩
  have V4 : Hid (w4.heap[w3.heap.size]? = some (.cells #[.int .i64 rn, .bool rb, .int .i64 rh] 29 (0, 0))) := (g4.turn []).other (heap_alloc_last _ _) (by simp)
  have G4 : Hid (Grew w w4) := (G3.out.alloc _).trans g4
  have l4 : w3.heap.size < w4.heap.size := lt_of_obj V4.out
  have a0 := cell_of V4.out 0
  have a1 := cell_of V4.out 1
  have a2 := cell_of V4.out 2
  simp at a0 a1 a2
  have hne4 : ¬ w3.heap.size = w4.heap.size := by omega
  clear g4 DR_
  go_wp2_with fail
  generalize hw5 : w4.alloc (.cells #[.int .i64 rn, .bool rb, .int .i64 rh] 29) = w5
  have G5 : Hid (Grew w w5) := by rw [← hw5]; exact G4.out.alloc _
  have V5 : Hid (w5.heap[w3.heap.size]? = some (.cells #[.int .i64 rn, .bool rb, .int .i64 rh] 29 (0, 0))) := by rw [← hw5]; exact heap_alloc V4.out _
  have Z5 : Hid (w5.heap[w4.heap.size]? = some (.cells #[.int .i64 rn, .bool rb, .int .i64 rh] 29 (0, 0))) := by rw [← hw5]; exact heap_alloc_last _ _
  clear hw5 a0 a1 a2 G4 V4 G3
  refine (CV.out _ G5.out).mono ?_
  rintro en w6 ⟨rfl, g6⟩
  have V6 := (g6.turn []).other V5.out (by simp)
  have Z6 := (g6.turn []).other Z5.out (by simp)
  have G6 : Hid (Grew w w6) := G5.out.trans g6
  have a0 := cell_of V6 0
  have a1 := cell_of V6 1
  have a2 := cell_of V6 2
  have y0 := free_of V6 0
  have y1 := free_of V6 1
  have y2 := free_of V6 2
  simp at a0 a1 a2
  have HV6 : Hid (w6.heap[w3.heap.size]? = some (.cells #[.int .i64 rn, .bool rb, .int .i64 rh] 29 (0, 0))) := V6
  have HZ6 : Hid (w6.heap[w4.heap.size]? = some (.cells #[.int .i64 rn, .bool rb, .int .i64 rh] 29 (0, 0))) := Z6
  clear g6 CV V6 Z6 V5 Z5 G5
  go_wp2_with fail
  generalize hw7 : ((w6.setCell { block := w3.heap.size, off := 0 } (Value.int IntKind.i64 vn)).setCell { block := w3.heap.size, off := 1 } (Value.bool vb)).setCell { block := w3.heap.size, off := 2 } (Value.int IntKind.i64 vh) = w7
  have G7 : Hid (Grew w w7) := by rw [← hw7]; exact ((G6.out.set (p := ⟨w3.heap.size, 0, none⟩) l3 _).set (p := ⟨w3.heap.size, 1, none⟩) l3 _).set (p := ⟨w3.heap.size, 2, none⟩) l3 _
  have V7 : Hid (w7.heap[w3.heap.size]? = some (.cells #[.int .i64 vn, .bool vb, .int .i64 vh] 29 (0, 0))) := by rw [← hw7, heap_set (heap_set (heap_set HV6.out 0 _) 1 _) 2 _]; rfl
  have Z7 : Hid (w7.heap[w4.heap.size]? = some (.cells #[.int .i64 rn, .bool rb, .int .i64 rh] 29 (0, 0))) := by rw [← hw7]; exact heap_other (p := ⟨w3.heap.size, 2, none⟩) (heap_other (p := ⟨w3.heap.size, 1, none⟩) (heap_other (p := ⟨w3.heap.size, 0, none⟩) HZ6.out (by simp; omega) _) (by simp; omega) _) (by simp; omega) _
  clear hw7 a0 a1 a2 y0 y1 y2 G6 HV6 HZ6
  refine (DV.out _ G7.out).mono ?_
  rintro en w8 ⟨rfl, g8⟩
  have V8 := (g8.turn []).other V7.out (by simp)
  have Z8 := (g8.turn []).other Z7.out (by simp)
  have G8 : Hid (Grew w w8) := G7.out.trans g8
  have a0 := cell_of V8 0
  have a1 := cell_of V8 1
  have a2 := cell_of V8 2
  have b0 := cell_of Z8 0
  have b1 := cell_of Z8 1
  have b2 := cell_of Z8 2
  have y0 := free_of Z8 0
  have y1 := free_of Z8 1
  have y2 := free_of Z8 2
  simp at a0 a1 a2 b0 b1 b2
  have l4' : w.heap.size ≤ w4.heap.size := by omega
  clear g8 DV V8 Z8 V7 Z7 G7
  go_wp2_with fail
  generalize hw9 : ((w8.setCell { block := w4.heap.size, off := 0 } (Value.int IntKind.i64 vn)).setCell { block := w4.heap.size, off := 1 } (Value.bool vb)).setCell { block := w4.heap.size, off := 2 } (Value.int IntKind.i64 vh) = w9
  have G9 : Hid (Grew w w9) := by rw [← hw9]; exact ((G8.out.set (p := ⟨w4.heap.size, 0, none⟩) l4' _).set (p := ⟨w4.heap.size, 1, none⟩) l4' _).set (p := ⟨w4.heap.size, 2, none⟩) l4' _
  clear hw9 a0 a1 a2 b0 b1 b2 y0 y1 y2 G8
  refine (CB.out _ G9.out).mono ?_
  rintro en w10 ⟨rfl, g10⟩
  have G10 : Hid (Grew w w10) := G9.out.trans g10
  clear g10 CB G9
  go_wp2_with fail
  refine (DB.out _ (G10.out.alloc _)).mono ?_
  rintro en w11 ⟨rfl, g11⟩
  have K11 := (g11.turn []).other (heap_alloc_last _ _) (by simp)
  have G11 : Hid (Grew w w11) := (G10.out.alloc _).trans g11
  have l11 : w10.heap.size < w11.heap.size := lt_of_obj K11
  have a0 := cell_of K11 0
  have a1 := cell_of K11 1
  have a2 := cell_of K11 2
  have a3 := cell_of K11 3
  simp at a0 a1 a2 a3
  have hne11 : ¬ w10.heap.size = w11.heap.size := by omega
  clear g11 DB G10 K11
  go_wp2_with fail
  refine (CL.out _ (G11.out.alloc _)).mono ?_
  rintro en w12 ⟨rv, rfl, r12, g12⟩
  have G12 : Hid (Grew w w12) := (G11.out.alloc _).trans g12
  have R12 : Hid (RowV 0 w12 rv xs) := row_low r12 (Nat.zero_le _)
  obtain ⟨ra, rc, hrv⟩ := row_one r12
  subst hrv
  clear g12 r12 CL G11 a0 a1 a2 a3
  go_wp2_with fail
  refine (DL.out _ G12.out).mono ?_
  rintro en w13 ⟨rv, rfl, r13, g13⟩
  have G13 : Hid (Grew w w13) := G12.out.trans g13
  have R13 : Hid (RowV 0 w13 (.slice ra xs.length rc) xs) := R12.out.grew g13
  have Q13 : Hid (RowV 0 w13 rv xs) := row_low r13 (Nat.zero_le _)
  obtain ⟨qa, qc, hrv⟩ := row_one r13
  subst hrv
  have hxl : xs.length ≤ 9223372036854775807 := row_max R13.out
  clear g13 r13 DL G12 R12
  go_wp2_with fail
  go_loopw [17] (fun i_ wr => ∃ i : Nat, i_ = .int .i64 i ∧ i ≤ xs.length ∧ Hid (Grew w13 wr)) (fun i_ _ => xs.length - (intOf i_).toNat)
  case atStart => exact ⟨0, rfl, Nat.zero_le _, Grew.refl _⟩
  case round =>
    obtain ⟨i, rfl, hi, GR⟩ := hrel
    by_cases hlt : i < xs.length
    · obtain ⟨y, hy⟩ : ∃ y, xs[i]? = some y := ⟨_, List.getElem?_eq_getElem hlt⟩
      have d1 : decide ((i : Int) < (xs.length : Int)) = true := by simp; omega
      have d2 : decide (i < xs.length) = true := by simp; omega
      obtain ⟨ug, uc, hu, huc, _⟩ := row_at R13.out (by omega)
      obtain ⟨vg, vc, hv, hvc, _⟩ := row_at Q13.out (by omega)
      have R14 := R13.out.grew GR.out
      have Q14 := Q13.out.grew GR.out
      cases hu
      cases hv
      obtain ⟨p0, p1, p2⟩ := rowV_cell R14 rfl hy
      obtain ⟨q0, q1, q2⟩ := rowV_cell Q14 rfl hy
      obtain ⟨n, nul, hpt⟩ := y
      simp only at p0 p1 p2 q0 q1 q2
      clear hy R14 Q14
      go_wp2_with fail
      go_quiet (fail)
      go_wp2_with fail
      go_roundw
      case rel => exact ⟨i + 1, by go_num, by omega, GR.out.drewN _⟩
      case measure => simp [intOf]; omega
    · have d1 : decide ((i : Int) < (xs.length : Int)) = false := by simp; omega
      have d2 : decide (i < xs.length) = false := by simp; omega
      go_wp2_with fail
      refine (AW.out _ (G13.out.trans GR.out)).mono ?_
      rintro en w15 ⟨rfl, g15⟩
      have G15 : Hid (Grew w w15) := (G13.out.trans GR.out).trans g15
      clear g15
      go_wp2_with fail
      go_ret
      exact ⟨rfl, G15.out⟩
end Go.Proofs.YtgdhocdbcgmokaaDoor
