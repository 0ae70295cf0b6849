/-
  Rows are not too long; no statement is proved here.
-/
import Derived.Test.YtohapnninjdlfaaGreatDoorD9o
import Derived.Laws.StructEq
import Derived.Deep.RegionLaw
namespace Go.Proofs.YtohapnninjdlfaaGreatDoor
open Go.RowKit
set_option linter.unusedVariables false
set_option linter.unusedSimpArgs false
set_option linter.constructorNameAsVariable false

theorem rowV_cell {w : World} {B g c n : Nat} {l : List VT} (h : RowV B w (.slice (some ⟨g, 0, none⟩) n c) l) (hn : n = l.length) {i : Nat} {x : VT} (hx : l[i]? = some x) : w.cell? ⟨g, i * 3, none⟩ = some (.int .i64 x.num) ∧ w.cell? ⟨g, i * 3 + 1, none⟩ = some (.bool x.null) ∧ w.cell? ⟨g, i * 3 + 2, none⟩ = some (.int .i64 x.heap) := by
  subst hn
  have hi : i < l.length := (List.getElem?_eq_some_iff.1 hx).1
  have e := flat_at VT.c 3 (fun _ => rfl) l i x
  have ha := fun j hj => World.ownsRow.cellAt h j hj
  refine ⟨?_, ?_, ?_⟩
  · rw [ha _ (by omega)]; exact e 0 hx (by omega)
  · rw [ha _ (by omega)]; exact e 1 hx (by omega)
  · rw [ha _ (by omega)]; exact e 2 hx (by omega)
theorem rowC_cell {w : World} {B g c n : Nat} {l : List CA} (h : RowC B w (.slice (some ⟨g, 0, none⟩) n c) l) (hn : n = l.length) {i : Nat} {x : CA} (hx : l[i]? = some x) : w.cell? ⟨g, i * 3, none⟩ = some (.int .i64 x.kind) ∧ w.cell? ⟨g, i * 3 + 1, none⟩ = some (.int .u32 x.tag) ∧ w.cell? ⟨g, i * 3 + 2, none⟩ = some (.int .u32 x.label) := by
  subst hn
  have hi : i < l.length := (List.getElem?_eq_some_iff.1 hx).1
  have e := flat_at CA.c 3 (fun _ => rfl) l i x
  have ha := fun j hj => World.ownsRow.cellAt h j hj
  refine ⟨?_, ?_, ?_⟩
  · rw [ha _ (by omega)]; exact e 0 hx (by omega)
  · rw [ha _ (by omega)]; exact e 1 hx (by omega)
  · rw [ha _ (by omega)]; exact e 2 hx (by omega)
theorem rowU_cell {w : World} {B g c n : Nat} {l : List Int} (h : RowU B w (.slice (some ⟨g, 0, none⟩) n c) l) (hn : n = l.length) {i : Nat} {x : Int} (hx : l[i]? = some x) : w.cell? ⟨g, i, none⟩ = some (.int .u32 x) := by
  subst hn
  have hi : i < l.length := (List.getElem?_eq_some_iff.1 hx).1
  have e := flat_at ic2 1 (fun _ => rfl) l i x
  have ha := fun j hj => World.ownsRow.cellAt h j hj
  rw [ha _ (by omega)]
  have := e 0 hx (by omega)
  simpa [ic2] using this
theorem RowV.grow {B : Nat} {w1 w2 : World} {v : Value} {l : List VT} (h : RowV B w1 v l) (g : Grew w1 w2) : RowV B w2 v l := row_turn h (g.turn []) (by simp)
set_option maxRecDepth 100000 in
theorem same_any (x : VT) (w : World) :
    Calls Tryz.prog 35 #[x.v, x.v] w fun en w' => en = .returned (.bool true) ∧ Grew w w' := by
  obtain ⟨n, nul, h⟩ := x
  unfold VT.v vt
  have G : Hid (Grew w ((w.alloc (Obj.cells #[Value.int IntKind.i64 n, Value.bool nul, Value.int IntKind.i64 h] 28)).alloc (Obj.cells #[Value.int IntKind.i64 n, Value.bool nul, Value.int IntKind.i64 h] 28))) := ((Grew.refl w).alloc _).alloc _
  by_cases hn : n = 5
  · subst hn
    go_enter Tryz.func35, Tryz.ntmps35
    go_wp2_with fail
    go_ret
    exact ⟨rfl, G.out⟩
  · have hn' : (n != 5) = true := by simpa using hn
    go_enter Tryz.func35, Tryz.ntmps35
    go_wp2_with fail
    go_ret
    exact ⟨rfl, G.out⟩
theorem call_same (p q : Value) (w : World) : (callFunc 35 #[p, q]).run Tryz.prog w = .ok (.enter 35 #[p, q]) w := by kernel_rfl
theorem step_same {ops : Array Oper} {o : Oper} {a : Act} {w : World} {K : Act → World → Prop} {Q : Exit → Act → World → Prop} {E : Prop} (x y : Operand) (v : VT)
    (hop : o.op = .call { callee := .value (.func 35), args := #[x, y], argTypes := #[28, 28] }) (hw : Region.wanted o (yielded ops a.tmps) = true) (hx : a.eval x = v.v) (hy : a.eval y = v.v)
    (h : ∀ w', Grew w w' → K (a.put o.dst (.bool true)) w') :
    if Region.wanted o (yielded ops a.tmps) = true then Oper.wp Tryz.prog o a w K Q else E :=
  step_callF hop hw (args := #[v.v, v.v]) (by simp [hx, hy]) (call_same _ _ w) (same_any v w) (by rintro e w' ⟨rfl, g⟩; exact Or.inl ⟨_, rfl, h w' g⟩)
set_option maxRecDepth 100000 in
theorem sameVals_any {w : World} {B B' : Nat} {u v : Value} {l : List VT} (h1 : RowV B w u l) (h2 : RowV B' w v l) (hl : l.length ≤ 9223372036854775807) :
    Calls Tryz.prog 17 #[u, v] w fun en w' => en = .returned (.bool true) ∧ Grew w w' := by
  rcases Nat.eq_zero_or_pos l.length with h0 | h0
  · have hl0 := List.eq_nil_of_length_eq_zero h0
    subst hl0
    obtain ⟨ua, uc, hu⟩ := row_one h1
    obtain ⟨va, vc, hv⟩ := row_one h2
    subst hu
    subst hv
    clear h1 h2 hl h0
    simp only [List.length_nil]
    go_enter Tryz.func17, Tryz.ntmps17
    go_wp2_with fail
    go_loopw [5] (fun i_ w' => i_ = .int .i64 0 ∧ w' = w) (fun _ _ => 0)
    case atStart => exact ⟨rfl, rfl⟩
    case round =>
      obtain ⟨rfl, h⟩ := hrel
      obtain rfl := h.symm
      go_wp2_with fail
      go_ret
      exact ⟨rfl, Grew.refl _⟩
  · obtain ⟨ug, uc, hu, huc, _⟩ := row_at h1 h0
    obtain ⟨vg, vc, hv, hvc, _⟩ := row_at h2 h0
    subst hu
    subst hv
    have H1 : Hid (RowV B w (.slice (some ⟨ug, 0, none⟩) l.length uc) l) := h1
    have H2 : Hid (RowV B' w (.slice (some ⟨vg, 0, none⟩) l.length vc) l) := h2
    clear h1 h2
    go_enter Tryz.func17, Tryz.ntmps17
    go_wp2_with fail
    go_loopw [5] (fun i_ w' => ∃ i : Nat, i_ = .int .i64 i ∧ i ≤ l.length ∧ Hid (Grew w w')) (fun i_ _ => l.length - (intOf i_).toNat)
    case atStart => exact ⟨0, rfl, Nat.zero_le _, Grew.refl _⟩
    case round =>
      obtain ⟨i, rfl, hi, G⟩ := hrel
      obtain ⟨w0, hw0⟩ : ∃ w0, w0 = wr := ⟨_, rfl⟩
      rw [← hw0] at G ⊢
      clear hw0
      by_cases hlt : i < l.length
      · obtain ⟨x, hx⟩ : ∃ x, l[i]? = some x := ⟨_, List.getElem?_eq_getElem hlt⟩
        have d1 : decide ((i : Int) < (l.length : Int)) = true := by simp; omega
        have d2 : decide (i < l.length) = true := by simp; omega
        obtain ⟨p0, p1, p2⟩ := rowV_cell (H1.out.grow G.out) rfl hx
        obtain ⟨q0, q1, q2⟩ := rowV_cell (H2.out.grow G.out) rfl hx
        obtain ⟨n, nul, hp⟩ := x
        clear hx
        go_wp2_with fail
        go_region_law (first
          | (refine step_same (.tmp 20) (.tmp 24) ⟨n, nul, hp⟩ rfl (by simp [Region.wanted]) rfl rfl ?_
             intro w6 g6
             have G6 : Hid (Grew w w6) := G.out.trans (by first | exact g6 | exact ((Grew.refl _).drew).trans g6 | exact ((Grew.refl _).drewN _).trans g6)
             clear g6))
        all_goals
          go_wp2_with fail
          go_roundw
          case rel => exact ⟨i + 1, by go_num, by omega, G6.out⟩
          case measure => simp [intOf]; omega
      · have d1 : decide ((i : Int) < (l.length : Int)) = false := by simp; omega
        go_wp2_with fail
        go_ret
        exact ⟨rfl, G.out⟩
set_option maxRecDepth 100000 in
theorem sameLabels_any {w : World} {B B' : Nat} {u v : Value} {l : List Int} (h1 : RowU B w u l) (h2 : RowU B' w v l) (hl : l.length ≤ 9223372036854775807) :
    Calls Tryz.prog 16 #[u, v] w fun en w' => en = .returned (.bool true) ∧ Grew w w' := by
  rcases Nat.eq_zero_or_pos l.length with h0 | h0
  · have hl0 := List.eq_nil_of_length_eq_zero h0
    subst hl0
    obtain ⟨ua, uc, hu⟩ := row_one h1
    obtain ⟨va, vc, hv⟩ := row_one h2
    subst hu
    subst hv
    clear h1 h2 hl h0
    simp only [List.length_nil]
    go_enter Tryz.func16, Tryz.ntmps16
    go_wp2_with fail
    go_loopw [5] (fun i_ w' => i_ = .int .i64 0 ∧ w' = w) (fun _ _ => 0)
    case atStart => exact ⟨rfl, rfl⟩
    case round =>
      obtain ⟨rfl, h⟩ := hrel
      obtain rfl := h.symm
      go_wp2_with fail
      go_ret
      exact ⟨rfl, Grew.refl _⟩
  · obtain ⟨ug, uc, hu, huc, _⟩ := row_at h1 h0
    obtain ⟨vg, vc, hv, hvc, _⟩ := row_at h2 h0
    subst hu
    subst hv
    have H1 : Hid (RowU B w (.slice (some ⟨ug, 0, none⟩) l.length uc) l) := h1
    have H2 : Hid (RowU B' w (.slice (some ⟨vg, 0, none⟩) l.length vc) l) := h2
    clear h1 h2
    go_enter Tryz.func16, Tryz.ntmps16
    go_wp2_with fail
    go_loopw [5] (fun i_ w' => ∃ i : Nat, i_ = .int .i64 i ∧ i ≤ l.length ∧ Hid (Grew w w')) (fun i_ _ => l.length - (intOf i_).toNat)
    case atStart => exact ⟨0, rfl, Nat.zero_le _, Grew.refl _⟩
    case round =>
      obtain ⟨i, rfl, hi, G⟩ := hrel
      obtain ⟨w0, hw0⟩ : ∃ w0, w0 = wr := ⟨_, rfl⟩
      rw [← hw0] at G ⊢
      clear hw0
      by_cases hlt : i < l.length
      · obtain ⟨x, hx⟩ : ∃ x, l[i]? = some x := ⟨_, List.getElem?_eq_getElem hlt⟩
        have d1 : decide ((i : Int) < (l.length : Int)) = true := by simp; omega
        have d2 : decide (i < l.length) = true := by simp; omega
        have p0 := rowU_cell (row_turn H1.out (G.out.turn []) (by simp)) rfl hx
        have q0 := rowU_cell (row_turn H2.out (G.out.turn []) (by simp)) rfl hx
        clear hx
        go_wp2_with fail
        go_quiet (fail)
        go_wp2_with fail
        go_roundw
        case rel => exact ⟨i + 1, by go_num, by omega, G.out.drewN _⟩
        case measure => simp [intOf]; omega
      · have d1 : decide ((i : Int) < (l.length : Int)) = false := by simp; omega
        go_wp2_with fail
        go_ret
        exact ⟨rfl, G.out⟩
set_option maxRecDepth 100000 in
theorem sameCatches_any {w : World} {B B' : Nat} {u v : Value} {l : List CA} (h1 : RowC B w u l) (h2 : RowC B' w v l) (hl : l.length ≤ 9223372036854775807) :
    Calls Tryz.prog 15 #[u, v] w fun en w' => en = .returned (.bool true) ∧ Grew w w' := by
  rcases Nat.eq_zero_or_pos l.length with h0 | h0
  · have hl0 := List.eq_nil_of_length_eq_zero h0
    subst hl0
    obtain ⟨ua, uc, hu⟩ := row_one h1
    obtain ⟨va, vc, hv⟩ := row_one h2
    subst hu
    subst hv
    clear h1 h2 hl h0
    simp only [List.length_nil]
    go_enter Tryz.func15, Tryz.ntmps15
    go_wp2_with fail
    go_loopw [5] (fun i_ w' => i_ = .int .i64 0 ∧ w' = w) (fun _ _ => 0)
    case atStart => exact ⟨rfl, rfl⟩
    case round =>
      obtain ⟨rfl, h⟩ := hrel
      obtain rfl := h.symm
      go_wp2_with fail
      go_ret
      exact ⟨rfl, Grew.refl _⟩
  · obtain ⟨ug, uc, hu, huc, _⟩ := row_at h1 h0
    obtain ⟨vg, vc, hv, hvc, _⟩ := row_at h2 h0
    subst hu
    subst hv
    have H1 : Hid (RowC B w (.slice (some ⟨ug, 0, none⟩) l.length uc) l) := h1
    have H2 : Hid (RowC B' w (.slice (some ⟨vg, 0, none⟩) l.length vc) l) := h2
    clear h1 h2
    go_enter Tryz.func15, Tryz.ntmps15
    go_wp2_with fail
    go_loopw [5] (fun i_ w' => ∃ i : Nat, i_ = .int .i64 i ∧ i ≤ l.length ∧ Hid (Grew w w')) (fun i_ _ => l.length - (intOf i_).toNat)
    case atStart => exact ⟨0, rfl, Nat.zero_le _, Grew.refl _⟩
    case round =>
      obtain ⟨i, rfl, hi, G⟩ := hrel
      obtain ⟨w0, hw0⟩ : ∃ w0, w0 = wr := ⟨_, rfl⟩
      rw [← hw0] at G ⊢
      clear hw0
      by_cases hlt : i < l.length
      · obtain ⟨x, hx⟩ : ∃ x, l[i]? = some x := ⟨_, List.getElem?_eq_getElem hlt⟩
        have d1 : decide ((i : Int) < (l.length : Int)) = true := by simp; omega
        have d2 : decide (i < l.length) = true := by simp; omega
        obtain ⟨p0, p1, p2⟩ := rowC_cell (row_turn H1.out (G.out.turn []) (by simp)) rfl hx
        obtain ⟨q0, q1, q2⟩ := rowC_cell (row_turn H2.out (G.out.turn []) (by simp)) rfl hx
        obtain ⟨c0, c1, c2⟩ := x
        clear hx
        go_wp2_with fail
        go_quiet (fail)
        go_wp2_with fail
        go_roundw
        case rel => exact ⟨i + 1, by go_num, by omega, G.out.drewN _⟩
        case measure => simp [intOf]; omega
      · have d1 : decide ((i : Int) < (l.length : Int)) = false := by simp; omega
        go_wp2_with fail
        go_ret
        exact ⟨rfl, G.out⟩
set_option maxRecDepth 100000 in
theorem sameAll_nil (w : World) : Calls Tryz.prog 14 #[.slice none 0 0, .slice none 0 0] w fun en w' => en = .returned (.bool true) ∧ Grew w w' := by
  go_enter Tryz.func14, Tryz.ntmps14
  go_wp2_with fail
  refine wp_loop_rounds 1 ?_
  rw [rounds_succ]
  go_wp2
  go_ret
  exact ⟨rfl, Grew.refl w⟩
set_option maxRecDepth 100000 in
set_option maxHeartbeats 2000000 in
theorem sameBlock_any (x : BK) (w : World) : Calls Tryz.prog 13 #[BK.v x, BK.v x] w fun en w' => en = .returned (.bool true) ∧ Grew w w' := by
  obtain ⟨t, ⟨n, nul, hp⟩⟩ := x
  unfold BK.v
  have C := fun X => same_any ⟨n, nul, hp⟩ X
  unfold VT.v vt at C
  simp only at C
  go_enter Tryz.func13, Tryz.ntmps13
  go_wp2_with fail
  refine (C _).mono ?_
  rintro en w1 ⟨rfl, g1⟩
  have G1 : Hid (Grew w w1) := (((Grew.refl w).alloc _).alloc _).trans g1
  clear g1
  go_wp2_with fail
  go_ret
  exact ⟨rfl, G1.out⟩
theorem name_add : nameP 106 = [105, 51, 50, 46, 97, 100, 100] := by decide +kernel
set_option maxRecDepth 100000 in
theorem awake_any (w : World) : Calls Tryz.prog 8 #[] w fun e w' => e = .returned (.bool true) ∧ Grew w w' := by
  have C := name_any 106 (by omega) (by omega) w
  rw [name_add] at C
  have hd : ((BA [105, 51, 50, 46, 97, 100, 100]).toList == [105, 51, 50, 46, 97, 100, 100]) = true := by rw [ba_list]; rfl
  generalize BA [105, 51, 50, 46, 97, 100, 100] = S at *
  go_enter Tryz.func8, Tryz.ntmps8
  go_wp2_with fail
  refine C.mono ?_
  rintro e w1 ⟨rfl, g1⟩
  have G1 : Hid (Grew w w1) := g1
  clear g1 C
  go_wp2_with fail
  go_ret
  exact ⟨rfl, G1.out⟩
end Go.Proofs.YtohapnninjdlfaaGreatDoor

namespace Go.Proofs.YtohapnninjdlfaaGreatDoor
open Go.RowKit
set_option linter.unusedVariables false
set_option linter.unusedSimpArgs false
set_option linter.constructorNameAsVariable false

set_option maxRecDepth 100000 in
set_option maxHeartbeats 4000000 in
theorem alike_any (op x y n al me off bt bn bh : Int) (bz : Bool) (labs : List Int) (tys : List VT) (cas : List CA) (la1 la2 ta1 ta2 ca1 ca2 : Option Addr) (lc1 lc2 tc1 tc2 cc1 cc2 : Nat) (w : World) (B : Nat) (rl1 : RowU B w (.slice la1 labs.length lc1) labs) (rl2 : RowU B w (.slice la2 labs.length lc2) labs) (rt1 : RowV B w (.slice ta1 tys.length tc1) tys) (rt2 : RowV B w (.slice ta2 tys.length tc2) tys) (rc1 : RowC B w (.slice ca1 cas.length cc1) cas) (rc2 : RowC B w (.slice ca2 cas.length cc2) cas) :
    Calls Tryz.prog 7 #[.agg #[.int .i64 op, .int .u32 x, .int .u32 y, .int .u64 n, .int .u32 al, .int .u32 me, .int .u64 off, .int .i64 bt, .int .i64 bn, .bool bz, .int .i64 bh, .slice none 0 0, .slice none 0 0, .bool false, .slice la1 labs.length lc1, .slice ta1 tys.length tc1, .slice ca1 cas.length cc1], .agg #[.int .i64 op, .int .u32 x, .int .u32 y, .int .u64 n, .int .u32 al, .int .u32 me, .int .u64 off, .int .i64 bt, .int .i64 bn, .bool bz, .int .i64 bh, .slice none 0 0, .slice none 0 0, .bool false, .slice la2 labs.length lc2, .slice ta2 tys.length tc2, .slice ca2 cas.length cc2]] w fun en w' => en = .returned (.bool true) ∧ Grew w w' := by
  have HL1 : Hid (RowU B w (.slice la1 labs.length lc1) labs) := rl1
  have HL2 : Hid (RowU B w (.slice la2 labs.length lc2) labs) := rl2
  have HT1 : Hid (RowV B w (.slice ta1 tys.length tc1) tys) := rt1
  have HT2 : Hid (RowV B w (.slice ta2 tys.length tc2) tys) := rt2
  have HC1 : Hid (RowC B w (.slice ca1 cas.length cc1) cas) := rc1
  have HC2 : Hid (RowC B w (.slice ca2 cas.length cc2) cas) := rc2
  have GW : Hid (Grew w ((w.alloc (.cells #[.int .i64 op, .int .u32 x, .int .u32 y, .int .u64 n, .int .u32 al, .int .u32 me, .int .u64 off, .int .i64 bt, .int .i64 bn, .bool bz, .int .i64 bh, .slice none 0 0, .slice none 0 0, .bool false, .slice la1 labs.length lc1, .slice ta1 tys.length tc1, .slice ca1 cas.length cc1] 36)).alloc (.cells #[.int .i64 op, .int .u32 x, .int .u32 y, .int .u64 n, .int .u32 al, .int .u32 me, .int .u64 off, .int .i64 bt, .int .i64 bn, .bool bz, .int .i64 bh, .slice none 0 0, .slice none 0 0, .bool false, .slice la2 labs.length lc2, .slice ta2 tys.length tc2, .slice ca2 cas.length cc2] 36))) := ((Grew.refl w).alloc _).alloc _
  have h1 : ((w.alloc (.cells #[.int .i64 op, .int .u32 x, .int .u32 y, .int .u64 n, .int .u32 al, .int .u32 me, .int .u64 off, .int .i64 bt, .int .i64 bn, .bool bz, .int .i64 bh, .slice none 0 0, .slice none 0 0, .bool false, .slice la1 labs.length lc1, .slice ta1 tys.length tc1, .slice ca1 cas.length cc1] 36)).alloc (.cells #[.int .i64 op, .int .u32 x, .int .u32 y, .int .u64 n, .int .u32 al, .int .u32 me, .int .u64 off, .int .i64 bt, .int .i64 bn, .bool bz, .int .i64 bh, .slice none 0 0, .slice none 0 0, .bool false, .slice la2 labs.length lc2, .slice ta2 tys.length tc2, .slice ca2 cas.length cc2] 36)).heap[w.heap.size]? = some (.cells #[.int .i64 op, .int .u32 x, .int .u32 y, .int .u64 n, .int .u32 al, .int .u32 me, .int .u64 off, .int .i64 bt, .int .i64 bn, .bool bz, .int .i64 bh, .slice none 0 0, .slice none 0 0, .bool false, .slice la1 labs.length lc1, .slice ta1 tys.length tc1, .slice ca1 cas.length cc1] 36 (0, 0)) := heap_alloc (heap_alloc_last _ _) _
  have h2 : ((w.alloc (.cells #[.int .i64 op, .int .u32 x, .int .u32 y, .int .u64 n, .int .u32 al, .int .u32 me, .int .u64 off, .int .i64 bt, .int .i64 bn, .bool bz, .int .i64 bh, .slice none 0 0, .slice none 0 0, .bool false, .slice la1 labs.length lc1, .slice ta1 tys.length tc1, .slice ca1 cas.length cc1] 36)).alloc (.cells #[.int .i64 op, .int .u32 x, .int .u32 y, .int .u64 n, .int .u32 al, .int .u32 me, .int .u64 off, .int .i64 bt, .int .i64 bn, .bool bz, .int .i64 bh, .slice none 0 0, .slice none 0 0, .bool false, .slice la2 labs.length lc2, .slice ta2 tys.length tc2, .slice ca2 cas.length cc2] 36)).heap[w.heap.size + 1]? = some (.cells #[.int .i64 op, .int .u32 x, .int .u32 y, .int .u64 n, .int .u32 al, .int .u32 me, .int .u64 off, .int .i64 bt, .int .i64 bn, .bool bz, .int .i64 bh, .slice none 0 0, .slice none 0 0, .bool false, .slice la2 labs.length lc2, .slice ta2 tys.length tc2, .slice ca2 cas.length cc2] 36 (0, 0)) := by
    have := heap_alloc_last (w.alloc (.cells #[.int .i64 op, .int .u32 x, .int .u32 y, .int .u64 n, .int .u32 al, .int .u32 me, .int .u64 off, .int .i64 bt, .int .i64 bn, .bool bz, .int .i64 bh, .slice none 0 0, .slice none 0 0, .bool false, .slice la1 labs.length lc1, .slice ta1 tys.length tc1, .slice ca1 cas.length cc1] 36)) (.cells #[.int .i64 op, .int .u32 x, .int .u32 y, .int .u64 n, .int .u32 al, .int .u32 me, .int .u64 off, .int .i64 bt, .int .i64 bn, .bool bz, .int .i64 bh, .slice none 0 0, .slice none 0 0, .bool false, .slice la2 labs.length lc2, .slice ta2 tys.length tc2, .slice ca2 cas.length cc2] 36)
    rwa [alloc_size] at this
  clear rl1 rl2 rt1 rt2 rc1 rc2
  clear h1 h2
  go_enter Tryz.func7, Tryz.ntmps7
  go_wp2_with fail
  go_ret
  exact ⟨rfl, GW.out⟩
end Go.Proofs.YtohapnninjdlfaaGreatDoor

namespace Go.Proofs.YtohapnninjdlfaaGreatDoor
open Go.RowKit
set_option linter.unusedVariables false
set_option linter.unusedSimpArgs false
set_option linter.constructorNameAsVariable false

theorem row_max {w : World} {B : Nat} {e : TypeId} {k : Nat} {v : Value} {n : Nat} {cs : List Value} (h : w.ownsRow B e k v n cs) : n ≤ 9223372036854775807 := by
  obtain ⟨h1, ⟨_, h2⟩ | ⟨g, cap, cur, rfl, hB, hg, h3⟩⟩ := h
  · omega
  · have := h3.1
    have := h3.2.1
    unfold maxLen at this
    omega
theorem two_alloc2 (w : World) (A B : Array Value) (t : TypeId) : Hid (Grew w ((w.alloc (.cells A t)).alloc (.cells B t))) ∧ ((w.alloc (.cells A t)).alloc (.cells B t)).heap[w.heap.size]? = some (.cells A t (0, 0)) ∧ ((w.alloc (.cells A t)).alloc (.cells B t)).heap[w.heap.size + 1]? = some (.cells B t (0, 0)) := by
  refine ⟨((Grew.refl w).alloc _).alloc _, heap_alloc (heap_alloc_last _ _) _, ?_⟩
  have := heap_alloc_last (w.alloc (.cells A t)) (.cells B t)
  rwa [alloc_size] at this
end Go.Proofs.YtohapnninjdlfaaGreatDoor
