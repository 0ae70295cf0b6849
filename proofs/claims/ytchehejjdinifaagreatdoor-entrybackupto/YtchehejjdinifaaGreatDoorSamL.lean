/-
  The document's SameVals, sameFields, SameSub and SameRec at lists that are only read; no statement is proved here.
-/
import Derived.Test.YtchehejjdinifaaGreatDoorSam9
import Derived.Test.YtchehejjdinifaaGreatDoorTopV
namespace Go.Proofs.YtchehejjdinifaaGreatDoor
open Go.RowKit
set_option linter.unusedVariables false
set_option linter.unusedSimpArgs false
set_option linter.constructorNameAsVariable false

theorem lst_one {α : Type} {k : Nat} {E : World → Nat → Nat → α → Prop} {w : World} {v : Value} {l : List α} (h : Lst k E w v l) : ∃ a c, v = .slice a l.length c := by
  obtain ⟨a, c, hv, _, _⟩ := h.one
  exact ⟨a, c, hv⟩
theorem lst_max {α : Type} {k : Nat} {E : World → Nat → Nat → α → Prop} {w : World} {v : Value} {l : List α} (h : Lst k E w v l) : l.length ≤ 9223372036854775807 := by
  obtain ⟨a, c, hv, h1, h2⟩ := h.one
  unfold maxLen at h2
  omega
theorem lst_at {α : Type} {k : Nat} {E : World → Nat → Nat → α → Prop} {w : World} {v : Value} {l : List α} (h : Lst k E w v l) (hn : 0 < l.length) : ∃ g o c, v = .slice (some ⟨g, o, none⟩) l.length c ∧ l.length ≤ c := by
  obtain ⟨a, c, rfl, h1, h2⟩ := h.one
  obtain ⟨b, off, rfl, h3, _⟩ := h.get hn
  exact ⟨b, off, c, rfl, h1⟩
theorem lst_get {α : Type} {k : Nat} {E : World → Nat → Nat → α → Prop} {w : World} {g o n c : Nat} {l : List α} (h : Lst k E w (.slice (some ⟨g, o, none⟩) n c) l) {i : Nat} {x : α} (hx : l[i]? = some x) : E w g (o + i * k) x := by
  obtain ⟨b, off, ha, _, hc⟩ := h.get (by have := (List.getElem?_eq_some_iff.1 hx).1; omega)
  injection ha with ha
  injection ha with e1 e2 e3
  subst e1 e2
  exact hc i x hx
theorem lv_cell {w : World} {g o n c : Nat} {l : List VT} (h : LV w (.slice (some ⟨g, o, none⟩) n c) l) {i : Nat} {x : VT} (hx : l[i]? = some x) : w.cell? ⟨g, o + i * 3, none⟩ = some (.int .i64 x.num) ∧ w.cell? ⟨g, o + i * 3 + 1, none⟩ = some (.bool x.null) ∧ w.cell? ⟨g, o + i * 3 + 2, none⟩ = some (.int .i64 x.heap) := lst_get h hx
theorem lf_cell {w : World} {g o n c : Nat} {l : List FT} (h : LF w (.slice (some ⟨g, o, none⟩) n c) l) {i : Nat} {x : FT} (hx : l[i]? = some x) : w.cell? ⟨g, o + i * 4, none⟩ = some (.int .i64 x.ty.num) ∧ w.cell? ⟨g, o + i * 4 + 1, none⟩ = some (.bool x.ty.null) ∧ w.cell? ⟨g, o + i * 4 + 2, none⟩ = some (.int .i64 x.ty.heap) ∧ w.cell? ⟨g, o + i * 4 + 3, none⟩ = some (.bool x.mut_) := by
  obtain ⟨⟨h1, h2, h3⟩, h4⟩ := lst_get h hx
  exact ⟨h1, h2, h3, h4⟩
theorem li_cell {w : World} {g o n c : Nat} {l : List Int} (h : LI w (.slice (some ⟨g, o, none⟩) n c) l) {i : Nat} {x : Int} (hx : l[i]? = some x) : w.cell? ⟨g, o + i, none⟩ = some (.int .i64 x) := by
  have := lst_get h hx
  rw [Nat.mul_one] at this
  exact this
def SubD (w : World) (cs : List Value) (x : SB) : Prop := ∃ sv pv rv fv, cs = [.bool x.final_, sv, .int .i64 x.comp.kind, pv, rv, fv] ∧ SubR w x sv pv rv fv
theorem SubD.grew {w w' : World} {cs : List Value} {x : SB} (h : SubD w cs x) (g : Grew w w') : SubD w' cs x := by
  obtain ⟨sv, pv, rv, fv, h1, h2⟩ := h
  exact ⟨sv, pv, rv, fv, h1, h2.grew g⟩
theorem SubD.max {w : World} {cs : List Value} {x : SB} (h : SubD w cs x) : x.supers.length ≤ 9223372036854775807 ∧ x.comp.params.length ≤ 9223372036854775807 ∧ x.comp.results.length ≤ 9223372036854775807 ∧ x.comp.fields.length ≤ 9223372036854775807 := by
  obtain ⟨sv, pv, rv, fv, hcs, z1, z2, z3, z4⟩ := h
  exact ⟨lst_max z1, lst_max z2, lst_max z3, lst_max z4⟩
def RecL (w : World) (u : Value) (r : RT) : Prop := ∃ tv, u = .agg #[tv, .bool r.explicit] ∧ LS w tv r.types
theorem ls_cell {w : World} {g o n c : Nat} {l : List SB} (h : LS w (.slice (some ⟨g, o, none⟩) n c) l) {i : Nat} {x : SB} (hx : l[i]? = some x) : ∃ es, SubD w es x ∧ ∀ k, k < 6 → w.cell? ⟨g, o + i * 6 + k, none⟩ = es[k]? := by
  obtain ⟨sv, pv, rv, fv, hs, c0, c1, c2, c3, c4, c5⟩ := lst_get h hx
  refine ⟨_, ⟨sv, pv, rv, fv, rfl, hs⟩, fun k hk => ?_⟩
  match k, hk with
  | 0, _ => exact c0
  | 1, _ => exact c1
  | 2, _ => exact c2
  | 3, _ => exact c3
  | 4, _ => exact c4
  | 5, _ => exact c5
set_option maxRecDepth 100000 in
theorem sameVals_lst {w : World} {u v : Value} {l : List VT} (h1 : LV w u l) (h2 : LV w v l) (hl : l.length ≤ 9223372036854775807) :
    Calls Tryz.prog 28 #[u, v] w fun en w' => en = .returned (.bool true) ∧ Grew w w' := by
  rcases Nat.eq_zero_or_pos l.length with h0 | h0
  · have hl0 := List.eq_nil_of_length_eq_zero h0
    subst hl0
    obtain ⟨ua, uc, hu⟩ := lst_one h1
    obtain ⟨va, vc, hv⟩ := lst_one h2
    subst hu
    subst hv
    clear h1 h2 hl h0
    simp only [List.length_nil]
    go_enter Tryz.func28, Tryz.ntmps28
    go_wp2_with fail
    go_loopw [5] (fun i_ w' => i_ = .int .i64 0 ∧ w' = w) (fun _ _ => 0)
    case atStart => exact ⟨rfl, rfl⟩
    case round =>
      obtain ⟨rfl, h⟩ := hrel
      obtain rfl := h.symm
      go_wp2_with fail
      go_ret
      exact ⟨rfl, Grew.refl _⟩
  · obtain ⟨ug, uo, uc, hu, huc⟩ := lst_at h1 h0
    obtain ⟨vg, vo, vc, hv, hvc⟩ := lst_at h2 h0
    subst hu
    subst hv
    have H1 : Hid (LV w (.slice (some ⟨ug, uo, none⟩) l.length uc) l) := h1
    have H2 : Hid (LV w (.slice (some ⟨vg, vo, none⟩) l.length vc) l) := h2
    clear h1 h2
    go_enter Tryz.func28, Tryz.ntmps28
    go_wp2_with fail
    go_loopw [5] (fun i_ w' => ∃ i : Nat, i_ = .int .i64 i ∧ i ≤ l.length ∧ Hid (Grew w w')) (fun i_ _ => l.length - (intOf i_).toNat)
    case atStart => exact ⟨0, rfl, Nat.zero_le _, Grew.refl _⟩
    case round =>
      obtain ⟨i, rfl, hi, G⟩ := hrel
      obtain ⟨w0, hw0⟩ : ∃ w0, w0 = wr := ⟨_, rfl⟩
      rw [← hw0] at G ⊢
      clear hw0
      by_cases hlt : i < l.length
      · obtain ⟨x, hx⟩ : ∃ x, l[i]? = some x := ⟨_, List.getElem?_eq_getElem hlt⟩
        have d1 : decide ((i : Int) < (l.length : Int)) = true := by simp; omega
        have d2 : decide (i < l.length) = true := by simp; omega
        obtain ⟨p0, p1, p2⟩ := lv_cell (H1.out.grew G.out) hx
        obtain ⟨q0, q1, q2⟩ := lv_cell (H2.out.grew G.out) hx
        obtain ⟨n, nul, hp⟩ := x
        clear hx
        go_wp2_with fail
        go_region_law (first
          | (refine step_same (.tmp 20) (.tmp 24) ⟨n, nul, hp⟩ rfl (by simp [Region.wanted]) rfl rfl ?_
             intro w6 g6
             have G6 : Hid (Grew w w6) := G.out.trans (by first | exact g6 | exact ((Grew.refl _).drew).trans g6 | exact ((Grew.refl _).drewN _).trans g6)
             clear g6))
        all_goals
          go_wp2_with fail
          go_roundw
          case rel => exact ⟨i + 1, by go_num, by omega, G6.out⟩
          case measure => simp [intOf]; omega
      · have d1 : decide ((i : Int) < (l.length : Int)) = false := by simp; omega
        go_wp2_with fail
        go_ret
        exact ⟨rfl, G.out⟩
set_option maxRecDepth 100000 in
set_option maxHeartbeats 8000000 in
theorem sameFields_lst {w : World} {u v : Value} {l : List FT} (h1 : LF w u l) (h2 : LF w v l) (hl : l.length ≤ 9223372036854775807) :
    Calls Tryz.prog 29 #[u, v] w fun en w' => en = .returned (.bool true) ∧ Grew w w' := by
  rcases Nat.eq_zero_or_pos l.length with h0 | h0
  · have hl0 := List.eq_nil_of_length_eq_zero h0
    subst hl0
    obtain ⟨ua, uc, hu⟩ := lst_one h1
    obtain ⟨va, vc, hv⟩ := lst_one h2
    subst hu
    subst hv
    clear h1 h2 hl h0
    simp only [List.length_nil]
    go_enter Tryz.func29, Tryz.ntmps29
    go_wp2_with fail
    go_loopw [5] (fun i_ w' => i_ = .int .i64 0 ∧ w' = w) (fun _ _ => 0)
    case atStart => exact ⟨rfl, rfl⟩
    case round =>
      obtain ⟨rfl, h⟩ := hrel
      obtain rfl := h.symm
      go_wp2_with fail
      go_ret
      exact ⟨rfl, Grew.refl _⟩
  · obtain ⟨ug, uo, uc, hu, huc⟩ := lst_at h1 h0
    obtain ⟨vg, vo, vc, hv, hvc⟩ := lst_at h2 h0
    subst hu
    subst hv
    have H1 : Hid (LF w (.slice (some ⟨ug, uo, none⟩) l.length uc) l) := h1
    have H2 : Hid (LF w (.slice (some ⟨vg, vo, none⟩) l.length vc) l) := h2
    clear h1 h2
    go_enter Tryz.func29, Tryz.ntmps29
    go_wp2_with fail
    go_loopw [5] (fun i_ w' => ∃ i : Nat, i_ = .int .i64 i ∧ i ≤ l.length ∧ Hid (Grew w w')) (fun i_ _ => l.length - (intOf i_).toNat)
    case atStart => exact ⟨0, rfl, Nat.zero_le _, Grew.refl _⟩
    case round =>
      obtain ⟨i, rfl, hi, G⟩ := hrel
      obtain ⟨w0, hw0⟩ : ∃ w0, w0 = wr := ⟨_, rfl⟩
      rw [← hw0] at G ⊢
      clear hw0
      by_cases hlt : i < l.length
      · obtain ⟨x, hx⟩ : ∃ x, l[i]? = some x := ⟨_, List.getElem?_eq_getElem hlt⟩
        have d1 : decide ((i : Int) < (l.length : Int)) = true := by simp; omega
        have d2 : decide (i < l.length) = true := by simp; omega
        obtain ⟨p0, p1, p2, p3⟩ := lf_cell (H1.out.grew G.out) hx
        obtain ⟨q0, q1, q2, q3⟩ := lf_cell (H2.out.grew G.out) hx
        obtain ⟨⟨n, nul, hp⟩, mu⟩ := x
        clear hx
        go_wp2_with fail
        have mm : (mu != mu) = false := by simp
        have SC := fun w' => same_any ⟨n, nul, hp⟩ w'
        unfold VT.v vt at SC
        have hug : ug < w0.heap.size := lt_of_cell p0
        have hvg : vg < w0.heap.size := lt_of_cell q0
        refine wp_region_ck [(ug, uo + i * 4, .int .i64 n), (ug, uo + i * 4 + 1, .bool nul), (ug, uo + i * 4 + 2, .int .i64 hp), (ug, uo + i * 4 + 3, .bool mu), (vg, vo + i * 4, .int .i64 n), (vg, vo + i * 4 + 1, .bool nul), (vg, vo + i * 4 + 2, .int .i64 hp), (vg, vo + i * 4 + 3, .bool mu)] (by kernel_rfl) (by kernel_rfl) ⟨⟨hug, p0⟩, ⟨hug, p1⟩, ⟨hug, p2⟩, ⟨hug, p3⟩, ⟨hvg, q0⟩, ⟨hvg, q1⟩, ⟨hvg, q2⟩, ⟨hvg, q3⟩, trivial⟩ ?_
        repeat (first
          | go_big_quiet_skip
          | (go_big_quiet_want
             go_big_quiet_op
             first
             | go_big_quiet_on
             | (refine ⟨_, fun _ _ => rfl, ?_⟩; go_big_quiet_on)
             | (refine ⟨.bool mu, fun w' hw' => ?_, ?_⟩
                · (obtain ⟨_, ⟨_, hc0⟩, ⟨_, hc1⟩, ⟨_, hc2⟩, ⟨_, hc3⟩, ⟨_, hc4⟩, ⟨_, hc5⟩, ⟨_, hc6⟩, ⟨_, hc7⟩, _⟩ := hw'; go_simp; done)
                go_big_quiet_on)
             | (refine ⟨.agg #[.int .i64 n, .bool nul, .int .i64 hp], fun w' hw' => ?_, ?_⟩
                · (obtain ⟨_, ⟨_, hc0⟩, ⟨_, hc1⟩, ⟨_, hc2⟩, ⟨_, hc3⟩, ⟨_, hc4⟩, ⟨_, hc5⟩, ⟨_, hc6⟩, ⟨_, hc7⟩, _⟩ := hw'; go_simp; done)
                go_big_quiet_on)
             | (apply Exists.intro
                refine ⟨fun w' hw' => ?_, ?_⟩
                · (first
                   | exact hw'.call (SC _))
                go_big_quiet_on)))
        refine wpQuiet_nil ?_
        rintro w6 ⟨g6, _⟩
        have G6 : Hid (Grew w w6) := G.out.trans g6
        clear g6
        go_wp2_with fail
        go_roundw
        case rel => exact ⟨i + 1, by go_num, by omega, G6.out⟩
        case measure => simp [intOf]; omega
      · have d1 : decide ((i : Int) < (l.length : Int)) = false := by simp; omega
        go_wp2_with fail
        go_ret
        exact ⟨rfl, G.out⟩
set_option maxRecDepth 100000 in
set_option maxHeartbeats 1000000 in
theorem sameSub_lst {w : World} {cs ds : List Value} {x : SB} (h1 : SubD w cs x) (h2 : SubD w ds x) (hl : x.supers.length ≤ 9223372036854775807 ∧ x.comp.params.length ≤ 9223372036854775807 ∧ x.comp.results.length ≤ 9223372036854775807 ∧ x.comp.fields.length ≤ 9223372036854775807) :
    Calls Tryz.prog 14 #[.agg cs.toArray, .agg ds.toArray] w fun en w' => en = .returned (.bool true) ∧ Grew w w' := by
  obtain ⟨sv, pv, rv, fv, hcs, z1, z2, z3, z4⟩ := h1
  obtain ⟨sv', pv', rv', fv', hds, y1, y2, y3, y4⟩ := h2
  obtain ⟨sa, sc, e1⟩ := lst_one z1
  obtain ⟨pa, pc, e2⟩ := lst_one z2
  obtain ⟨ra, rc, e3⟩ := lst_one z3
  obtain ⟨fa, fc, e4⟩ := lst_one z4
  obtain ⟨sa', sc', e5⟩ := lst_one y1
  obtain ⟨pa', pc', e6⟩ := lst_one y2
  obtain ⟨ra', rc', e7⟩ := lst_one y3
  obtain ⟨fa', fc', e8⟩ := lst_one y4
  subst e1
  subst e2
  subst e3
  subst e4
  subst e5
  subst e6
  subst e7
  subst e8
  subst hcs
  subst hds
  have C1 : Hid (∀ w', Grew w w' → Calls Tryz.prog 28 #[.slice pa x.comp.params.length pc, .slice pa' x.comp.params.length pc'] w' fun en w'' => en = .returned (.bool true) ∧ Grew w' w'') := fun w' g => sameVals_lst (z2.grew g) (y2.grew g) hl.2.1
  have C2 : Hid (∀ w', Grew w w' → Calls Tryz.prog 28 #[.slice ra x.comp.results.length rc, .slice ra' x.comp.results.length rc'] w' fun en w'' => en = .returned (.bool true) ∧ Grew w' w'') := fun w' g => sameVals_lst (z3.grew g) (y3.grew g) hl.2.2.1
  have C3 : Hid (∀ w', Grew w w' → Calls Tryz.prog 29 #[.slice fa x.comp.fields.length fc, .slice fa' x.comp.fields.length fc'] w' fun en w'' => en = .returned (.bool true) ∧ Grew w' w'') := fun w' g => sameFields_lst (z4.grew g) (y4.grew g) hl.2.2.2
  have Z1 : Hid (LI w (.slice sa x.supers.length sc) x.supers) := z1
  have Y1 : Hid (LI w (.slice sa' x.supers.length sc') x.supers) := y1
  have hl1 := hl.1
  clear z1 z2 z3 z4 y1 y2 y3 y4 hl
  obtain ⟨fin, sup, ⟨kind, params, results, fields⟩⟩ := x
  simp only at *
  have ff : (fin != fin) = false := by simp
  have kk : (kind != kind) = false := by simp
  have ll : (((sup.length : Nat) : Int) != ((sup.length : Nat) : Int)) = false := by simp
  generalize hA : #[Value.bool fin, .slice sa sup.length sc, .int .i64 kind, .slice pa params.length pc, .slice ra results.length rc, .slice fa fields.length fc] = A at *
  generalize hD : #[Value.bool fin, .slice sa' sup.length sc', .int .i64 kind, .slice pa' params.length pc', .slice ra' results.length rc', .slice fa' fields.length fc'] = D at *
  subst hA
  subst hD
  go_enter Tryz.func14, Tryz.ntmps14
  go_wp2_with fail
  generalize hW : ((w.alloc (.cells #[Value.bool fin, .slice sa sup.length sc, .int .i64 kind, .slice pa params.length pc, .slice ra results.length rc, .slice fa fields.length fc] 65)).alloc (.cells #[Value.bool fin, .slice sa' sup.length sc', .int .i64 kind, .slice pa' params.length pc', .slice ra' results.length rc', .slice fa' fields.length fc'] 65)) = W
  have G0 : Hid (Grew w W) := by rw [← hW]; exact ((Grew.refl w).alloc _).alloc _
  have A0 : Hid (W.heap[w.heap.size]? = some (sobj fin (.slice sa sup.length sc) kind (.slice pa params.length pc) (.slice ra results.length rc) (.slice fa fields.length fc))) := by rw [← hW]; exact heap_alloc (heap_alloc_last _ _) _
  have B0 : Hid (W.heap[w.heap.size + 1]? = some (sobj fin (.slice sa' sup.length sc') kind (.slice pa' params.length pc') (.slice ra' results.length rc') (.slice fa' fields.length fc'))) := by
    have h1 : (w.alloc (.cells #[Value.bool fin, .slice sa sup.length sc, .int .i64 kind, .slice pa params.length pc, .slice ra results.length rc, .slice fa fields.length fc] 65)).heap.size = w.heap.size + 1 := by simp
    rw [← hW, ← h1]
    exact heap_alloc_last _ _
  clear hW
  go_loopw [5] (fun i_ w' => ∃ i : Nat, i_ = .int .i64 i ∧ i ≤ sup.length ∧ Hid (∃ n, w' = W.drewN n)) (fun i_ _ => sup.length - (intOf i_).toNat)
  case atStart => exact ⟨0, rfl, Nat.zero_le _, ⟨0, rfl⟩⟩
  case round =>
    obtain ⟨i, rfl, hi, ⟨nd, hnd⟩⟩ := hrel
    have a0 := cell_of A0.out 0
    have a1 := cell_of A0.out 1
    have a2 := cell_of A0.out 2
    have a3 := cell_of A0.out 3
    have a4 := cell_of A0.out 4
    have a5 := cell_of A0.out 5
    have b0 := cell_of B0.out 0
    have b1 := cell_of B0.out 1
    have b2 := cell_of B0.out 2
    have b3 := cell_of B0.out 3
    have b4 := cell_of B0.out 4
    have b5 := cell_of B0.out 5
    simp at a0 a1 a2 a3 a4 a5 b0 b1 b2 b3 b4 b5
    obtain rfl := hnd.symm
    by_cases hlt : i < sup.length
    · obtain ⟨sg, so, sc1, hv, hc⟩ := lst_at Z1.out (by omega)
      obtain ⟨sg', so', sc1', hv', hc'⟩ := lst_at Y1.out (by omega)
      injection hv with e1 _ e3
      injection hv' with e1' _ e3'
      subst e1
      subst e3
      subst e1'
      subst e3'
      obtain ⟨x, hx⟩ : ∃ x, sup[i]? = some x := ⟨_, List.getElem?_eq_getElem hlt⟩
      have p0 := li_cell (Z1.out.grew G0.out) hx
      have q0 := li_cell (Y1.out.grew G0.out) hx
      have xx : (x != x) = false := by simp
      have d1 : decide ((i : Int) < (sup.length : Int)) = true := by simp; omega
      have d2 : decide (i < sup.length) = true := by simp; omega
      clear hx C1 C2 C3
      go_wp2_with fail
      go_quiet (fail)
      all_goals
        go_wp2_with fail
        go_roundw
        case rel => exact ⟨i + 1, by go_num, by omega, ⟨_, rfl⟩⟩
        case measure => simp [intOf]; omega
    · have d1 : decide ((i : Int) < (sup.length : Int)) = false := by simp; omega
      go_wp2_with fail
      refine (C1.out _ (G0.out.drewN nd)).mono ?_
      rintro en w1 ⟨rfl, g1⟩
      have G1 : Hid (Grew W w1) := ((Grew.refl W).drewN nd).trans g1
      clear g1
      have ha1 := (G1.out.turn []).other A0.out (by simp)
      have a1_0 := cell_of ha1 0
      have a1_1 := cell_of ha1 1
      have a1_2 := cell_of ha1 2
      have a1_3 := cell_of ha1 3
      have a1_4 := cell_of ha1 4
      have a1_5 := cell_of ha1 5
      have hb1 := (G1.out.turn []).other B0.out (by simp)
      have b1_0 := cell_of hb1 0
      have b1_1 := cell_of hb1 1
      have b1_2 := cell_of hb1 2
      have b1_3 := cell_of hb1 3
      have b1_4 := cell_of hb1 4
      have b1_5 := cell_of hb1 5
      simp at a1_0 a1_1 a1_2 a1_3 a1_4 a1_5 b1_0 b1_1 b1_2 b1_3 b1_4 b1_5
      clear ha1 hb1
      go_wp2_with fail
      refine (C2.out _ (G0.out.trans G1.out)).mono ?_
      rintro en w2 ⟨rfl, g2⟩
      have G2 : Hid (Grew W w2) := G1.out.trans g2
      clear g2
      have ha2 := (G2.out.turn []).other A0.out (by simp)
      have a2_0 := cell_of ha2 0
      have a2_1 := cell_of ha2 1
      have a2_2 := cell_of ha2 2
      have a2_3 := cell_of ha2 3
      have a2_4 := cell_of ha2 4
      have a2_5 := cell_of ha2 5
      have hb2 := (G2.out.turn []).other B0.out (by simp)
      have b2_0 := cell_of hb2 0
      have b2_1 := cell_of hb2 1
      have b2_2 := cell_of hb2 2
      have b2_3 := cell_of hb2 3
      have b2_4 := cell_of hb2 4
      have b2_5 := cell_of hb2 5
      simp at a2_0 a2_1 a2_2 a2_3 a2_4 a2_5 b2_0 b2_1 b2_2 b2_3 b2_4 b2_5
      clear ha2 hb2
      go_wp2_with fail
      refine (C3.out _ (G0.out.trans G2.out)).mono ?_
      rintro en w3 ⟨rfl, g3⟩
      have G3 : Hid (Grew w w3) := (G0.out.trans G2.out).trans g3
      clear g3
      go_wp2_with fail
      go_ret
      exact ⟨rfl, G3.out⟩
set_option maxRecDepth 100000 in
set_option maxHeartbeats 2000000 in
theorem sameRec_lst {w : World} {u v : Value} {r : RT} (h1 : RecL w u r) (h2 : RecL w v r) :
    Calls Tryz.prog 6 #[u, v] w fun en w' => en = .returned (.bool true) ∧ Grew w w' := by
  obtain ⟨tu, rfl, z⟩ := h1
  obtain ⟨tv, rfl, y⟩ := h2
  obtain ⟨l, ex⟩ := r
  simp only at z y ⊢
  have ee : (ex != ex) = false := by simp
  obtain ⟨n, hn⟩ : ∃ n, n = l.length := ⟨_, rfl⟩
  have hmax : n ≤ 9223372036854775807 := by rw [hn]; exact lst_max z
  rcases Nat.eq_zero_or_pos l.length with h0 | h0
  · have hl0 := List.eq_nil_of_length_eq_zero h0
    subst hl0
    obtain ⟨ua, uc, hu⟩ := lst_one z
    obtain ⟨va, vc, hv⟩ := lst_one y
    subst hu
    subst hv
    clear z y h0
    simp only [List.length_nil]
    go_enter Tryz.func6, Tryz.ntmps6
    go_wp2_with fail
    generalize hW : ((w.alloc (.cells #[Value.slice ua 0 uc, .bool ex] 24)).alloc (.cells #[Value.slice va 0 vc, .bool ex] 24)) = W
    have G0 : Hid (Grew w W) := by rw [← hW]; exact ((Grew.refl w).alloc _).alloc _
    have A0 : W.heap[w.heap.size]? = some (robj (.slice ua 0 uc) ex) := by rw [← hW]; exact heap_alloc (heap_alloc_last _ _) _
    have a0 := cell_of A0 0
    simp at a0
    clear hW A0
    go_loopw [5] (fun i_ w' => i_ = .int .i64 0 ∧ w' = W) (fun _ _ => 0)
    case atStart => exact ⟨rfl, rfl⟩
    case round =>
      obtain ⟨rfl, h⟩ := hrel
      obtain rfl := h.symm
      go_wp2_with fail
      go_ret
      exact ⟨rfl, G0.out⟩
  · obtain ⟨g, go, tc, hu, huc⟩ := lst_at z h0
    obtain ⟨g', go', tc', hv, hvc⟩ := lst_at y h0
    subst hu
    subst hv
    rw [← hn] at z y huc hvc ⊢
    have Z : Hid (LS w (.slice (some ⟨g, go, none⟩) n tc) l) := z
    have Y : Hid (LS w (.slice (some ⟨g', go', none⟩) n tc') l) := y
    have HN : Hid (n = l.length) := hn
    have h0' : 0 < n := by omega
    clear z y h0 hn
    have nn : ((n : Int) != (n : Int)) = false := by simp
    go_enter Tryz.func6, Tryz.ntmps6
    go_wp2_with fail
    generalize hW : ((w.alloc (.cells #[Value.slice (some ⟨g, go, none⟩) n tc, .bool ex] 24)).alloc (.cells #[Value.slice (some ⟨g', go', none⟩) n tc', .bool ex] 24)) = W
    have G0 : Hid (Grew w W) := by rw [← hW]; exact ((Grew.refl w).alloc _).alloc _
    have A0 : Hid (W.heap[w.heap.size]? = some (robj (.slice (some ⟨g, go, none⟩) n tc) ex)) := by rw [← hW]; exact heap_alloc (heap_alloc_last _ _) _
    have B0 : Hid (W.heap[w.heap.size + 1]? = some (robj (.slice (some ⟨g', go', none⟩) n tc') ex)) := by
      have h1 : (w.alloc (.cells #[Value.slice (some ⟨g, go, none⟩) n tc, .bool ex] 24)).heap.size = w.heap.size + 1 := by simp
      rw [← hW, ← h1]
      exact heap_alloc_last _ _
    clear hW
    go_loopw [5] (fun i_ w' => ∃ i : Nat, i_ = .int .i64 i ∧ i ≤ n ∧ Hid (Grew W w')) (fun i_ _ => n - (intOf i_).toNat)
    case atStart => exact ⟨0, rfl, Nat.zero_le _, Grew.refl _⟩
    case round =>
      obtain ⟨i, rfl, hi, G⟩ := hrel
      obtain ⟨w0, hw0⟩ : ∃ w0, w0 = wr := ⟨_, rfl⟩
      rw [← hw0] at G ⊢
      clear hw0
      have oa := (G.out.turn []).other A0.out (by simp)
      have ob := (G.out.turn []).other B0.out (by simp)
      have ta0 := cell_of oa 0
      have tb0 := cell_of ob 0
      have hn1 := lt_of_obj oa
      have hn2 := lt_of_obj ob
      simp at ta0 tb0
      clear oa ob
      by_cases hlt : i < n
      · obtain ⟨x, hx⟩ : ∃ x, l[i]? = some x := ⟨_, List.getElem?_eq_getElem (by have := HN.out; omega)⟩
        have g0 : Grew w w0 := G0.out.trans G.out
        obtain ⟨es, c1, e1⟩ := ls_cell (Z.out.grew g0) hx
        obtain ⟨fs, c2, f1⟩ := ls_cell (Y.out.grew g0) hx
        have SC : Hid (∀ w', Grew w0 w' → Calls Tryz.prog 14 #[.agg es.toArray, .agg fs.toArray] w' fun en w'' => en = .returned (.bool true) ∧ Grew w' w'') := fun w' gw => sameSub_lst (c1.grew gw) (c2.grew gw) c1.max
        obtain ⟨sv, pv, rv, fv, hcs, z1, z2, z3, z4⟩ := c1
        obtain ⟨sv', pv', rv', fv', hds, y1, y2, y3, y4⟩ := c2
        obtain ⟨sa, sc, k1⟩ := lst_one z1
        obtain ⟨pa, pc, k2⟩ := lst_one z2
        obtain ⟨ra, rc, k3⟩ := lst_one z3
        obtain ⟨fa, fc, k4⟩ := lst_one z4
        obtain ⟨sa', sc', k5⟩ := lst_one y1
        obtain ⟨pa', pc', k6⟩ := lst_one y2
        obtain ⟨ra', rc', k7⟩ := lst_one y3
        obtain ⟨fa', fc', k8⟩ := lst_one y4
        subst k1
        subst k2
        subst k3
        subst k4
        subst k5
        subst k6
        subst k7
        subst k8
        subst hcs
        subst hds
        have p0 : w0.cell? ⟨g, go + i * 6, none⟩ = some (.bool x.final_) := e1 0 (by omega)
        have p1 : w0.cell? ⟨g, go + i * 6 + 1, none⟩ = some (.slice sa x.supers.length sc) := e1 1 (by omega)
        have p2 : w0.cell? ⟨g, go + i * 6 + 2, none⟩ = some (.int .i64 x.comp.kind) := e1 2 (by omega)
        have p3 : w0.cell? ⟨g, go + i * 6 + 3, none⟩ = some (.slice pa x.comp.params.length pc) := e1 3 (by omega)
        have p4 : w0.cell? ⟨g, go + i * 6 + 4, none⟩ = some (.slice ra x.comp.results.length rc) := e1 4 (by omega)
        have p5 : w0.cell? ⟨g, go + i * 6 + 5, none⟩ = some (.slice fa x.comp.fields.length fc) := e1 5 (by omega)
        have q0 : w0.cell? ⟨g', go' + i * 6, none⟩ = some (.bool x.final_) := f1 0 (by omega)
        have q1 : w0.cell? ⟨g', go' + i * 6 + 1, none⟩ = some (.slice sa' x.supers.length sc') := f1 1 (by omega)
        have q2 : w0.cell? ⟨g', go' + i * 6 + 2, none⟩ = some (.int .i64 x.comp.kind) := f1 2 (by omega)
        have q3 : w0.cell? ⟨g', go' + i * 6 + 3, none⟩ = some (.slice pa' x.comp.params.length pc') := f1 3 (by omega)
        have q4 : w0.cell? ⟨g', go' + i * 6 + 4, none⟩ = some (.slice ra' x.comp.results.length rc') := f1 4 (by omega)
        have q5 : w0.cell? ⟨g', go' + i * 6 + 5, none⟩ = some (.slice fa' x.comp.fields.length fc') := f1 5 (by omega)
        have hg1 : g < w0.heap.size := lt_of_cell p0
        have hg2 : g' < w0.heap.size := lt_of_cell q0
        have d1 : decide ((i : Int) < (n : Int)) = true := by simp; omega
        have d2 : decide (i < n) = true := by simp; omega
        have G2 : Hid (Grew W w0) := G.out
        clear e1 f1 z1 z2 z3 z4 y1 y2 y3 y4 hx g0 G
        go_wp2_with fail
        refine wp_region_ck [(w.heap.size, 0, .slice (some ⟨g, go, none⟩) n tc), (w.heap.size + 1, 0, .slice (some ⟨g', go', none⟩) n tc'), (g, go + i * 6, .bool x.final_), (g, go + i * 6 + 1, .slice sa x.supers.length sc), (g, go + i * 6 + 2, .int .i64 x.comp.kind), (g, go + i * 6 + 3, .slice pa x.comp.params.length pc), (g, go + i * 6 + 4, .slice ra x.comp.results.length rc), (g, go + i * 6 + 5, .slice fa x.comp.fields.length fc), (g', go' + i * 6, .bool x.final_), (g', go' + i * 6 + 1, .slice sa' x.supers.length sc'), (g', go' + i * 6 + 2, .int .i64 x.comp.kind), (g', go' + i * 6 + 3, .slice pa' x.comp.params.length pc'), (g', go' + i * 6 + 4, .slice ra' x.comp.results.length rc'), (g', go' + i * 6 + 5, .slice fa' x.comp.fields.length fc')] (by kernel_rfl) (by kernel_rfl) ⟨⟨hn1, ta0⟩, ⟨hn2, tb0⟩, ⟨hg1, p0⟩, ⟨hg1, p1⟩, ⟨hg1, p2⟩, ⟨hg1, p3⟩, ⟨hg1, p4⟩, ⟨hg1, p5⟩, ⟨hg2, q0⟩, ⟨hg2, q1⟩, ⟨hg2, q2⟩, ⟨hg2, q3⟩, ⟨hg2, q4⟩, ⟨hg2, q5⟩, trivial⟩ ?_
        repeat (first
          | go_big_quiet_skip
          | (go_big_quiet_want
             go_big_quiet_op
             first
             | go_big_quiet_on
             | (refine ⟨_, fun _ _ => rfl, ?_⟩; go_big_quiet_on)
             | (refine ⟨.slice (some ⟨g, go, none⟩) n tc, fun w' hw' => ?_, ?_⟩
                · (obtain ⟨_, ⟨_, hc0⟩, ⟨_, hc1⟩, ⟨_, hc2⟩, ⟨_, hc3⟩, ⟨_, hc4⟩, ⟨_, hc5⟩, ⟨_, hc6⟩, ⟨_, hc7⟩, ⟨_, hc8⟩, ⟨_, hc9⟩, ⟨_, hc10⟩, ⟨_, hc11⟩, ⟨_, hc12⟩, ⟨_, hc13⟩, _⟩ := hw'; go_simp; done)
                go_big_quiet_on)
             | (refine ⟨.slice (some ⟨g', go', none⟩) n tc', fun w' hw' => ?_, ?_⟩
                · (obtain ⟨_, ⟨_, hc0⟩, ⟨_, hc1⟩, ⟨_, hc2⟩, ⟨_, hc3⟩, ⟨_, hc4⟩, ⟨_, hc5⟩, ⟨_, hc6⟩, ⟨_, hc7⟩, ⟨_, hc8⟩, ⟨_, hc9⟩, ⟨_, hc10⟩, ⟨_, hc11⟩, ⟨_, hc12⟩, ⟨_, hc13⟩, _⟩ := hw'; go_simp; done)
                go_big_quiet_on)
             | (refine ⟨.agg #[.bool x.final_, .slice sa x.supers.length sc, .int .i64 x.comp.kind, .slice pa x.comp.params.length pc, .slice ra x.comp.results.length rc, .slice fa x.comp.fields.length fc], fun w' hw' => ?_, ?_⟩
                · (obtain ⟨_, ⟨_, hc0⟩, ⟨_, hc1⟩, ⟨_, hc2⟩, ⟨_, hc3⟩, ⟨_, hc4⟩, ⟨_, hc5⟩, ⟨_, hc6⟩, ⟨_, hc7⟩, ⟨_, hc8⟩, ⟨_, hc9⟩, ⟨_, hc10⟩, ⟨_, hc11⟩, ⟨_, hc12⟩, ⟨_, hc13⟩, _⟩ := hw'; go_simp; done)
                go_big_quiet_on)
             | (refine ⟨.agg #[.bool x.final_, .slice sa' x.supers.length sc', .int .i64 x.comp.kind, .slice pa' x.comp.params.length pc', .slice ra' x.comp.results.length rc', .slice fa' x.comp.fields.length fc'], fun w' hw' => ?_, ?_⟩
                · (obtain ⟨_, ⟨_, hc0⟩, ⟨_, hc1⟩, ⟨_, hc2⟩, ⟨_, hc3⟩, ⟨_, hc4⟩, ⟨_, hc5⟩, ⟨_, hc6⟩, ⟨_, hc7⟩, ⟨_, hc8⟩, ⟨_, hc9⟩, ⟨_, hc10⟩, ⟨_, hc11⟩, ⟨_, hc12⟩, ⟨_, hc13⟩, _⟩ := hw'; go_simp; done)
                go_big_quiet_on)
             | (apply Exists.intro
                refine ⟨fun w' hw' => ?_, ?_⟩
                · (first
                   | exact hw'.call (SC.out _ hw'.1))
                go_big_quiet_on)))
        refine wpQuiet_nil ?_
        rintro w6 ⟨g6, _⟩
        have G6 : Hid (Grew W w6) := G2.out.trans g6
        clear g6
        go_wp2_with fail
        go_roundw
        case rel => exact ⟨i + 1, by go_num, by omega, G6.out⟩
        case measure => simp [intOf]; omega
      · have d1 : decide ((i : Int) < (n : Int)) = false := by simp; omega
        go_wp2_with fail
        go_ret
        exact ⟨rfl, G0.out.trans G.out⟩
end Go.Proofs.YtchehejjdinifaaGreatDoor
