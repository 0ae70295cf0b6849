/-
  The document's calls at a place: fields, composite types, types and groups; no statement is proved here.
-/
import Derived.Test.YtgdhocdbcgmokaaDoorDRc8
import Derived.Test.YtgdhocdbcgmokaaDoorDBlk
import Derived.Test.YtgdhocdbcgmokaaDoorTopF
namespace Go.Proofs.YtgdhocdbcgmokaaDoor
open Go.RowKit
set_option linter.unusedVariables false
set_option linter.unusedSimpArgs false
set_option linter.constructorNameAsVariable false

set_option maxRecDepth 100000 in
set_option maxHeartbeats 1000000 in
theorem dtopF_any (v : Value) (l : List Int) (x : Int) (w : World) (hR : Reads w v l) (hB : Byt l) (hl : l.length ≤ 140737488351232) :
    Calls Tryd.prog 19 #[v, .int .i64 x] w fun en w' => en = .returned (ansF (topR (fieldR l) ⟨⟨0, false, 0⟩, false⟩ l x)) ∧ Grew w w' := by
  have BG := begin_any v l x (w.alloc (.cells #[.int .i64 0, .bool false, .int .i64 0, .bool false] 48)) (((Grew.refl w).alloc _).reads hR)
  rw [alloc_size] at BG
  have HR : Hid (Reads w v l) := hR
  have HB : Hid (Byt l) := hB
  obtain ⟨X, hX⟩ : ∃ X, X = topR (fieldR l) ⟨⟨0, false, 0⟩, false⟩ l x := ⟨_, rfl⟩
  rw [← hX]
  clear hR hB
  by_cases hin : 0 ≤ x ∧ x ≤ l.length
  · obtain ⟨p, rfl⟩ : ∃ p : Nat, x = p := ⟨x.toNat, by omega⟩
    have hp : p ≤ l.length := by omega
    rw [topR_in hp] at hX
    rw [decide_eq_true hin] at BG
    clear hin
    cases hx : fieldR l p with
    | error y =>
      obtain ⟨f, e⟩ := y
      rw [hx] at hX
      have HX : Hid (X = (⟨⟨0, false, 0⟩, false⟩, (f : Int), (e : Int))) := hX
      clear hX
      go_enter Tryd.func19, Tryd.ntmps19
      go_wp2_with fail
      refine BG.mono ?_
      rintro en W ⟨rfl, hW⟩
      have G0 : Hid (Grew w W) := by rw [hW]; exact ((Grew.refl w).alloc _).alloc _
      have A0 : Hid (W.heap[w.heap.size]? = some (.cells #[.int .i64 0, .bool false, .int .i64 0, .bool false] 48 (0, 0))) := by rw [hW]; exact heap_alloc (heap_alloc_last _ _) _
      have o0 : W.heap[w.heap.size + 1]? = some (rdg v p 0 0)  := by
        rw [hW]
        have h1 : (w.alloc (.cells #[.int .i64 0, .bool false, .int .i64 0, .bool false] 48)).heap.size = w.heap.size + 1 := alloc_size _ _
        rw [← h1]; exact heap_alloc_last _ _
      have S0 : Hid (DR W (w.heap.size + 1) v l (.ok p)) := ⟨⟨o0, hp⟩, G0.out.reads HR.out, HB.out, hl⟩
      have hWs : w.heap.size + 1 < W.heap.size := lt_of_obj o0
      clear BG hW o0
      go_wp2_with fail
      refine (Calls.der (dfield_any S0.out) hx).mono ?_
      rintro en w2 ⟨⟨y, rfl⟩, t2, s2⟩
      have G2 : Hid (Grew w w2) := t2.grew G0.out (by intro y hy; simp at hy; omega)
      have S2 : Hid (DR w2 (w.heap.size + 1) v l (.error (f, e))) := s2
      have he : e ≠ 0 := by obtain ⟨a, _, _, he⟩ := s2.st; exact he
      have d : ((e : Int) != 0) = true := by simp; exact he
      have hs2 := t2.size
      have A2 : Hid (w2.heap[w.heap.size]? = some (.cells #[.int .i64 0, .bool false, .int .i64 0, .bool false] 48 (0, 0))) := t2.other A0.out (by simp)
      clear t2 s2 S0 hx
      obtain ⟨⟨vn, vb, vh⟩, vm⟩ := y
      unfold FT.v
      go_wp2_with fail
      generalize hw3 : w2.alloc _ = w3
      have g3 : Grew w2 w3 := by rw [← hw3]; exact (Grew.refl w2).alloc _
      refine (end_any (S2.out.grew g3)).mono ?_
      rintro en w4 ⟨rfl, g4⟩
      have G4 : Hid (Grew w w4) := G2.out.trans (g3.trans g4)
      have A4 := ((g3.trans g4).turn []).other A2.out (by simp)
      clear hw3 g3 g4
      have n0 := cell_of A4 0
      have y0 := free_of A4 0
      have n1 := cell_of A4 1
      have y1 := free_of A4 1
      have n2 := cell_of A4 2
      have y2 := free_of A4 2
      have n3 := cell_of A4 3
      have y3 := free_of A4 3
      simp at n0 n1 n2 n3
      clear A4
      unfold endV
      go_wp2_with fail
      refine bodyPost_ret (v := .tuple #[.agg #[.int .i64 0, .bool false, .int .i64 0, .bool false], .int .i64 f, .int .i64 e]) (by simp [results, Tryd.results19, go_sem, FT.v, n0, n1, n2, n3]) rfl ?_
      rw [HX.out]
      exact ⟨rfl, ((((G4.out.set (p := ⟨w.heap.size, 0, none⟩) (by simp) _).set (p := ⟨w.heap.size, 1, none⟩) (by simp) _).set (p := ⟨w.heap.size, 2, none⟩) (by simp) _).set (p := ⟨w.heap.size, 3, none⟩) (by simp) _)⟩
    | ok y =>
      obtain ⟨a, q⟩ := y
      obtain ⟨⟨vn, vb, vh⟩, vm⟩ := a
      rw [hx] at hX
      have HX : Hid (X = (⟨⟨vn, vb, vh⟩, vm⟩, (q : Int), 0)) := hX
      clear hX
      go_enter Tryd.func19, Tryd.ntmps19
      go_wp2_with fail
      refine BG.mono ?_
      rintro en W ⟨rfl, hW⟩
      have G0 : Hid (Grew w W) := by rw [hW]; exact ((Grew.refl w).alloc _).alloc _
      have A0 : Hid (W.heap[w.heap.size]? = some (.cells #[.int .i64 0, .bool false, .int .i64 0, .bool false] 48 (0, 0))) := by rw [hW]; exact heap_alloc (heap_alloc_last _ _) _
      have o0 : W.heap[w.heap.size + 1]? = some (rdg v p 0 0)  := by
        rw [hW]
        have h1 : (w.alloc (.cells #[.int .i64 0, .bool false, .int .i64 0, .bool false] 48)).heap.size = w.heap.size + 1 := alloc_size _ _
        rw [← h1]; exact heap_alloc_last _ _
      have S0 : Hid (DR W (w.heap.size + 1) v l (.ok p)) := ⟨⟨o0, hp⟩, G0.out.reads HR.out, HB.out, hl⟩
      have hWs : w.heap.size + 1 < W.heap.size := lt_of_obj o0
      clear BG hW o0
      go_wp2_with fail
      refine (Calls.dok (dfield_any S0.out) hx).mono ?_
      rintro en w2 ⟨rfl, t2, s2⟩
      have G2 : Hid (Grew w w2) := t2.grew G0.out (by intro y hy; simp at hy; omega)
      have S2 : Hid (DR w2 (w.heap.size + 1) v l (.ok q)) := s2
      have hs2 := t2.size
      have A2 : Hid (w2.heap[w.heap.size]? = some (.cells #[.int .i64 0, .bool false, .int .i64 0, .bool false] 48 (0, 0))) := t2.other A0.out (by simp)
      clear t2 s2 S0 hx
      unfold FT.v
      go_wp2_with fail
      generalize hw3 : w2.alloc (.cells #[.int .i64 vn, .bool vb, .int .i64 vh, .bool vm] 48) = w3
      have g3 : Grew w2 w3 := by rw [← hw3]; exact (Grew.refl w2).alloc _
      have D3 : w3.heap[w2.heap.size]? = some (.cells #[.int .i64 vn, .bool vb, .int .i64 vh, .bool vm] 48 (0, 0)) := by rw [← hw3]; exact heap_alloc_last _ _
      refine (end_any (S2.out.grew g3)).mono ?_
      rintro en w4 ⟨rfl, g4⟩
      have G4 : Hid (Grew w w4) := G2.out.trans (g3.trans g4)
      have A4 := ((g3.trans g4).turn []).other A2.out (by simp)
      have D4 := (g4.turn []).other D3 (by simp)
      have n0 := cell_of A4 0
      have y0 := free_of A4 0
      have d0 := cell_of D4 0
      have n1 := cell_of A4 1
      have y1 := free_of A4 1
      have d1 := cell_of D4 1
      have n2 := cell_of A4 2
      have y2 := free_of A4 2
      have d2 := cell_of D4 2
      have n3 := cell_of A4 3
      have y3 := free_of A4 3
      have d3 := cell_of D4 3
      simp at n0 d0 n1 d1 n2 d2 n3 d3
      clear hw3 g3 g4 A4 D3 D4
      have hne : ¬ w2.heap.size = w.heap.size := by omega
      unfold endV
      go_wp2_with fail
      refine bodyPost_ret (v := .tuple #[FT.v ⟨⟨vn, vb, vh⟩, vm⟩, .int .i64 q, .int .i64 0]) (by simp [results, Tryd.results19, go_sem, FT.v, n0, n1, n2, n3]) rfl ?_
      rw [HX.out]
      exact ⟨rfl, ((((G4.out.set (p := ⟨w.heap.size, 0, none⟩) (by simp) _).set (p := ⟨w.heap.size, 1, none⟩) (by simp) _).set (p := ⟨w.heap.size, 2, none⟩) (by simp) _).set (p := ⟨w.heap.size, 3, none⟩) (by simp) _)⟩
  · rw [topR_out hin] at hX
    have HX : Hid (X = (⟨⟨0, false, 0⟩, false⟩, 0, 1)) := hX
    rw [decide_eq_false hin] at BG
    clear hX hin
    go_enter Tryd.func19, Tryd.ntmps19
    go_wp2_with fail
    refine BG.mono ?_
    rintro en W ⟨rfl, hW⟩
    have G0 : Hid (Grew w W) := by rw [hW]; exact ((Grew.refl w).alloc _).alloc _
    have A0 : W.heap[w.heap.size]? = some (.cells #[.int .i64 0, .bool false, .int .i64 0, .bool false] 48 (0, 0)) := by rw [hW]; exact heap_alloc (heap_alloc_last _ _) _
    have n0 := cell_of A0 0
    have y0 := free_of A0 0
    have n1 := cell_of A0 1
    have y1 := free_of A0 1
    have n2 := cell_of A0 2
    have y2 := free_of A0 2
    have n3 := cell_of A0 3
    have y3 := free_of A0 3
    simp at n0 n1 n2 n3
    clear A0
    clear BG hW
    go_wp2_with fail
    refine bodyPost_ret (v := .tuple #[.agg #[.int .i64 0, .bool false, .int .i64 0, .bool false], .int .i64 0, .int .i64 1]) (by simp [results, Tryd.results19, go_sem, FT.v, n0, n1, n2, n3]) rfl ?_
    rw [HX.out]
    exact ⟨rfl, ((((G0.out.set (p := ⟨w.heap.size, 0, none⟩) (by simp) _).set (p := ⟨w.heap.size, 1, none⟩) (by simp) _).set (p := ⟨w.heap.size, 2, none⟩) (by simp) _).set (p := ⟨w.heap.size, 3, none⟩) (by simp) _)⟩
theorem RecC.low {B B' : Nat} {w : World} {cs : List Value} {x : RT} (h : RecC B w cs x) (hb : B' ≤ B) : RecC B' w cs x := by
  obtain ⟨tv, e, a⟩ := h
  exact ⟨tv, e, a.low hb⟩
theorem topR_tie {α : Type} {R : List Int → Nat → RS α} {z : α} {l : List Int} {p : Nat} (hp : p ≤ l.length) {x : α} {q : Nat} (h : TieD (runR (R l) (.ok p)) x (.ok q)) : topR (R l) z l (p : Int) = (x, (q : Int), 0) := by
  rw [topR_in hp, show R l p = .ok (x, q) from h]
theorem topR_bad {α : Type} {R : List Int → Nat → RS α} {z : α} {l : List Int} {p : Nat} (hp : p ≤ l.length) {x : α} {f e : Nat} (h : TieD (runR (R l) (.ok p)) x (.error (f, e))) : topR (R l) z l (p : Int) = (z, (f : Int), (e : Int)) := by
  rw [topR_in hp, show R l p = .error (f, e) from h]
set_option maxRecDepth 100000 in
set_option maxHeartbeats 1000000 in
theorem dtopCx_any (v : Value) (l : List Int) (x : Int) (w : World) (hR : Reads w v l) (hB : Byt l) (hl : l.length ≤ 140737488351232) :
    Calls Tryd.prog 21 #[v, .int .i64 x] w fun en w' => ∃ cs, en = .returned (.tuple #[.agg cs.toArray, .int .i64 (topR (compR l) ⟨0, [], [], []⟩ l x).2.1, .int .i64 (topR (compR l) ⟨0, [], [], []⟩ l x).2.2]) ∧ CompC w.heap.size w' cs (topR (compR l) ⟨0, [], [], []⟩ l x).1 ∧ Grew w w' := by
  have BG := begin_any v l x (w.alloc (.cells #[.int .i64 0, .slice none 0 0, .slice none 0 0, .slice none 0 0] 55)) (((Grew.refl w).alloc _).reads hR)
  rw [alloc_size] at BG
  have HR : Hid (Reads w v l) := hR
  have HB : Hid (Byt l) := hB
  clear hR hB
  by_cases hin : 0 ≤ x ∧ x ≤ l.length
  · obtain ⟨p, rfl⟩ : ∃ p : Nat, x = p := ⟨x.toNat, by omega⟩
    have hp : p ≤ l.length := by omega
    rw [decide_eq_true hin] at BG
    obtain ⟨X, hX⟩ : ∃ X, X = topR (compR l) ⟨0, [], [], []⟩ l (p : Int) := ⟨_, rfl⟩
    have TY : Hid (∀ y q, TieD (runR (compR l) (.ok p)) y (.ok q) → X = (y, (q : Int), 0)) := fun y q h => by rw [hX]; exact topR_tie hp h
    have TN : Hid (∀ y f e, TieD (runR (compR l) (.ok p)) y (.error (f, e)) → X = (⟨0, [], [], []⟩, (f : Int), (e : Int))) := fun y f e h => by rw [hX]; exact topR_bad hp h
    rw [← hX]
    clear hin hX
    go_enter Tryd.func21, Tryd.ntmps21
    go_wp2_with fail
    refine BG.mono ?_
    rintro en W ⟨rfl, hW⟩
    have G0 : Hid (Grew w W) := by rw [hW]; exact ((Grew.refl w).alloc _).alloc _
    have A0 : Hid (W.heap[w.heap.size]? = some (.cells #[.int .i64 0, .slice none 0 0, .slice none 0 0, .slice none 0 0] 55 (0, 0))) := by rw [hW]; exact heap_alloc (heap_alloc_last _ _) _
    have o0 : W.heap[w.heap.size + 1]? = some (rdg v p 0 0) := by
      rw [hW]
      have h1 : (w.alloc (.cells #[.int .i64 0, .slice none 0 0, .slice none 0 0, .slice none 0 0] 55)).heap.size = w.heap.size + 1 := alloc_size _ _
      rw [← h1]; exact heap_alloc_last _ _
    have S0 : Hid (DR W (w.heap.size + 1) v l (.ok p)) := ⟨⟨o0, hp⟩, G0.out.reads HR.out, HB.out, hl⟩
    have hWs : w.heap.size + 1 < W.heap.size := lt_of_obj o0
    clear BG hW o0
    go_wp2_with fail
    refine (dcomp_any S0.out).mono ?_
    rintro en w2 ⟨cs, x, st', rfl, r2, ⟨t2, s2⟩, td⟩
    have G2 : Hid (Grew w w2) := t2.grew G0.out (by intro y hy; simp at hy; omega)
    have S2 : Hid (DR w2 (w.heap.size + 1) v l st') := s2
    have hs2 := t2.size
    have A2 : Hid (w2.heap[w.heap.size]? = some (.cells #[.int .i64 0, .slice none 0 0, .slice none 0 0, .slice none 0 0] 55 (0, 0))) := t2.other A0.out (by simp)
    have R2 : Hid (CompC w.heap.size w2 cs x) := r2.low G0.out.2
    have TD : Hid (TieD (runR (compR l) (.ok p)) x st') := td
    clear t2 s2 S0 td
    obtain ⟨pv, rv, fv, hcs, z1, z2, z3⟩ := r2
    obtain ⟨pa, pc, e0_⟩ := row_one z1
    obtain ⟨ra, rc, e1_⟩ := row_one z2
    obtain ⟨fa, fc, e2_⟩ := row_one z3
    subst e0_
    subst e1_
    subst e2_
    subst hcs
    clear z1 z2 z3
    go_wp2_with fail
    generalize hw3 : w2.alloc (.cells #[.int .i64 x.kind, .slice pa x.params.length pc, .slice ra x.results.length rc, .slice fa x.fields.length fc] 55) = w3
    have g3 : Grew w2 w3 := by rw [← hw3]; exact (Grew.refl w2).alloc _
    have D3 : w3.heap[w2.heap.size]? = some (.cells #[.int .i64 x.kind, .slice pa x.params.length pc, .slice ra x.results.length rc, .slice fa x.fields.length fc] 55 (0, 0)) := by rw [← hw3]; exact heap_alloc_last _ _
    refine (end_any (S2.out.grew g3)).mono ?_
    rintro en w4 ⟨rfl, g4⟩
    have G4 : Hid (Grew w w4) := G2.out.trans (g3.trans g4)
    have HA4 : Hid (w4.heap[w.heap.size]? = some (.cells #[.int .i64 0, .slice none 0 0, .slice none 0 0, .slice none 0 0] 55 (0, 0))) := ((g3.trans g4).turn []).other A2.out (by simp)
    have D4 := (g4.turn []).other D3 (by simp)
    have R4 : Hid (CompC w.heap.size w4 [.int .i64 x.kind, .slice pa x.params.length pc, .slice ra x.results.length rc, .slice fa x.fields.length fc] x) := R2.out.turn ((g3.trans g4).turn []) (by simp) (by simp)
    have n0 := cell_of HA4.out 0
    have y0 := free_of HA4.out 0
    have d0 := cell_of D4 0
    have n1 := cell_of HA4.out 1
    have y1 := free_of HA4.out 1
    have d1 := cell_of D4 1
    have n2 := cell_of HA4.out 2
    have y2 := free_of HA4.out 2
    have d2 := cell_of D4 2
    have n3 := cell_of HA4.out 3
    have y3 := free_of HA4.out 3
    have d3 := cell_of D4 3
    simp at n0 d0 n1 d1 n2 d2 n3 d3
    clear hw3 g3 g4 D3 D4
    have hne : ¬ w2.heap.size = w.heap.size := by omega
    cases st' with
    | ok q =>
      have HX : Hid (X = (x, (q : Int), 0)) := TY.out _ _ TD.out
      clear TY TN TD S2
      unfold endV
      go_wp2_with fail
      have tN : Turn [w.heap.size] w4 ((((w4.setCell ⟨w.heap.size, 0, none⟩ (.int .i64 x.kind)).setCell ⟨w.heap.size, 1, none⟩ (.slice pa x.params.length pc)).setCell ⟨w.heap.size, 2, none⟩ (.slice ra x.results.length rc)).setCell ⟨w.heap.size, 3, none⟩ (.slice fa x.fields.length fc)) := (((((Turn.refl [w.heap.size] w4).set (Or.inl (by simp)) _).set (Or.inl (by simp)) _).set (Or.inl (by simp)) _).set (Or.inl (by simp)) _)
      refine bodyPost_ret (v := .tuple #[.agg #[.int .i64 x.kind, .slice pa x.params.length pc, .slice ra x.results.length rc, .slice fa x.fields.length fc], .int .i64 q, .int .i64 0]) (by simp [results, Tryd.results21, go_sem, n0, n1, n2, n3]) rfl ?_
      rw [HX.out]
      exact ⟨[.int .i64 x.kind, .slice pa x.params.length pc, .slice ra x.results.length rc, .slice fa x.fields.length fc], rfl, R4.out.turn tN (fun y hy => by simp at hy; subst hy; exact NoT.of HA4.out (by decide)) (fun y hy => by simp at hy; subst hy; exact NoT.of HA4.out (by decide)), ((((G4.out.set (p := ⟨w.heap.size, 0, none⟩) (by simp) _).set (p := ⟨w.heap.size, 1, none⟩) (by simp) _).set (p := ⟨w.heap.size, 2, none⟩) (by simp) _).set (p := ⟨w.heap.size, 3, none⟩) (by simp) _)⟩
    | error y =>
      obtain ⟨f, e⟩ := y
      have he : e ≠ 0 := by obtain ⟨a, _, _, he⟩ := S2.out.st; exact he
      have d : ((e : Int) != 0) = true := by simp; exact he
      have HX : Hid (X = (⟨0, [], [], []⟩, (f : Int), (e : Int))) := TN.out _ _ _ TD.out
      clear TY TN TD S2
      unfold endV
      go_wp2_with fail
      refine bodyPost_ret (v := .tuple #[.agg #[.int .i64 0, .slice none 0 0, .slice none 0 0, .slice none 0 0], .int .i64 f, .int .i64 e]) (by simp [results, Tryd.results21, go_sem, n0, n1, n2, n3]) rfl ?_
      rw [HX.out]
      exact ⟨[.int .i64 0, .slice none 0 0, .slice none 0 0, .slice none 0 0], rfl, ⟨_, _, _, rfl, World.ownsRow_nil _ _ _ _, World.ownsRow_nil _ _ _ _, World.ownsRow_nil _ _ _ _⟩, ((((G4.out.set (p := ⟨w.heap.size, 0, none⟩) (by simp) _).set (p := ⟨w.heap.size, 1, none⟩) (by simp) _).set (p := ⟨w.heap.size, 2, none⟩) (by simp) _).set (p := ⟨w.heap.size, 3, none⟩) (by simp) _)⟩
  · rw [topR_out hin]
    rw [decide_eq_false hin] at BG
    clear hin
    go_enter Tryd.func21, Tryd.ntmps21
    go_wp2_with fail
    refine BG.mono ?_
    rintro en W ⟨rfl, hW⟩
    have G0 : Hid (Grew w W) := by rw [hW]; exact ((Grew.refl w).alloc _).alloc _
    have A0 : W.heap[w.heap.size]? = some (.cells #[.int .i64 0, .slice none 0 0, .slice none 0 0, .slice none 0 0] 55 (0, 0)) := by rw [hW]; exact heap_alloc (heap_alloc_last _ _) _
    have n0 := cell_of A0 0
    have y0 := free_of A0 0
    have n1 := cell_of A0 1
    have y1 := free_of A0 1
    have n2 := cell_of A0 2
    have y2 := free_of A0 2
    have n3 := cell_of A0 3
    have y3 := free_of A0 3
    simp at n0 n1 n2 n3
    clear A0 BG hW
    go_wp2_with fail
    refine bodyPost_ret (v := .tuple #[.agg #[.int .i64 0, .slice none 0 0, .slice none 0 0, .slice none 0 0], .int .i64 0, .int .i64 1]) (by simp [results, Tryd.results21, go_sem, n0, n1, n2, n3]) rfl ?_
    exact ⟨[.int .i64 0, .slice none 0 0, .slice none 0 0, .slice none 0 0], rfl, ⟨_, _, _, rfl, World.ownsRow_nil _ _ _ _, World.ownsRow_nil _ _ _ _, World.ownsRow_nil _ _ _ _⟩, ((((G0.out.set (p := ⟨w.heap.size, 0, none⟩) (by simp) _).set (p := ⟨w.heap.size, 1, none⟩) (by simp) _).set (p := ⟨w.heap.size, 2, none⟩) (by simp) _).set (p := ⟨w.heap.size, 3, none⟩) (by simp) _)⟩
set_option maxRecDepth 100000 in
set_option maxHeartbeats 1000000 in
theorem dtopSx_any (v : Value) (l : List Int) (x : Int) (w : World) (hR : Reads w v l) (hB : Byt l) (hl : l.length ≤ 140737488351232) :
    Calls Tryd.prog 24 #[v, .int .i64 x] w fun en w' => ∃ cs, en = .returned (.tuple #[.agg cs.toArray, .int .i64 (topR (subR l) ⟨false, [], ⟨0, [], [], []⟩⟩ l x).2.1, .int .i64 (topR (subR l) ⟨false, [], ⟨0, [], [], []⟩⟩ l x).2.2]) ∧ SubC w.heap.size w' cs (topR (subR l) ⟨false, [], ⟨0, [], [], []⟩⟩ l x).1 ∧ Grew w w' := by
  have BG := begin_any v l x (w.alloc (.cells #[.bool false, .slice none 0 0, .int .i64 0, .slice none 0 0, .slice none 0 0, .slice none 0 0] 63)) (((Grew.refl w).alloc _).reads hR)
  rw [alloc_size] at BG
  have HR : Hid (Reads w v l) := hR
  have HB : Hid (Byt l) := hB
  clear hR hB
  by_cases hin : 0 ≤ x ∧ x ≤ l.length
  · obtain ⟨p, rfl⟩ : ∃ p : Nat, x = p := ⟨x.toNat, by omega⟩
    have hp : p ≤ l.length := by omega
    rw [decide_eq_true hin] at BG
    obtain ⟨X, hX⟩ : ∃ X, X = topR (subR l) ⟨false, [], ⟨0, [], [], []⟩⟩ l (p : Int) := ⟨_, rfl⟩
    have TY : Hid (∀ y q, TieD (runR (subR l) (.ok p)) y (.ok q) → X = (y, (q : Int), 0)) := fun y q h => by rw [hX]; exact topR_tie hp h
    have TN : Hid (∀ y f e, TieD (runR (subR l) (.ok p)) y (.error (f, e)) → X = (⟨false, [], ⟨0, [], [], []⟩⟩, (f : Int), (e : Int))) := fun y f e h => by rw [hX]; exact topR_bad hp h
    rw [← hX]
    clear hin hX
    go_enter Tryd.func24, Tryd.ntmps24
    go_wp2_with fail
    refine BG.mono ?_
    rintro en W ⟨rfl, hW⟩
    have G0 : Hid (Grew w W) := by rw [hW]; exact ((Grew.refl w).alloc _).alloc _
    have A0 : Hid (W.heap[w.heap.size]? = some (.cells #[.bool false, .slice none 0 0, .int .i64 0, .slice none 0 0, .slice none 0 0, .slice none 0 0] 63 (0, 0))) := by rw [hW]; exact heap_alloc (heap_alloc_last _ _) _
    have o0 : W.heap[w.heap.size + 1]? = some (rdg v p 0 0) := by
      rw [hW]
      have h1 : (w.alloc (.cells #[.bool false, .slice none 0 0, .int .i64 0, .slice none 0 0, .slice none 0 0, .slice none 0 0] 63)).heap.size = w.heap.size + 1 := alloc_size _ _
      rw [← h1]; exact heap_alloc_last _ _
    have S0 : Hid (DR W (w.heap.size + 1) v l (.ok p)) := ⟨⟨o0, hp⟩, G0.out.reads HR.out, HB.out, hl⟩
    have hWs : w.heap.size + 1 < W.heap.size := lt_of_obj o0
    clear BG hW o0
    go_wp2_with fail
    refine (dsub_any S0.out).mono ?_
    rintro en w2 ⟨cs, x, st', rfl, r2, ⟨t2, s2⟩, td⟩
    have G2 : Hid (Grew w w2) := t2.grew G0.out (by intro y hy; simp at hy; omega)
    have S2 : Hid (DR w2 (w.heap.size + 1) v l st') := s2
    have hs2 := t2.size
    have A2 : Hid (w2.heap[w.heap.size]? = some (.cells #[.bool false, .slice none 0 0, .int .i64 0, .slice none 0 0, .slice none 0 0, .slice none 0 0] 63 (0, 0))) := t2.other A0.out (by simp)
    have R2 : Hid (SubC w.heap.size w2 cs x) := r2.low G0.out.2
    have TD : Hid (TieD (runR (subR l) (.ok p)) x st') := td
    clear t2 s2 S0 td
    obtain ⟨sv, pv, rv, fv, hcs, z0, z1, z2, z3⟩ := r2
    obtain ⟨sa, sc, e0_⟩ := row_one z0
    obtain ⟨pa, pc, e1_⟩ := row_one z1
    obtain ⟨ra, rc, e2_⟩ := row_one z2
    obtain ⟨fa, fc, e3_⟩ := row_one z3
    subst e0_
    subst e1_
    subst e2_
    subst e3_
    subst hcs
    clear z0 z1 z2 z3
    go_wp2_with fail
    generalize hw3 : w2.alloc (.cells #[.bool x.final_, .slice sa x.supers.length sc, .int .i64 x.comp.kind, .slice pa x.comp.params.length pc, .slice ra x.comp.results.length rc, .slice fa x.comp.fields.length fc] 63) = w3
    have g3 : Grew w2 w3 := by rw [← hw3]; exact (Grew.refl w2).alloc _
    have D3 : w3.heap[w2.heap.size]? = some (.cells #[.bool x.final_, .slice sa x.supers.length sc, .int .i64 x.comp.kind, .slice pa x.comp.params.length pc, .slice ra x.comp.results.length rc, .slice fa x.comp.fields.length fc] 63 (0, 0)) := by rw [← hw3]; exact heap_alloc_last _ _
    refine (end_any (S2.out.grew g3)).mono ?_
    rintro en w4 ⟨rfl, g4⟩
    have G4 : Hid (Grew w w4) := G2.out.trans (g3.trans g4)
    have HA4 : Hid (w4.heap[w.heap.size]? = some (.cells #[.bool false, .slice none 0 0, .int .i64 0, .slice none 0 0, .slice none 0 0, .slice none 0 0] 63 (0, 0))) := ((g3.trans g4).turn []).other A2.out (by simp)
    have D4 := (g4.turn []).other D3 (by simp)
    have R4 : Hid (SubC w.heap.size w4 [.bool x.final_, .slice sa x.supers.length sc, .int .i64 x.comp.kind, .slice pa x.comp.params.length pc, .slice ra x.comp.results.length rc, .slice fa x.comp.fields.length fc] x) := R2.out.turn ((g3.trans g4).turn []) (by simp) (by simp) (by simp)
    have n0 := cell_of HA4.out 0
    have y0 := free_of HA4.out 0
    have d0 := cell_of D4 0
    have n1 := cell_of HA4.out 1
    have y1 := free_of HA4.out 1
    have d1 := cell_of D4 1
    have n2 := cell_of HA4.out 2
    have y2 := free_of HA4.out 2
    have d2 := cell_of D4 2
    have n3 := cell_of HA4.out 3
    have y3 := free_of HA4.out 3
    have d3 := cell_of D4 3
    have n4 := cell_of HA4.out 4
    have y4 := free_of HA4.out 4
    have d4 := cell_of D4 4
    have n5 := cell_of HA4.out 5
    have y5 := free_of HA4.out 5
    have d5 := cell_of D4 5
    simp at n0 d0 n1 d1 n2 d2 n3 d3 n4 d4 n5 d5
    clear hw3 g3 g4 D3 D4
    have hne : ¬ w2.heap.size = w.heap.size := by omega
    cases st' with
    | ok q =>
      have HX : Hid (X = (x, (q : Int), 0)) := TY.out _ _ TD.out
      clear TY TN TD S2
      unfold endV
      go_wp2_with fail
      have tN : Turn [w.heap.size] w4 ((((((w4.setCell ⟨w.heap.size, 0, none⟩ (.bool x.final_)).setCell ⟨w.heap.size, 1, none⟩ (.slice sa x.supers.length sc)).setCell ⟨w.heap.size, 2, none⟩ (.int .i64 x.comp.kind)).setCell ⟨w.heap.size, 3, none⟩ (.slice pa x.comp.params.length pc)).setCell ⟨w.heap.size, 4, none⟩ (.slice ra x.comp.results.length rc)).setCell ⟨w.heap.size, 5, none⟩ (.slice fa x.comp.fields.length fc)) := (((((((Turn.refl [w.heap.size] w4).set (Or.inl (by simp)) _).set (Or.inl (by simp)) _).set (Or.inl (by simp)) _).set (Or.inl (by simp)) _).set (Or.inl (by simp)) _).set (Or.inl (by simp)) _)
      refine bodyPost_ret (v := .tuple #[.agg #[.bool x.final_, .slice sa x.supers.length sc, .int .i64 x.comp.kind, .slice pa x.comp.params.length pc, .slice ra x.comp.results.length rc, .slice fa x.comp.fields.length fc], .int .i64 q, .int .i64 0]) (by simp [results, Tryd.results24, go_sem, n0, n1, n2, n3, n4, n5]) rfl ?_
      rw [HX.out]
      exact ⟨[.bool x.final_, .slice sa x.supers.length sc, .int .i64 x.comp.kind, .slice pa x.comp.params.length pc, .slice ra x.comp.results.length rc, .slice fa x.comp.fields.length fc], rfl, R4.out.turn tN (fun y hy => by simp at hy; subst hy; exact NoT.of HA4.out (by decide)) (fun y hy => by simp at hy; subst hy; exact NoT.of HA4.out (by decide)) (fun y hy => by simp at hy; subst hy; exact NoT.of HA4.out (by decide)), ((((((G4.out.set (p := ⟨w.heap.size, 0, none⟩) (by simp) _).set (p := ⟨w.heap.size, 1, none⟩) (by simp) _).set (p := ⟨w.heap.size, 2, none⟩) (by simp) _).set (p := ⟨w.heap.size, 3, none⟩) (by simp) _).set (p := ⟨w.heap.size, 4, none⟩) (by simp) _).set (p := ⟨w.heap.size, 5, none⟩) (by simp) _)⟩
    | error y =>
      obtain ⟨f, e⟩ := y
      have he : e ≠ 0 := by obtain ⟨a, _, _, he⟩ := S2.out.st; exact he
      have d : ((e : Int) != 0) = true := by simp; exact he
      have HX : Hid (X = (⟨false, [], ⟨0, [], [], []⟩⟩, (f : Int), (e : Int))) := TN.out _ _ _ TD.out
      clear TY TN TD S2
      unfold endV
      go_wp2_with fail
      refine bodyPost_ret (v := .tuple #[.agg #[.bool false, .slice none 0 0, .int .i64 0, .slice none 0 0, .slice none 0 0, .slice none 0 0], .int .i64 f, .int .i64 e]) (by simp [results, Tryd.results24, go_sem, n0, n1, n2, n3, n4, n5]) rfl ?_
      rw [HX.out]
      exact ⟨[.bool false, .slice none 0 0, .int .i64 0, .slice none 0 0, .slice none 0 0, .slice none 0 0], rfl, ⟨_, _, _, _, rfl, World.ownsRow_nil _ _ _ _, World.ownsRow_nil _ _ _ _, World.ownsRow_nil _ _ _ _, World.ownsRow_nil _ _ _ _⟩, ((((((G4.out.set (p := ⟨w.heap.size, 0, none⟩) (by simp) _).set (p := ⟨w.heap.size, 1, none⟩) (by simp) _).set (p := ⟨w.heap.size, 2, none⟩) (by simp) _).set (p := ⟨w.heap.size, 3, none⟩) (by simp) _).set (p := ⟨w.heap.size, 4, none⟩) (by simp) _).set (p := ⟨w.heap.size, 5, none⟩) (by simp) _)⟩
  · rw [topR_out hin]
    rw [decide_eq_false hin] at BG
    clear hin
    go_enter Tryd.func24, Tryd.ntmps24
    go_wp2_with fail
    refine BG.mono ?_
    rintro en W ⟨rfl, hW⟩
    have G0 : Hid (Grew w W) := by rw [hW]; exact ((Grew.refl w).alloc _).alloc _
    have A0 : W.heap[w.heap.size]? = some (.cells #[.bool false, .slice none 0 0, .int .i64 0, .slice none 0 0, .slice none 0 0, .slice none 0 0] 63 (0, 0)) := by rw [hW]; exact heap_alloc (heap_alloc_last _ _) _
    have n0 := cell_of A0 0
    have y0 := free_of A0 0
    have n1 := cell_of A0 1
    have y1 := free_of A0 1
    have n2 := cell_of A0 2
    have y2 := free_of A0 2
    have n3 := cell_of A0 3
    have y3 := free_of A0 3
    have n4 := cell_of A0 4
    have y4 := free_of A0 4
    have n5 := cell_of A0 5
    have y5 := free_of A0 5
    simp at n0 n1 n2 n3 n4 n5
    clear A0 BG hW
    go_wp2_with fail
    refine bodyPost_ret (v := .tuple #[.agg #[.bool false, .slice none 0 0, .int .i64 0, .slice none 0 0, .slice none 0 0, .slice none 0 0], .int .i64 0, .int .i64 1]) (by simp [results, Tryd.results24, go_sem, n0, n1, n2, n3, n4, n5]) rfl ?_
    exact ⟨[.bool false, .slice none 0 0, .int .i64 0, .slice none 0 0, .slice none 0 0, .slice none 0 0], rfl, ⟨_, _, _, _, rfl, World.ownsRow_nil _ _ _ _, World.ownsRow_nil _ _ _ _, World.ownsRow_nil _ _ _ _, World.ownsRow_nil _ _ _ _⟩, ((((((G0.out.set (p := ⟨w.heap.size, 0, none⟩) (by simp) _).set (p := ⟨w.heap.size, 1, none⟩) (by simp) _).set (p := ⟨w.heap.size, 2, none⟩) (by simp) _).set (p := ⟨w.heap.size, 3, none⟩) (by simp) _).set (p := ⟨w.heap.size, 4, none⟩) (by simp) _).set (p := ⟨w.heap.size, 5, none⟩) (by simp) _)⟩
set_option maxRecDepth 100000 in
set_option maxHeartbeats 1000000 in
theorem dtopRx_any (v : Value) (l : List Int) (x : Int) (w : World) (hR : Reads w v l) (hB : Byt l) (hl : l.length ≤ 140737488351232) :
    Calls Tryd.prog 26 #[v, .int .i64 x] w fun en w' => ∃ cs, en = .returned (.tuple #[.agg cs.toArray, .int .i64 (topR (recR l) ⟨[], false⟩ l x).2.1, .int .i64 (topR (recR l) ⟨[], false⟩ l x).2.2]) ∧ RecC w.heap.size w' cs (topR (recR l) ⟨[], false⟩ l x).1 ∧ Grew w w' := by
  have BG := begin_any v l x (w.alloc (.cells #[.slice none 0 0, .bool false] 70)) (((Grew.refl w).alloc _).reads hR)
  rw [alloc_size] at BG
  have HR : Hid (Reads w v l) := hR
  have HB : Hid (Byt l) := hB
  clear hR hB
  by_cases hin : 0 ≤ x ∧ x ≤ l.length
  · obtain ⟨p, rfl⟩ : ∃ p : Nat, x = p := ⟨x.toNat, by omega⟩
    have hp : p ≤ l.length := by omega
    rw [decide_eq_true hin] at BG
    obtain ⟨X, hX⟩ : ∃ X, X = topR (recR l) ⟨[], false⟩ l (p : Int) := ⟨_, rfl⟩
    have TY : Hid (∀ y q, TieD (runR (recR l) (.ok p)) y (.ok q) → X = (y, (q : Int), 0)) := fun y q h => by rw [hX]; exact topR_tie hp h
    have TN : Hid (∀ y f e, TieD (runR (recR l) (.ok p)) y (.error (f, e)) → X = (⟨[], false⟩, (f : Int), (e : Int))) := fun y f e h => by rw [hX]; exact topR_bad hp h
    rw [← hX]
    clear hin hX
    go_enter Tryd.func26, Tryd.ntmps26
    go_wp2_with fail
    refine BG.mono ?_
    rintro en W ⟨rfl, hW⟩
    have G0 : Hid (Grew w W) := by rw [hW]; exact ((Grew.refl w).alloc _).alloc _
    have A0 : Hid (W.heap[w.heap.size]? = some (.cells #[.slice none 0 0, .bool false] 70 (0, 0))) := by rw [hW]; exact heap_alloc (heap_alloc_last _ _) _
    have o0 : W.heap[w.heap.size + 1]? = some (rdg v p 0 0) := by
      rw [hW]
      have h1 : (w.alloc (.cells #[.slice none 0 0, .bool false] 70)).heap.size = w.heap.size + 1 := alloc_size _ _
      rw [← h1]; exact heap_alloc_last _ _
    have S0 : Hid (DR W (w.heap.size + 1) v l (.ok p)) := ⟨⟨o0, hp⟩, G0.out.reads HR.out, HB.out, hl⟩
    have hWs : w.heap.size + 1 < W.heap.size := lt_of_obj o0
    clear BG hW o0
    go_wp2_with fail
    refine (drec_any S0.out).mono ?_
    rintro en w2 ⟨cs, x, st', rfl, r2, ⟨t2, s2⟩, td⟩
    have G2 : Hid (Grew w w2) := t2.grew G0.out (by intro y hy; simp at hy; omega)
    have S2 : Hid (DR w2 (w.heap.size + 1) v l st') := s2
    have hs2 := t2.size
    have A2 : Hid (w2.heap[w.heap.size]? = some (.cells #[.slice none 0 0, .bool false] 70 (0, 0))) := t2.other A0.out (by simp)
    have R2 : Hid (RecC w.heap.size w2 cs x) := r2.low G0.out.2
    have TD : Hid (TieD (runR (recR l) (.ok p)) x st') := td
    clear t2 s2 S0 td
    obtain ⟨tv, hcs, z0⟩ := r2
    obtain ⟨ta, tc, e0_⟩ := z0.one
    subst e0_
    subst hcs
    clear z0
    go_wp2_with fail
    generalize hw3 : w2.alloc (.cells #[.slice ta x.types.length tc, .bool x.explicit] 70) = w3
    have g3 : Grew w2 w3 := by rw [← hw3]; exact (Grew.refl w2).alloc _
    have D3 : w3.heap[w2.heap.size]? = some (.cells #[.slice ta x.types.length tc, .bool x.explicit] 70 (0, 0)) := by rw [← hw3]; exact heap_alloc_last _ _
    refine (end_any (S2.out.grew g3)).mono ?_
    rintro en w4 ⟨rfl, g4⟩
    have G4 : Hid (Grew w w4) := G2.out.trans (g3.trans g4)
    have HA4 : Hid (w4.heap[w.heap.size]? = some (.cells #[.slice none 0 0, .bool false] 70 (0, 0))) := ((g3.trans g4).turn []).other A2.out (by simp)
    have D4 := (g4.turn []).other D3 (by simp)
    have R4 : Hid (RecC w.heap.size w4 [.slice ta x.types.length tc, .bool x.explicit] x) := R2.out.turn ((g3.trans g4).turn []) (by simp) (by simp) (by simp) (by simp)
    have n0 := cell_of HA4.out 0
    have y0 := free_of HA4.out 0
    have d0 := cell_of D4 0
    have n1 := cell_of HA4.out 1
    have y1 := free_of HA4.out 1
    have d1 := cell_of D4 1
    simp at n0 d0 n1 d1
    clear hw3 g3 g4 D3 D4
    have hne : ¬ w2.heap.size = w.heap.size := by omega
    cases st' with
    | ok q =>
      have HX : Hid (X = (x, (q : Int), 0)) := TY.out _ _ TD.out
      clear TY TN TD S2
      unfold endV
      go_wp2_with fail
      have tN : Turn [w.heap.size] w4 ((w4.setCell ⟨w.heap.size, 0, none⟩ (.slice ta x.types.length tc)).setCell ⟨w.heap.size, 1, none⟩ (.bool x.explicit)) := (((Turn.refl [w.heap.size] w4).set (Or.inl (by simp)) _).set (Or.inl (by simp)) _)
      refine bodyPost_ret (v := .tuple #[.agg #[.slice ta x.types.length tc, .bool x.explicit], .int .i64 q, .int .i64 0]) (by simp [results, Tryd.results26, go_sem, n0, n1]) rfl ?_
      rw [HX.out]
      exact ⟨[.slice ta x.types.length tc, .bool x.explicit], rfl, R4.out.turn tN (fun y hy => by simp at hy; subst hy; exact NoT.of HA4.out (by decide)) (fun y hy => by simp at hy; subst hy; exact NoT.of HA4.out (by decide)) (fun y hy => by simp at hy; subst hy; exact NoT.of HA4.out (by decide)) (fun y hy => by simp at hy; subst hy; exact NoT.of HA4.out (by decide)), ((G4.out.set (p := ⟨w.heap.size, 0, none⟩) (by simp) _).set (p := ⟨w.heap.size, 1, none⟩) (by simp) _)⟩
    | error y =>
      obtain ⟨f, e⟩ := y
      have he : e ≠ 0 := by obtain ⟨a, _, _, he⟩ := S2.out.st; exact he
      have d : ((e : Int) != 0) = true := by simp; exact he
      have HX : Hid (X = (⟨[], false⟩, (f : Int), (e : Int))) := TN.out _ _ _ TD.out
      clear TY TN TD S2
      unfold endV
      go_wp2_with fail
      refine bodyPost_ret (v := .tuple #[.agg #[.slice none 0 0, .bool false], .int .i64 f, .int .i64 e]) (by simp [results, Tryd.results26, go_sem, n0, n1]) rfl ?_
      rw [HX.out]
      exact ⟨[.slice none 0 0, .bool false], rfl, ⟨_, rfl, SubsQ.nil _ _⟩, ((G4.out.set (p := ⟨w.heap.size, 0, none⟩) (by simp) _).set (p := ⟨w.heap.size, 1, none⟩) (by simp) _)⟩
  · rw [topR_out hin]
    rw [decide_eq_false hin] at BG
    clear hin
    go_enter Tryd.func26, Tryd.ntmps26
    go_wp2_with fail
    refine BG.mono ?_
    rintro en W ⟨rfl, hW⟩
    have G0 : Hid (Grew w W) := by rw [hW]; exact ((Grew.refl w).alloc _).alloc _
    have A0 : W.heap[w.heap.size]? = some (.cells #[.slice none 0 0, .bool false] 70 (0, 0)) := by rw [hW]; exact heap_alloc (heap_alloc_last _ _) _
    have n0 := cell_of A0 0
    have y0 := free_of A0 0
    have n1 := cell_of A0 1
    have y1 := free_of A0 1
    simp at n0 n1
    clear A0 BG hW
    go_wp2_with fail
    refine bodyPost_ret (v := .tuple #[.agg #[.slice none 0 0, .bool false], .int .i64 0, .int .i64 1]) (by simp [results, Tryd.results26, go_sem, n0, n1]) rfl ?_
    exact ⟨[.slice none 0 0, .bool false], rfl, ⟨_, rfl, SubsQ.nil _ _⟩, ((G0.out.set (p := ⟨w.heap.size, 0, none⟩) (by simp) _).set (p := ⟨w.heap.size, 1, none⟩) (by simp) _)⟩
end Go.Proofs.YtgdhocdbcgmokaaDoor
