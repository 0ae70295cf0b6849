/-
  The program's rolledUp: what stands in the place of a number, value types, lists of numbers and of value types; no statement is proved here.
-/
import Derived.Test.YtojkonoffdlbpaaDoorClo
namespace Go.Proofs.YtojkonoffdlbpaaDoor
open Go.RowKit
set_option linter.unusedVariables false
set_option linter.unusedSimpArgs false

/- What stands in the place of a number: the id of a type ahead, or the place in the group. -/
def toldN (ids : List Int) (n : Int) : Int := if n < (ids.length : Int) then ids.getD n.toNat 0 else -100 - (n - (ids.length : Int))
def VT.sw (f : Int → Int) (x : VT) : VT := if x.num = 5 then (if 0 ≤ x.heap then ⟨5, x.null, f x.heap⟩ else x) else ⟨x.num, false, 0⟩
def FT.sw (f : Int → Int) (x : FT) : FT := ⟨x.ty.sw f, x.mut_⟩
def CT.sw (f : Int → Int) (c : CT) : CT := if c.kind = 1 then ⟨c.kind, c.params.map (VT.sw f), c.results.map (VT.sw f), []⟩ else if c.kind = 2 ∨ c.kind = 3 then ⟨c.kind, [], [], c.fields.map (FT.sw f)⟩ else ⟨c.kind, [], [], []⟩
def SB.sw (f : Int → Int) (s : SB) : SB := ⟨s.final_, s.supers.map f, s.comp.sw f⟩
set_option maxRecDepth 100000 in
theorem told_low {w : World} {fb ib : Nat} {n first m : Int} {b o k c : Nat} (hf : w.cell? ⟨fb, 0, none⟩ = some (.int .i64 first)) (hi : w.cell? ⟨ib, 0, none⟩ = some (.slice (some ⟨b, o, none⟩) k c)) (hc : w.cell? ⟨b, o + n.toNat, none⟩ = some (.int .i64 m)) (h0 : 0 ≤ n) (h1 : n < first) (h2 : n.toNat < k) (h3 : k ≤ c) (h4 : n ≤ 1048576) :
    Calls Tryd.prog 56 #[.int .i64 n, .pointer (some ⟨fb, 0, none⟩), .pointer (some ⟨ib, 0, none⟩)] w fun e w' => e = .returned (.int .i64 m) ∧ Grew w w' := by
  obtain ⟨i, rfl⟩ : ∃ i : Nat, n = (i : Int) := ⟨n.toNat, by omega⟩
  simp only [Int.toNat_natCast] at hc h2
  have d1 : decide ((i : Int) < first) = true := by simpa using h1
  have d2 : decide (i < k) = true := by simpa using h2
  go_enter Tryd.func56, Tryd.ntmps56
  go_wp2_with fail
  go_ret
  all_goals exact ⟨rfl, by repeat (first | exact Grew.refl _ | apply Grew.drew | apply Grew.alloc)⟩
set_option maxRecDepth 100000 in
theorem told_own {w : World} {fb ib : Nat} {n first : Int} (hf : w.cell? ⟨fb, 0, none⟩ = some (.int .i64 first)) (h0 : 0 ≤ first) (h1 : first ≤ n) (h2 : n ≤ 1048576) :
    Calls Tryd.prog 56 #[.int .i64 n, .pointer (some ⟨fb, 0, none⟩), .pointer (some ⟨ib, 0, none⟩)] w fun e w' => e = .returned (.int .i64 (-100 - (n - first))) ∧ Grew w w' := by
  have d1 : decide (n < first) = false := by simp; omega
  go_enter Tryd.func56, Tryd.ntmps56
  go_wp2_with fail
  go_ret
  all_goals exact ⟨rfl, by repeat (first | exact Grew.refl _ | apply Grew.drew | apply Grew.alloc)⟩
def SWAP (k1 k2 : Value) : Value := .func (.func 56) #[] #[k1, k2]
/- The function that is handed on answers f, where D, in all worlds to come. -/
def Tells (w : World) (k1 k2 : Value) (f : Int → Int) (D : Int → Prop) : Prop :=
  ∀ w', Grew w w' → ∀ n, D n → Calls Tryd.prog 56 #[.int .i64 n, k1, k2] w' fun e w'' => e = .returned (.int .i64 (f n)) ∧ Grew w' w''
theorem Tells.grew {w w' : World} {k1 k2 : Value} {f : Int → Int} {D : Int → Prop} (h : Tells w k1 k2 f D) (g : Grew w w') : Tells w' k1 k2 f D := fun u k n hn => h u (g.trans k) n hn
set_option maxRecDepth 100000 in
theorem swappedVal_any {w : World} {k1 k2 : Value} {f : Int → Int} {D : Int → Prop} (h : Tells w k1 k2 f D) (x : VT) (hx : x.num = 5 → 0 ≤ x.heap → D x.heap) :
    Calls Tryd.prog 68 #[x.v, SWAP k1 k2] w fun en w' => en = .returned (x.sw f).v ∧ Grew w w' := by
  obtain ⟨n, nul, hp⟩ := x
  unfold VT.v VT.sw SWAP
  simp only at hx ⊢
  by_cases h5 : n = 5
  · subst h5
    rw [if_pos rfl]
    by_cases h0 : 0 ≤ hp
    · rw [if_pos h0]
      have d : decide (hp ≥ 0) = true := by simpa using h0
      have C : Hid (∀ w', Grew w w' → Calls Tryd.prog 56 #[.int .i64 hp, k1, k2] w' fun e w'' => e = .returned (.int .i64 (f hp)) ∧ Grew w' w'') := fun w' g => h w' g hp (hx rfl h0)
      generalize f hp = m at *
      clear hx h
      go_enter Tryd.func68, Tryd.ntmps68
      go_wp2_with fail
      refine (C.out _ (((Grew.refl w).alloc _).alloc _)).mono ?_
      rintro en w1 ⟨rfl, g1⟩
      have A0 : ((w.alloc (.cells #[.int .i64 5, .bool nul, .int .i64 hp] 68)).alloc (.cells #[.int .i64 0, .bool false, .int .i64 0] 68)).heap[w.heap.size]? = some (.cells #[.int .i64 5, .bool nul, .int .i64 hp] 68 (0, 0)) := heap_alloc (heap_alloc_last _ _) _
      have A1 : ((w.alloc (.cells #[.int .i64 5, .bool nul, .int .i64 hp] 68)).alloc (.cells #[.int .i64 0, .bool false, .int .i64 0] 68)).heap[w.heap.size + 1]? = some (.cells #[.int .i64 0, .bool false, .int .i64 0] 68 (0, 0)) := by
        have h1 : (w.alloc (.cells #[.int .i64 5, .bool nul, .int .i64 hp] 68)).heap.size = w.heap.size + 1 := alloc_size _ _
        rw [← h1]; exact heap_alloc_last _ _
      have B0 := g1.other A0
      have B1 := g1.other A1
      have hl0 := lt_of_obj B0
      have hl1 := lt_of_obj B1
      have c0 := cell_of B0 0
      have c1 := cell_of B0 1
      have c2 := cell_of B0 2
      have f0 := free_of B0 2
      have y0 := cell_of B1 0
      have y1 := cell_of B1 1
      have y2 := cell_of B1 2
      have z0 := free_of B1 0
      have z1 := free_of B1 1
      have z2 := free_of B1 2
      simp at c0 c1 c2 y0 y1 y2
      have G1 : Hid (Grew w w1) := (((Grew.refl w).alloc _).alloc _).trans g1
      have BB : Hid (w1.heap[w.heap.size + 1]? = some (.cells #[.int .i64 0, .bool false, .int .i64 0] 68 (0, 0))) := B1
      clear A0 A1 B0 B1 g1 C
      go_wp2_with fail
      have e0 := heap_other BB.out (p := ⟨w.heap.size, 2, none⟩) (by simp) (.int .i64 m)
      have e1 := heap_set e0 0 (.int .i64 5)
      have e2 := heap_set e1 1 (.bool nul)
      have e3 := heap_set e2 2 (.int .i64 m)
      have q0 := cell_of e1 0
      have q1 := cell_of e2 1
      have q2 := cell_of e3 2
      simp at q0 q1 q2
      refine bodyPost_ret (v := .agg #[.int .i64 5, .bool nul, .int .i64 m]) (by simp [results, Tryd.results68, go_sem, q0, q1, q2]) rfl ?_
      exact ⟨rfl, (((G1.out.set (by simp) _).set (by simp) _).set (by simp) _).set (by simp) _⟩
    · rw [if_neg h0]
      have d : decide (hp ≥ 0) = false := by simp; omega
      clear hx h
      go_enter Tryd.func68, Tryd.ntmps68
      go_wp2_with fail
      refine bodyPost_ret (v := .agg #[.int .i64 5, .bool nul, .int .i64 hp]) (by simp [results, Tryd.results68, go_sem]) rfl ?_
      exact ⟨rfl, ((Grew.refl w).alloc _).alloc _⟩
  · rw [if_neg h5]
    have d : (n != 5) = true := by simpa using h5
    clear hx h
    go_enter Tryd.func68, Tryd.ntmps68
    go_wp2_with fail
    refine bodyPost_ret (v := .agg #[.int .i64 n, .bool false, .int .i64 0]) (by simp [results, Tryd.results68, go_sem]) rfl ?_
    exact ⟨rfl, ((Grew.refl w).alloc _).alloc _⟩
/- A box that holds the function. -/
def BX (w : World) (b : Nat) (t : TypeId) (v : Value) : Prop := w.heap[b]? = some (.cells #[v] t (0, 0))
theorem BX.grew {w w' : World} {b : Nat} {t : TypeId} {v : Value} (h : BX w b t v) (g : Grew w w') : BX w' b t v := g.other h
set_option maxRecDepth 100000 in
theorem swc1_any {w : World} {k1 k2 : Value} {f : Int → Int} {D : Int → Prop} {sb : Nat} (h : Tells w k1 k2 f D) (hb : BX w sb 99 (SWAP k1 k2)) (x : VT) (hx : x.num = 5 → 0 ≤ x.heap → D x.heap) :
    Calls Tryd.prog 67 #[x.v, .pointer (some ⟨sb, 0, none⟩)] w fun en w' => en = .returned (x.sw f).v ∧ Grew w w' := by
  have C : Hid (∀ w', Grew w w' → Calls Tryd.prog 68 #[x.v, SWAP k1 k2] w' fun en w'' => en = .returned (x.sw f).v ∧ Grew w' w'') := fun w' g => swappedVal_any (h.grew g) x hx
  have c0 := cell_of hb 0
  have hlt := lt_of_obj hb
  simp at c0
  generalize x.sw f = y at *
  unfold VT.v SWAP at *
  clear h hb hx
  go_enter Tryd.func67, Tryd.ntmps67
  go_wp2_with fail
  refine (C.out _ (((Grew.refl w).alloc _).alloc _)).mono ?_
  rintro en w1 ⟨rfl, g1⟩
  have BB : Hid (w1.heap[w.heap.size + 1]? = some (.cells #[.int .i64 0, .bool false, .int .i64 0] 68 (0, 0))) := by
    refine g1.other ?_
    rw [← alloc_size w (.cells #[.int .i64 x.num, .bool x.null, .int .i64 x.heap] 68)]
    exact heap_alloc_last _ _
  have G1 : Hid (Grew w w1) := (((Grew.refl w).alloc _).alloc _).trans g1
  have y0 := cell_of BB.out 0
  have y1 := cell_of BB.out 1
  have y2 := cell_of BB.out 2
  have z0 := free_of BB.out 0
  have z1 := free_of BB.out 1
  have z2 := free_of BB.out 2
  simp at y0 y1 y2
  have hl1 := lt_of_obj BB.out
  clear g1 C
  go_wp2_with fail
  have e1 := heap_set BB.out 0 (.int .i64 y.num)
  have e2 := heap_set e1 1 (.bool y.null)
  have e3 := heap_set e2 2 (.int .i64 y.heap)
  have q0 := cell_of e1 0
  have q1 := cell_of e2 1
  have q2 := cell_of e3 2
  simp at q0 q1 q2
  refine bodyPost_ret (v := .agg #[.int .i64 y.num, .bool y.null, .int .i64 y.heap]) (by simp [results, Tryd.results67, go_sem, q0, q1, q2]) rfl ?_
  exact ⟨rfl, ((G1.out.set (by simp) _).set (by simp) _).set (by simp) _⟩
def VALC (sb : Nat) : Value := .func (.func 67) #[] #[.pointer (some ⟨sb, 0, none⟩)]
set_option maxRecDepth 100000 in
theorem swc2_any {w : World} {k1 k2 : Value} {f : Int → Int} {D : Int → Prop} {sb vb : Nat} (h : Tells w k1 k2 f D) (hb : BX w sb 99 (SWAP k1 k2)) (hv : BX w vb 111 (VALC sb)) (x : FT) (hx : x.ty.num = 5 → 0 ≤ x.ty.heap → D x.ty.heap) :
    Calls Tryd.prog 69 #[x.v, .pointer (some ⟨vb, 0, none⟩)] w fun en w' => en = .returned (x.sw f).v ∧ Grew w w' := by
  have C : Hid (∀ w', Grew w w' → Calls Tryd.prog 67 #[x.ty.v, .pointer (some ⟨sb, 0, none⟩)] w' fun en w'' => en = .returned (x.ty.sw f).v ∧ Grew w' w'') := fun w' g => swc1_any (h.grew g) (hb.grew g) x.ty hx
  have c0 := cell_of hv 0
  have hlt := lt_of_obj hv
  simp at c0
  unfold FT.sw
  generalize x.ty.sw f = y at *
  obtain ⟨⟨tn, tz, th⟩, mu⟩ := x
  unfold VT.v VALC at *
  unfold FT.v
  simp only at *
  have HV := hv
  clear h hb hx
  go_enter Tryd.func69, Tryd.ntmps69
  go_wp2_with fail
  generalize hW : ((w.alloc (.cells #[.int .i64 tn, .bool tz, .int .i64 th, .bool mu] 70)).alloc (.cells #[.int .i64 0, .bool false, .int .i64 0, .bool false] 70)) = W
  have G0 : Hid (Grew w W) := by rw [← hW]; exact ((Grew.refl w).alloc _).alloc _
  obtain ⟨A0, A1⟩ : Hid (W.heap[w.heap.size]? = some (fobj ⟨⟨tn, tz, th⟩, mu⟩)) ∧ Hid (W.heap[w.heap.size + 1]? = some (fobj ⟨⟨0, false, 0⟩, false⟩)) := by
    rw [← hW]
    refine ⟨heap_alloc (heap_alloc_last _ _) _, ?_⟩
    rw [← alloc_size w (.cells #[.int .i64 tn, .bool tz, .int .i64 th, .bool mu] 70)]
    exact heap_alloc_last _ _
  clear hW
  have v0 := cell_of (G0.out.other HV) 0
  have k0 := cell_of A0.out 0
  have k1 := cell_of A0.out 1
  have k2 := cell_of A0.out 2
  have k3 := cell_of A0.out 3
  simp at v0 k0 k1 k2 k3
  have hk : w.heap.size < W.heap.size := lt_of_obj A0.out
  clear HV hv c0
  have nv : ¬ vb = w.heap.size + 1 := by omega
  have nv' : ¬ w.heap.size + 1 = vb := by omega
  go_region_held3 (fun w' => w'.cell? ⟨vb, 0, none⟩ = some (.func (.func 67) #[] #[.pointer (some ⟨sb, 0, none⟩)]) ∧ w'.cell? ⟨w.heap.size, 0, none⟩ = some (.int .i64 tn) ∧ w'.cell? ⟨w.heap.size, 1, none⟩ = some (.bool tz) ∧ w'.cell? ⟨w.heap.size, 2, none⟩ = some (.int .i64 th) ∧ w'.cell? ⟨w.heap.size, 3, none⟩ = some (.bool mu)) (go_keep)
    (first
     | (go_at_call 67
        refine (C.out _ (by first | exact G0.out | exact G0.out.drew | exact G0.out.drewN _)).mono ?_
        rintro en w6 ⟨rfl, g6⟩
        have g6' : Grew W w6 := (by first | exact g6 | exact ((Grew.refl _).drew).trans g6 | exact ((Grew.refl _).drewN _).trans g6)
        have G6 : Hid (Grew W w6) := g6'
        have j0 := cell_grew k0 g6'
        have j1 := cell_grew k1 g6'
        have j2 := cell_grew k2 g6'
        have j3 := cell_grew k3 g6'
        have jv := cell_grew v0 g6'
        have B1 := g6'.other A1.out
        unfold fobj at B1
        simp only at B1
        have y0 := cell_of B1 0
        have y1 := cell_of B1 1
        have y2 := cell_of B1 2
        have y3 := cell_of B1 3
        have z0 := free_of B1 0
        have z1 := free_of B1 1
        have z2 := free_of B1 2
        have z3 := free_of B1 3
        simp at y0 y1 y2 y3
        have hl1 := lt_of_obj B1
        have BB : Hid (w6.heap[w.heap.size + 1]? = some (.cells #[.int .i64 0, .bool false, .int .i64 0, .bool false] 70 (0, 0))) := B1
        clear g6 g6' B1))
  all_goals go_wp2_with fail
  all_goals
    have e1 := heap_set BB.out 0 (.int .i64 y.num)
    have e2 := heap_set e1 1 (.bool y.null)
    have e3 := heap_set e2 2 (.int .i64 y.heap)
    have e4 := heap_set e3 3 (.bool mu)
    have q0 := cell_of e1 0
    have q1 := cell_of e2 1
    have q2 := cell_of e3 2
    have q3 := cell_of e4 3
    simp at q0 q1 q2 q3
    refine bodyPost_ret (v := .agg #[.int .i64 y.num, .bool y.null, .int .i64 y.heap, .bool mu]) (by simp [results, Tryd.results69, go_sem, q0, q1, q2, q3]) rfl ?_
    exact ⟨rfl, ((((G0.out.trans G6.out).set (by simp) _).set (by simp) _).set (by simp) _).set (by simp) _⟩
end Go.Proofs.YtojkonoffdlbpaaDoor
