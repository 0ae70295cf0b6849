/-
  The program's each: lists of numbers, of value types, of fields; no statement is proved here.
-/
import Derived.Test.YtnmbniojejckpaaGreatDoorClo
set_option maxRecDepth 100000
set_option maxHeartbeats 8000000
namespace Go.Proofs.YtnmbniojejckpaaGreatDoor
open Go.RowKit
set_option linter.unusedVariables false
set_option linter.unusedSimpArgs false
/- What stands in the place of a number: the id of a type ahead, or the place in the group. -/
def toldN (ids : List Int) (n : Int) : Int := if n < (ids.length : Int) then ids.getD n.toNat 0 else -100 - (n - (ids.length : Int))
def VT.sw (f : Int → Int) (x : VT) : VT := if x.num = 5 then (if 0 ≤ x.heap then ⟨5, x.null, f x.heap⟩ else x) else ⟨x.num, false, 0⟩
def FT.sw (f : Int → Int) (x : FT) : FT := ⟨x.ty.sw f, x.mut_⟩
def CT.sw (f : Int → Int) (c : CT) : CT := if c.kind = 1 then ⟨c.kind, c.params.map (VT.sw f), c.results.map (VT.sw f), []⟩ else if c.kind = 2 ∨ c.kind = 3 then ⟨c.kind, [], [], c.fields.map (FT.sw f)⟩ else ⟨c.kind, [], [], []⟩
def SB.sw (f : Int → Int) (s : SB) : SB := ⟨s.final_, s.supers.map f, s.comp.sw f⟩
theorem told_low {w : World} {fb ib : Nat} {n first m : Int} {b o k c : Nat} (hf : w.cell? ⟨fb, 0, none⟩ = some (.int .i64 first)) (hi : w.cell? ⟨ib, 0, none⟩ = some (.slice (some ⟨b, o, none⟩) k c)) (hc : w.cell? ⟨b, o + n.toNat, none⟩ = some (.int .i64 m)) (h0 : 0 ≤ n) (h1 : n < first) (h2 : n.toNat < k) (h3 : k ≤ c) (h4 : n ≤ 1048576) :
    Calls Tryz.prog 158 #[.int .i64 n, .pointer (some ⟨fb, 0, none⟩), .pointer (some ⟨ib, 0, none⟩)] w fun e w' => e = .returned (.int .i64 m) ∧ Grew w w' := by
  obtain ⟨i, rfl⟩ : ∃ i : Nat, n = (i : Int) := ⟨n.toNat, by omega⟩
  simp only [Int.toNat_natCast] at hc h2
  have d1 : decide ((i : Int) < first) = true := by simpa using h1
  have d2 : decide (i < k) = true := by simpa using h2
  go_enter Tryz.func158, Tryz.ntmps158
  go_wp2_with fail
  go_ret
  all_goals exact ⟨rfl, by repeat (first | exact Grew.refl _ | apply Grew.drew | apply Grew.alloc)⟩
theorem told_own {w : World} {fb ib : Nat} {n first : Int} (hf : w.cell? ⟨fb, 0, none⟩ = some (.int .i64 first)) (h0 : 0 ≤ first) (h1 : first ≤ n) (h2 : n ≤ 1048576) :
    Calls Tryz.prog 158 #[.int .i64 n, .pointer (some ⟨fb, 0, none⟩), .pointer (some ⟨ib, 0, none⟩)] w fun e w' => e = .returned (.int .i64 (-100 - (n - first))) ∧ Grew w w' := by
  have d1 : decide (n < first) = false := by simp; omega
  go_enter Tryz.func158, Tryz.ntmps158
  go_wp2_with fail
  go_ret
  all_goals exact ⟨rfl, by repeat (first | exact Grew.refl _ | apply Grew.drew | apply Grew.alloc)⟩
def SWAP (k1 k2 : Value) : Value := .func (.func 158) #[] #[k1, k2]
/- The function that is handed on answers f, where D, in all worlds to come. -/
def Tells (w : World) (k1 k2 : Value) (f : Int → Int) (D : Int → Prop) : Prop :=
  ∀ w', Grew w w' → ∀ n, D n → Calls Tryz.prog 158 #[.int .i64 n, k1, k2] w' fun e w'' => e = .returned (.int .i64 (f n)) ∧ Grew w' w''
theorem Tells.grew {w w' : World} {k1 k2 : Value} {f : Int → Int} {D : Int → Prop} (h : Tells w k1 k2 f D) (g : Grew w w') : Tells w' k1 k2 f D := fun u k n hn => h u (g.trans k) n hn
theorem swappedVal_any {w : World} {k1 k2 : Value} {f : Int → Int} {D : Int → Prop} (h : Tells w k1 k2 f D) (x : VT) (hx : x.num = 5 → 0 ≤ x.heap → D x.heap) :
    Calls Tryz.prog 170 #[x.v, SWAP k1 k2] w fun en w' => en = .returned (x.sw f).v ∧ Grew w w' := by
  obtain ⟨n, nul, hp⟩ := x
  unfold VT.v VT.sw SWAP
  simp only at hx ⊢
  by_cases h5 : n = 5
  · subst h5
    rw [if_pos rfl]
    by_cases h0 : 0 ≤ hp
    · rw [if_pos h0]
      have d : decide (hp ≥ 0) = true := by simpa using h0
      have C : Hid (∀ w', Grew w w' → Calls Tryz.prog 158 #[.int .i64 hp, k1, k2] w' fun e w'' => e = .returned (.int .i64 (f hp)) ∧ Grew w' w'') := fun w' g => h w' g hp (hx rfl h0)
      generalize f hp = m at *
      clear hx h
      go_enter Tryz.func170, Tryz.ntmps170
      go_wp2_with fail
      refine (C.out _ (((Grew.refl w).alloc _).alloc _)).mono ?_
      rintro en w1 ⟨rfl, g1⟩
      have A0 : ((w.alloc (.cells #[.int .i64 5, .bool nul, .int .i64 hp] 46)).alloc (.cells #[.int .i64 0, .bool false, .int .i64 0] 46)).heap[w.heap.size]? = some (.cells #[.int .i64 5, .bool nul, .int .i64 hp] 46 (0, 0)) := heap_alloc (heap_alloc_last _ _) _
      have A1 : ((w.alloc (.cells #[.int .i64 5, .bool nul, .int .i64 hp] 46)).alloc (.cells #[.int .i64 0, .bool false, .int .i64 0] 46)).heap[w.heap.size + 1]? = some (.cells #[.int .i64 0, .bool false, .int .i64 0] 46 (0, 0)) := by
        have h1 : (w.alloc (.cells #[.int .i64 5, .bool nul, .int .i64 hp] 46)).heap.size = w.heap.size + 1 := alloc_size _ _
        rw [← h1]; exact heap_alloc_last _ _
      have B0 := g1.other A0
      have B1 := g1.other A1
      have hl0 := lt_of_obj B0
      have hl1 := lt_of_obj B1
      have c0 := cell_of B0 0
      have c1 := cell_of B0 1
      have c2 := cell_of B0 2
      have f0 := free_of B0 2
      have y0 := cell_of B1 0
      have y1 := cell_of B1 1
      have y2 := cell_of B1 2
      have z0 := free_of B1 0
      have z1 := free_of B1 1
      have z2 := free_of B1 2
      simp at c0 c1 c2 y0 y1 y2
      have G1 : Hid (Grew w w1) := (((Grew.refl w).alloc _).alloc _).trans g1
      have BB : Hid (w1.heap[w.heap.size + 1]? = some (.cells #[.int .i64 0, .bool false, .int .i64 0] 46 (0, 0))) := B1
      clear A0 A1 B0 B1 g1 C
      go_wp2_with fail
      have e0 := heap_other BB.out (p := ⟨w.heap.size, 2, none⟩) (by simp) (.int .i64 m)
      have e1 := heap_set e0 0 (.int .i64 5)
      have e2 := heap_set e1 1 (.bool nul)
      have e3 := heap_set e2 2 (.int .i64 m)
      have q0 := cell_of e1 0
      have q1 := cell_of e2 1
      have q2 := cell_of e3 2
      simp at q0 q1 q2
      refine bodyPost_ret (v := .agg #[.int .i64 5, .bool nul, .int .i64 m]) (by simp [results, Tryz.results170, go_sem, q0, q1, q2]) rfl ?_
      exact ⟨rfl, (((G1.out.set (by simp) _).set (by simp) _).set (by simp) _).set (by simp) _⟩
    · rw [if_neg h0]
      have d : decide (hp ≥ 0) = false := by simp; omega
      clear hx h
      go_enter Tryz.func170, Tryz.ntmps170
      go_wp2_with fail
      refine bodyPost_ret (v := .agg #[.int .i64 5, .bool nul, .int .i64 hp]) (by simp [results, Tryz.results170, go_sem]) rfl ?_
      exact ⟨rfl, ((Grew.refl w).alloc _).alloc _⟩
  · rw [if_neg h5]
    have d : (n != 5) = true := by simpa using h5
    clear hx h
    go_enter Tryz.func170, Tryz.ntmps170
    go_wp2_with fail
    refine bodyPost_ret (v := .agg #[.int .i64 n, .bool false, .int .i64 0]) (by simp [results, Tryz.results170, go_sem]) rfl ?_
    exact ⟨rfl, ((Grew.refl w).alloc _).alloc _⟩
/- A box that holds the function. -/
def BX (w : World) (b : Nat) (t : TypeId) (v : Value) : Prop := w.heap[b]? = some (.cells #[v] t (0, 0))
theorem BX.grew {w w' : World} {b : Nat} {t : TypeId} {v : Value} (h : BX w b t v) (g : Grew w w') : BX w' b t v := g.other h
theorem swc1_any {w : World} {k1 k2 : Value} {f : Int → Int} {D : Int → Prop} {sb : Nat} (h : Tells w k1 k2 f D) (hb : BX w sb 219 (SWAP k1 k2)) (x : VT) (hx : x.num = 5 → 0 ≤ x.heap → D x.heap) :
    Calls Tryz.prog 169 #[x.v, .pointer (some ⟨sb, 0, none⟩)] w fun en w' => en = .returned (x.sw f).v ∧ Grew w w' := by
  have C : Hid (∀ w', Grew w w' → Calls Tryz.prog 170 #[x.v, SWAP k1 k2] w' fun en w'' => en = .returned (x.sw f).v ∧ Grew w' w'') := fun w' g => swappedVal_any (h.grew g) x hx
  have c0 := cell_of hb 0
  have hlt := lt_of_obj hb
  simp at c0
  generalize x.sw f = y at *
  unfold VT.v SWAP at *
  clear h hb hx
  go_enter Tryz.func169, Tryz.ntmps169
  go_wp2_with fail
  refine (C.out _ (((Grew.refl w).alloc _).alloc _)).mono ?_
  rintro en w1 ⟨rfl, g1⟩
  have BB : Hid (w1.heap[w.heap.size + 1]? = some (.cells #[.int .i64 0, .bool false, .int .i64 0] 46 (0, 0))) := by
    refine g1.other ?_
    rw [← alloc_size w (.cells #[.int .i64 x.num, .bool x.null, .int .i64 x.heap] 46)]
    exact heap_alloc_last _ _
  have G1 : Hid (Grew w w1) := (((Grew.refl w).alloc _).alloc _).trans g1
  have y0 := cell_of BB.out 0
  have y1 := cell_of BB.out 1
  have y2 := cell_of BB.out 2
  have z0 := free_of BB.out 0
  have z1 := free_of BB.out 1
  have z2 := free_of BB.out 2
  simp at y0 y1 y2
  have hl1 := lt_of_obj BB.out
  clear g1 C
  go_wp2_with fail
  have e1 := heap_set BB.out 0 (.int .i64 y.num)
  have e2 := heap_set e1 1 (.bool y.null)
  have e3 := heap_set e2 2 (.int .i64 y.heap)
  have q0 := cell_of e1 0
  have q1 := cell_of e2 1
  have q2 := cell_of e3 2
  simp at q0 q1 q2
  refine bodyPost_ret (v := .agg #[.int .i64 y.num, .bool y.null, .int .i64 y.heap]) (by simp [results, Tryz.results169, go_sem, q0, q1, q2]) rfl ?_
  exact ⟨rfl, ((G1.out.set (by simp) _).set (by simp) _).set (by simp) _⟩
def VALC (sb : Nat) : Value := .func (.func 169) #[] #[.pointer (some ⟨sb, 0, none⟩)]
theorem swc2_any {w : World} {k1 k2 : Value} {f : Int → Int} {D : Int → Prop} {sb vb : Nat} (h : Tells w k1 k2 f D) (hb : BX w sb 219 (SWAP k1 k2)) (hv : BX w vb 91 (VALC sb)) (x : FT) (hx : x.ty.num = 5 → 0 ≤ x.ty.heap → D x.ty.heap) :
    Calls Tryz.prog 171 #[x.v, .pointer (some ⟨vb, 0, none⟩)] w fun en w' => en = .returned (x.sw f).v ∧ Grew w w' := by
  have C : Hid (∀ w', Grew w w' → Calls Tryz.prog 169 #[x.ty.v, .pointer (some ⟨sb, 0, none⟩)] w' fun en w'' => en = .returned (x.ty.sw f).v ∧ Grew w' w'') := fun w' g => swc1_any (h.grew g) (hb.grew g) x.ty hx
  have c0 := cell_of hv 0
  have hlt := lt_of_obj hv
  simp at c0
  unfold FT.sw
  generalize x.ty.sw f = y at *
  obtain ⟨⟨tn, tz, th⟩, mu⟩ := x
  unfold VT.v VALC at *
  unfold FT.v
  simp only at *
  have HV := hv
  clear h hb hx
  go_enter Tryz.func171, Tryz.ntmps171
  go_wp2_with fail
  generalize hW : ((w.alloc (.cells #[.int .i64 tn, .bool tz, .int .i64 th, .bool mu] 112)).alloc (.cells #[.int .i64 0, .bool false, .int .i64 0, .bool false] 112)) = W
  have G0 : Hid (Grew w W) := by rw [← hW]; exact ((Grew.refl w).alloc _).alloc _
  obtain ⟨A0, A1⟩ : Hid (W.heap[w.heap.size]? = some (fobj ⟨⟨tn, tz, th⟩, mu⟩)) ∧ Hid (W.heap[w.heap.size + 1]? = some (fobj ⟨⟨0, false, 0⟩, false⟩)) := by
    rw [← hW]
    refine ⟨heap_alloc (heap_alloc_last _ _) _, ?_⟩
    rw [← alloc_size w (.cells #[.int .i64 tn, .bool tz, .int .i64 th, .bool mu] 112)]
    exact heap_alloc_last _ _
  clear hW
  have v0 := cell_of (G0.out.other HV) 0
  have k0 := cell_of A0.out 0
  have k1 := cell_of A0.out 1
  have k2 := cell_of A0.out 2
  have k3 := cell_of A0.out 3
  simp at v0 k0 k1 k2 k3
  have hk : w.heap.size < W.heap.size := lt_of_obj A0.out
  clear HV hv c0
  have nv : ¬ vb = w.heap.size + 1 := by omega
  have nv' : ¬ w.heap.size + 1 = vb := by omega
  go_region_held3 (fun w' => w'.cell? ⟨vb, 0, none⟩ = some (.func (.func 169) #[] #[.pointer (some ⟨sb, 0, none⟩)]) ∧ w'.cell? ⟨w.heap.size, 0, none⟩ = some (.int .i64 tn) ∧ w'.cell? ⟨w.heap.size, 1, none⟩ = some (.bool tz) ∧ w'.cell? ⟨w.heap.size, 2, none⟩ = some (.int .i64 th) ∧ w'.cell? ⟨w.heap.size, 3, none⟩ = some (.bool mu)) (go_keep)
    (first
     | (go_at_call 169
        refine (C.out _ (by first | exact G0.out | exact G0.out.drew | exact G0.out.drewN _)).mono ?_
        rintro en w6 ⟨rfl, g6⟩
        have g6' : Grew W w6 := (by first | exact g6 | exact ((Grew.refl _).drew).trans g6 | exact ((Grew.refl _).drewN _).trans g6)
        have G6 : Hid (Grew W w6) := g6'
        have j0 := cell_grew k0 g6'
        have j1 := cell_grew k1 g6'
        have j2 := cell_grew k2 g6'
        have j3 := cell_grew k3 g6'
        have jv := cell_grew v0 g6'
        have B1 := g6'.other A1.out
        unfold fobj at B1
        simp only at B1
        have y0 := cell_of B1 0
        have y1 := cell_of B1 1
        have y2 := cell_of B1 2
        have y3 := cell_of B1 3
        have z0 := free_of B1 0
        have z1 := free_of B1 1
        have z2 := free_of B1 2
        have z3 := free_of B1 3
        simp at y0 y1 y2 y3
        have hl1 := lt_of_obj B1
        have BB : Hid (w6.heap[w.heap.size + 1]? = some (.cells #[.int .i64 0, .bool false, .int .i64 0, .bool false] 112 (0, 0))) := B1
        clear g6 g6' B1))
  all_goals go_wp2_with fail
  all_goals
    have e1 := heap_set BB.out 0 (.int .i64 y.num)
    have e2 := heap_set e1 1 (.bool y.null)
    have e3 := heap_set e2 2 (.int .i64 y.heap)
    have e4 := heap_set e3 3 (.bool mu)
    have q0 := cell_of e1 0
    have q1 := cell_of e2 1
    have q2 := cell_of e3 2
    have q3 := cell_of e4 3
    simp at q0 q1 q2 q3
    refine bodyPost_ret (v := .agg #[.int .i64 y.num, .bool y.null, .int .i64 y.heap, .bool mu]) (by simp [results, Tryz.results171, go_sem, q0, q1, q2, q3]) rfl ?_
    exact ⟨rfl, ((((G0.out.trans G6.out).set (by simp) _).set (by simp) _).set (by simp) _).set (by simp) _⟩
theorem eachI_any {w : World} {v : Value} {l : List Int} {k1 k2 : Value} {f : Int → Int} {D : Int → Prop} (h : LI w v l) (hl : l.length ≤ 1048576) (ht : Tells w k1 k2 f D) (hd : ∀ x ∈ l, D x) :
    Calls Tryz.prog 174 #[v, SWAP k1 k2] w fun en w' => ∃ u, en = .returned u ∧ RowI w.heap.size w' u (l.map f) ∧ Grew w w' := by
  obtain ⟨a, cap, hv, hcap, hmax⟩ := h.one
  subst hv
  have CC : Hid (∀ x ∈ l, ∀ w', Grew w w' → Calls Tryz.prog 158 #[.int .i64 x, k1, k2] w' fun e w'' => e = .returned (.int .i64 (f x)) ∧ Grew w' w'') := fun x hx w' g => ht w' g x (hd x hx)
  have H : Hid (LI w (.slice a l.length cap) l) := h
  clear h ht hd
  unfold SWAP
  go_enter Tryz.func174, Tryz.ntmps174
  go_wp2_with fail
  go_loopw [5, 10] (fun v_ i_ w' => ∃ (i : Nat) (m : List Int), i_ = .int .i64 i ∧ i ≤ l.length ∧ Hid (m = (l.take i).map f) ∧ m.length ≤ i ∧ Hid (RowI w.heap.size w' v_ m) ∧ Hid (Grew w w')) (fun _ i_ _ => l.length - (intOf i_).toNat)
  case atStart => exact ⟨0, [], rfl, Nat.zero_le _, rfl, by simp, RowI.nil _ _, Grew.refl _⟩
  case round =>
    obtain ⟨i, m, rfl, hi, HM, hml, R, G⟩ := hrel
    obtain ⟨w0, hw0⟩ : ∃ w0, w0 = wr := ⟨_, rfl⟩
    rw [← hw0] at G R ⊢
    clear hw0
    obtain ⟨ra, rc, hra, hrc, hrm, _⟩ := row_max R.out
    subst hra
    by_cases hlt : i < l.length
    · obtain ⟨x, hx⟩ : ∃ x, l[i]? = some x := ⟨_, List.getElem?_eq_getElem hlt⟩
      obtain ⟨b, off, ha, hc', hE⟩ := (H.out.grew G.out).get (by omega)
      subst ha
      have c0 := hE i x hx
      unfold EI at c0
      rw [Nat.mul_one] at c0
      clear hE
      have d1 : decide ((i : Int) < (l.length : Int)) = true := by simp; omega
      have d2 : decide (i < l.length) = true := by simp; omega
      have HS : Hid ((l.take (i + 1)).map f = m ++ [f x]) := (by rw [HM.out, take_snoc hx, List.map_append]; rfl : (l.take (i + 1)).map f = m ++ [f x])
      have C := CC.out x (List.mem_of_getElem? hx)
      obtain ⟨y, hy⟩ : ∃ y, f x = y := ⟨_, rfl⟩
      rw [hy] at C HS
      clear hy
      have C' : Hid (∀ w', Grew w w' → Calls Tryz.prog 158 #[.int .i64 x, k1, k2] w' fun e w'' => e = .returned (.int .i64 y) ∧ Grew w' w'') := C
      clear hx C
      go_wp2_with fail
      refine (C'.out _ G.out).mono ?_
      rintro en w1 ⟨rfl, g1⟩
      have gg : Grew w0 w1 := g1
      have R1 : Hid (RowI w.heap.size w1 (.slice ra m.length rc) m) := R.out.grew gg
      have G1 : Hid (Grew w w1) := G.out.trans gg
      have hgs := G1.out.2
      clear gg g1 C' R c0
      go_wp2_with (at_builtin; refine wp_app1 (v := .slice ra m.length rc) (n := m.length) (cs := m.flatMap ic1) (B := w.heap.size) rfl _ _ 23 3 1 8 _ Tryz.underlying23 infoI rfl (by decide) (by decide) rfl w.heap.size rfl rfl R1.out hgs rfl (by simp [Value.oneCell']) (by omega) ?_; intro v3 w3 hO3 hT3 hG3)
      go_roundw
      case rel => exact ⟨i + 1, m ++ [(y : Int)], by go_num, by omega, HS.out.symm, by simp; omega, RowI.snoc (a := y) hO3, hT3.grew' G1.out (Nat.le_refl _) (Nat.le_refl _)⟩
      case measure => simp [intOf]; omega
    · have d1 : decide ((i : Int) < (l.length : Int)) = false := by simp; omega
      have hin : l.take i = l := List.take_of_length_le (by omega)
      have e : l.map f = m := by rw [HM.out, hin]
      go_wp2_with fail
      go_ret
      exact ⟨_, rfl, by rw [e]; exact R.out, G.out⟩
theorem eachV_any {w : World} {v : Value} {l : List VT} {k1 k2 : Value} {f : Int → Int} {D : Int → Prop} {sb : Nat} (h : LV w v l) (hl : l.length ≤ 1048576) (ht : Tells w k1 k2 f D) (hb : BX w sb 219 (SWAP k1 k2)) (hd : ∀ x ∈ l, x.num = 5 → 0 ≤ x.heap → D x.heap) :
    Calls Tryz.prog 172 #[v, VALC sb] w fun en w' => ∃ u, en = .returned u ∧ RowV w.heap.size w' u (l.map (VT.sw f)) ∧ Grew w w' := by
  obtain ⟨a, cap, hv, hcap, hmax⟩ := h.one
  subst hv
  have CC : Hid (∀ x ∈ l, ∀ w', Grew w w' → Calls Tryz.prog 169 #[x.v, .pointer (some ⟨sb, 0, none⟩)] w' fun en w'' => en = .returned (x.sw f).v ∧ Grew w' w'') := fun x hx w' g => swc1_any (ht.grew g) (hb.grew g) x (hd x hx)
  have H : Hid (LV w (.slice a l.length cap) l) := h
  clear h ht hd hb
  unfold VALC
  go_enter Tryz.func172, Tryz.ntmps172
  go_wp2_with fail
  go_loopw [5, 10] (fun v_ i_ w' => ∃ (i : Nat) (m : List VT), i_ = .int .i64 i ∧ i ≤ l.length ∧ Hid (m = (l.take i).map (VT.sw f)) ∧ m.length ≤ i ∧ Hid (RowV w.heap.size w' v_ m) ∧ Hid (Grew w w')) (fun _ i_ _ => l.length - (intOf i_).toNat)
  case atStart => exact ⟨0, [], rfl, Nat.zero_le _, rfl, by simp, RowV.nil _ _, Grew.refl _⟩
  case round =>
    obtain ⟨i, m, rfl, hi, HM, hml, R, G⟩ := hrel
    obtain ⟨w0, hw0⟩ : ∃ w0, w0 = wr := ⟨_, rfl⟩
    rw [← hw0] at G R ⊢
    clear hw0
    obtain ⟨ra, rc, hra, hrc, hrm, _⟩ := row_max R.out
    subst hra
    by_cases hlt : i < l.length
    · obtain ⟨x, hx⟩ : ∃ x, l[i]? = some x := ⟨_, List.getElem?_eq_getElem hlt⟩
      obtain ⟨b, off, ha, hc', hE⟩ := (H.out.grew G.out).get (by omega)
      subst ha
      obtain ⟨c0, c1, c2⟩ := hE i x hx
      clear hE
      have d1 : decide ((i : Int) < (l.length : Int)) = true := by simp; omega
      have d2 : decide (i < l.length) = true := by simp; omega
      have HS : Hid ((l.take (i + 1)).map (VT.sw f) = m ++ [x.sw f]) := (by rw [HM.out, take_snoc hx, List.map_append]; rfl : (l.take (i + 1)).map (VT.sw f) = m ++ [x.sw f])
      have C := CC.out x (List.mem_of_getElem? hx)
      unfold VT.v at C
      generalize x.sw f = y at *
      obtain ⟨tn, tz, th⟩ := x
      obtain ⟨yn, yz, yh⟩ := y
      simp only at c0 c1 c2 C
      have C' : Hid (∀ w', Grew w w' → Calls Tryz.prog 169 #[.agg #[.int .i64 tn, .bool tz, .int .i64 th], .pointer (some ⟨sb, 0, none⟩)] w' fun en w'' => en = .returned (.agg #[.int .i64 yn, .bool yz, .int .i64 yh]) ∧ Grew w' w'') := C
      clear hx C
      go_wp2_with fail
      refine (C'.out _ (G.out.alloc _)).mono ?_
      rintro en w1 ⟨rfl, g1⟩
      have gg : Grew w0 w1 := ((Grew.refl w0).alloc _).trans g1
      have R1 : Hid (RowV w.heap.size w1 (.slice ra m.length rc) m) := R.out.grew gg
      have G1 : Hid (Grew w w1) := G.out.trans gg
      have hgs := G1.out.2
      clear gg g1 C' R c0 c1 c2
      go_wp2_with (at_builtin; refine wp_app1 (v := .slice ra m.length rc) (n := m.length) (cs := m.flatMap VT.c) (B := w.heap.size) rfl _ _ 27 46 3 24 _ Tryz.underlying27 infoV rfl (by decide) (by decide) rfl w.heap.size rfl rfl R1.out hgs rfl (by simp [Value.oneCell']) (by omega) ?_; intro v3 w3 hO3 hT3 hG3)
      go_roundw
      case rel => exact ⟨i + 1, m ++ [(⟨yn, yz, yh⟩ : VT)], by go_num, by omega, HS.out.symm, by simp; omega, RowV.snoc (a := ⟨yn, yz, yh⟩) hO3, hT3.grew' G1.out (Nat.le_refl _) (Nat.le_refl _)⟩
      case measure => simp [intOf]; omega
    · have d1 : decide ((i : Int) < (l.length : Int)) = false := by simp; omega
      have hin : l.take i = l := List.take_of_length_le (by omega)
      have e : l.map (VT.sw f) = m := by rw [HM.out, hin]
      go_wp2_with fail
      go_ret
      exact ⟨_, rfl, by rw [e]; exact R.out, G.out⟩
def FLDC (vb : Nat) : Value := .func (.func 171) #[] #[.pointer (some ⟨vb, 0, none⟩)]
theorem eachF_any {w : World} {v : Value} {l : List FT} {k1 k2 : Value} {f : Int → Int} {D : Int → Prop} {sb vb : Nat} (h : LF w v l) (hl : l.length ≤ 1048576) (ht : Tells w k1 k2 f D) (hb : BX w sb 219 (SWAP k1 k2)) (hv : BX w vb 91 (VALC sb)) (hd : ∀ x ∈ l, x.ty.num = 5 → 0 ≤ x.ty.heap → D x.ty.heap) :
    Calls Tryz.prog 173 #[v, FLDC vb] w fun en w' => ∃ u, en = .returned u ∧ RowF w.heap.size w' u (l.map (FT.sw f)) ∧ Grew w w' := by
  obtain ⟨a, cap, hv, hcap, hmax⟩ := h.one
  subst hv
  have CC : Hid (∀ x ∈ l, ∀ w', Grew w w' → Calls Tryz.prog 171 #[x.v, .pointer (some ⟨vb, 0, none⟩)] w' fun en w'' => en = .returned (x.sw f).v ∧ Grew w' w'') := fun x hx w' g => swc2_any (ht.grew g) (hb.grew g) (hv.grew g) x (hd x hx)
  have H : Hid (LF w (.slice a l.length cap) l) := h
  clear h ht hd hb hv
  unfold FLDC
  go_enter Tryz.func173, Tryz.ntmps173
  go_wp2_with fail
  go_loopw [5, 10] (fun v_ i_ w' => ∃ (i : Nat) (m : List FT), i_ = .int .i64 i ∧ i ≤ l.length ∧ Hid (m = (l.take i).map (FT.sw f)) ∧ m.length ≤ i ∧ Hid (RowF w.heap.size w' v_ m) ∧ Hid (Grew w w')) (fun _ i_ _ => l.length - (intOf i_).toNat)
  case atStart => exact ⟨0, [], rfl, Nat.zero_le _, rfl, by simp, RowF.nil _ _, Grew.refl _⟩
  case round =>
    obtain ⟨i, m, rfl, hi, HM, hml, R, G⟩ := hrel
    obtain ⟨w0, hw0⟩ : ∃ w0, w0 = wr := ⟨_, rfl⟩
    rw [← hw0] at G R ⊢
    clear hw0
    obtain ⟨ra, rc, hra, hrc, hrm, _⟩ := row_max R.out
    subst hra
    by_cases hlt : i < l.length
    · obtain ⟨x, hx⟩ : ∃ x, l[i]? = some x := ⟨_, List.getElem?_eq_getElem hlt⟩
      obtain ⟨b, off, ha, hc', hE⟩ := (H.out.grew G.out).get (by omega)
      subst ha
      obtain ⟨⟨c0, c1, c2⟩, c3⟩ := hE i x hx
      clear hE
      have d1 : decide ((i : Int) < (l.length : Int)) = true := by simp; omega
      have d2 : decide (i < l.length) = true := by simp; omega
      have HS : Hid ((l.take (i + 1)).map (FT.sw f) = m ++ [x.sw f]) := (by rw [HM.out, take_snoc hx, List.map_append]; rfl : (l.take (i + 1)).map (FT.sw f) = m ++ [x.sw f])
      have C := CC.out x (List.mem_of_getElem? hx)
      unfold FT.v at C
      generalize x.sw f = y at *
      obtain ⟨⟨tn, tz, th⟩, tm⟩ := x
      obtain ⟨⟨yn, yz, yh⟩, ym⟩ := y
      simp only at c0 c1 c2 c3 C
      have C' : Hid (∀ w', Grew w w' → Calls Tryz.prog 171 #[.agg #[.int .i64 tn, .bool tz, .int .i64 th, .bool tm], .pointer (some ⟨vb, 0, none⟩)] w' fun en w'' => en = .returned (.agg #[.int .i64 yn, .bool yz, .int .i64 yh, .bool ym]) ∧ Grew w' w'') := C
      clear hx C
      go_wp2_with fail
      refine (C'.out _ (G.out.alloc _)).mono ?_
      rintro en w1 ⟨rfl, g1⟩
      have gg : Grew w0 w1 := ((Grew.refl w0).alloc _).trans g1
      have R1 : Hid (RowF w.heap.size w1 (.slice ra m.length rc) m) := R.out.grew gg
      have G1 : Hid (Grew w w1) := G.out.trans gg
      have hgs := G1.out.2
      clear gg g1 C' R c0 c1 c2 c3
      go_wp2_with (at_builtin; refine wp_app1 (v := .slice ra m.length rc) (n := m.length) (cs := m.flatMap FT.c) (B := w.heap.size) rfl _ _ 104 112 4 32 _ Tryz.underlying104 infoF rfl (by decide) (by decide) rfl w.heap.size rfl rfl R1.out hgs rfl (by simp [Value.oneCell']) (by omega) ?_; intro v3 w3 hO3 hT3 hG3)
      go_roundw
      case rel => exact ⟨i + 1, m ++ [(⟨⟨yn, yz, yh⟩, ym⟩ : FT)], by go_num, by omega, HS.out.symm, by simp; omega, RowF.snoc (a := ⟨⟨yn, yz, yh⟩, ym⟩) hO3, hT3.grew' G1.out (Nat.le_refl _) (Nat.le_refl _)⟩
      case measure => simp [intOf]; omega
    · have d1 : decide ((i : Int) < (l.length : Int)) = false := by simp; omega
      have hin : l.take i = l := List.take_of_length_le (by omega)
      have e : l.map (FT.sw f) = m := by rw [HM.out, hin]
      go_wp2_with fail
      go_ret
      exact ⟨_, rfl, by rw [e]; exact R.out, G.out⟩
end Go.Proofs.YtnmbniojejckpaaGreatDoor
