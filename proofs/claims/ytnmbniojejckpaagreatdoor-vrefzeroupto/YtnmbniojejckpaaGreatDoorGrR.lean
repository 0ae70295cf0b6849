/-
  Lists of types and of groups as cells; no statement is proved here.
-/
import Derived.Test.YtnmbniojejckpaaGreatDoorCp
import Derived.Deep.RegionHeld3
import Derived.Test.YtnmbniojejckpaaGreatDoorPiL
import Derived.WalkMore
import Derived.Test.YtnmbniojejckpaaGreatDoorCpC
set_option maxRecDepth 100000
set_option maxHeartbeats 8000000
namespace Go.Proofs.YtnmbniojejckpaaGreatDoor
open Go.RowKit
set_option linter.unusedVariables false
set_option linter.unusedSimpArgs false
def knownB (T : List RT) (v : VT) : Bool := if v.num = 5 then (if v.heap < 0 then decide (-12 ≤ v.heap) else decide (v.heap < (cntT T : Int))) else true
theorem known_any {X : World} {tv : Value} {T : List RT} (hT : LR X tv T) (hm : T.length ≤ 1048576) (hc : cntT T ≤ 1048576) (n h : Int) (z : Bool) :
    Calls Tryz.prog 96 #[tv, .agg #[.int .i64 n, .bool z, .int .i64 h]] X fun en w' => en = .returned (.bool (knownB T ⟨n, z, h⟩)) ∧ Grew X w' := by
  have CC : Hid (∀ Y, Grew X Y → Calls Tryz.prog 121 #[tv] Y fun en w' => en = .returned (.int .i64 (cntT T : Int)) ∧ Grew Y w') := fun Y g => count_any (hT.grew g) hm hc
  obtain ⟨ta, tc, htv, _⟩ := hT.one
  subst htv
  clear hT hm hc
  by_cases h5 : n = 5
  · subst h5
    by_cases h0 : h < 0
    · have d1 : decide (h < 0) = true := by simpa using h0
      have e : knownB T ⟨5, z, h⟩ = decide (-12 ≤ h) := by simp [knownB, h0]
      rw [e]
      clear e CC
      go_enter Tryz.func96, Tryz.ntmps96
      go_wp2_with fail
      go_ret
      exact ⟨rfl, by repeat (first | with_reducible exact Grew.refl _ | refine Grew.alloc ?_ _ | refine Grew.drewN ?_ _ | refine Grew.drew ?_)⟩
    · have d1 : decide (h < 0) = false := by simpa using h0
      have e : knownB T ⟨5, z, h⟩ = decide (h < (cntT T : Int)) := by simp [knownB, h0]
      rw [e]
      clear e
      go_enter Tryz.func96, Tryz.ntmps96
      go_wp2_with fail
      have B2 : (X.alloc (.cells #[.int .i64 5, .bool z, .int .i64 h] 46)).heap[X.heap.size]? = some (.cells #[.int .i64 5, .bool z, .int .i64 h] 46 (0, 0)) := heap_alloc_last _ _
      have gg2 : Grew X (X.alloc (.cells #[.int .i64 5, .bool z, .int .i64 h] 46)) := (Grew.refl _).alloc _
      have HB2 : Hid _ := B2
      have HG2 : Hid (Grew X (X.alloc (.cells #[.int .i64 5, .bool z, .int .i64 h] 46))) := gg2
      clear B2 gg2
      generalize X.alloc (.cells #[.int .i64 5, .bool z, .int .i64 h] 46) = w2 at *
      generalize X.heap.size = q at *
      have y2 := cell_of HB2.out 2
      simp at y2
      go_region_held3 (fun w' => w'.cell? ⟨q, 2, none⟩ = some (.int .i64 h)) (go_keep) (first
      | (with_reducible refine (CC.out _ ?gr).mono ?_
         case gr => exact (by repeat (first | with_reducible exact HG2.out | with_reducible exact Grew.refl _ | refine Grew.alloc ?_ _ | refine Grew.drewN ?_ _ | refine Grew.drew ?_))
         rintro en w5 ⟨rfl, g5⟩
         have gg5 : Grew w2 w5 := Grew.trans (by repeat (first | with_reducible exact Grew.refl _ | refine Grew.alloc ?_ _ | refine Grew.drewN ?_ _ | refine Grew.drew ?_)) g5
         have HG5 : Hid (Grew X w5) := HG2.out.trans gg5
         have t2 := cell_grew y2 gg5
         clear g5 gg5)
      | fail)
      all_goals
        go_wp2_with fail
        go_ret
        exact ⟨rfl, (by repeat (first | with_reducible exact HG5.out | refine Grew.alloc ?_ _ | refine Grew.drewN ?_ _ | refine Grew.drew ?_))⟩
  · have d1 : (n == 5) = false := by simpa using h5
    have e : knownB T ⟨n, z, h⟩ = true := by simp [knownB, h5]
    rw [e]
    clear e CC
    go_enter Tryz.func96, Tryz.ntmps96
    go_wp2_with fail
    go_ret
    exact ⟨rfl, by repeat (first | with_reducible exact Grew.refl _ | refine Grew.alloc ?_ _ | refine Grew.drewN ?_ _ | refine Grew.drew ?_)⟩
variable {G : Value → Prop}
/- Rows of error numbers are as they were. -/
def KTk (w w' : World) : Prop := ∀ (k : Nat) (cs : Array Value) (f : Nat × Nat), w.heap[k]? = some (.cells cs 32 f) → w'.heap[k]? = some (.cells cs 32 f)
theorem KTk.refl (w : World) : KTk w w := fun _ _ _ h => h
theorem KTk.trans {a b c : World} (h : KTk a b) (k : KTk b c) : KTk a c := fun x cs f hx => k x cs f (h x cs f hx)
theorem zeroMk {B : Nat} {w : World} {C : Nat} {lv fv ov qv : Value} {lo : List LO} {fr : List Int} {ops : List VT} {fs : List FV} (h : CHK G B w C lv fv ov qv lo fr ops fs) :
    Calls Tryz.prog 49 #[.pointer (some ⟨C, 0, none⟩)] w fun en w' => en = .returned (.bool false) ∧ w' = w := by
  have c0 := h.c0
  clear h
  go_enter Tryz.func49, Tryz.ntmps49
  go_wp2_with fail
  go_ret
  exact ⟨rfl, rfl⟩
theorem openM {B : Nat} {w : World} {C : Nat} {lv fv ov qv : Value} {lo : List LO} {fr : List Int} {ops : List VT} {fs : List FV} (h : CHK G B w C lv fv ov qv lo fr ops fs) (hf : 0 < fs.length) :
    Calls Tryz.prog 97 #[.pointer (some ⟨C, 0, none⟩)] w fun en w' => en = .returned (.int .i64 0) ∧ w' = w := by
  have C1 := zeroMk h
  have C2 := heightF_any h
  have d1 : ((fs.length : Int) == 0) = false := by rw [beq_eq_false_iff_ne]; omega
  clear h
  go_enter Tryz.func97, Tryz.ntmps97
  go_wp2_with fail
  refine C1.mono ?_
  rintro en w1 ⟨rfl, hw⟩
  obtain rfl := hw.symm
  go_wp2_with fail
  refine C2.mono ?_
  rintro en w1 ⟨rfl, hw⟩
  obtain rfl := hw.symm
  go_wp2_with fail
  go_ret
  exact ⟨rfl, rfl⟩
/- A block of six cells behind a call. -/
theorem fresh6 {w w1 : World} {t : TypeId} {a b c d e f : Value} (g : Grew (w.alloc (.cells #[a, b, c, d, e, f] t)) w1) :
    Grew w w1 ∧ w.heap.size < w1.heap.size ∧ w1.heap[w.heap.size]? = some (.cells #[a, b, c, d, e, f] t (0, 0)) := by
  have B1 := (g.turn []).other (heap_alloc_last w (.cells #[a, b, c, d, e, f] t)) (by simp)
  exact ⟨((Grew.refl w).alloc _).trans g, lt_of_obj B1, B1⟩
theorem six {w : World} {b : Nat} {x0 x1 x2 x3 x4 x5 : Value} {t : TypeId} (h : w.heap[b]? = some (.cells #[x0, x1, x2, x3, x4, x5] t (0, 0))) :
    (w.cell? ⟨b, 0, none⟩ = some x0 ∧ w.cell? ⟨b, 1, none⟩ = some x1 ∧ w.cell? ⟨b, 2, none⟩ = some x2 ∧ w.cell? ⟨b, 3, none⟩ = some x3 ∧ w.cell? ⟨b, 4, none⟩ = some x4 ∧ w.cell? ⟨b, 5, none⟩ = some x5) ∧
    (w.frozen? ⟨b, 0, none⟩ = false ∧ w.frozen? ⟨b, 1, none⟩ = false ∧ w.frozen? ⟨b, 2, none⟩ = false ∧ w.frozen? ⟨b, 3, none⟩ = false ∧ w.frozen? ⟨b, 4, none⟩ = false ∧ w.frozen? ⟨b, 5, none⟩ = false) := by
  refine ⟨⟨?_, ?_, ?_, ?_, ?_, ?_⟩, free_of h 0, free_of h 1, free_of h 2, free_of h 3, free_of h 4, free_of h 5⟩
  all_goals rw [cell_of h]; rfl
theorem FV.isAgg (x : FV) : x.v = .agg #[.int .i64 x.op, x.inn, x.out, .int .i64 x.height, .int .i64 x.fresh, .bool x.dead] := rfl
theorem topM {B : Nat} {w : World} {C : Nat} {lv fv ov : Value} {lo : List LO} {fr : List Int} {ops : List VT} {fs : List FV} {x : FV} {g c : Nat} (h : CHK G B w C lv fv ov (.slice (some ⟨g, 0, none⟩) (fs.length + 1) c) lo fr ops (fs ++ [x])) :
    Calls Tryz.prog 99 #[.pointer (some ⟨C, 0, none⟩)] w fun en w' => en = .returned x.v ∧ Grew w w' := by
  have C2 : Hid (∀ W, Grew w W → Calls Tryz.prog 122 #[.pointer (some ⟨C, 6, none⟩)] W fun en w' => en = .returned (.int .i64 (((fs ++ [x]).length : Nat) : Int)) ∧ w' = W) := fun W gg => heightF_any (h.grew gg)
  have C3 : Hid (∀ W, Grew w W → Calls Tryz.prog 123 #[.pointer (some ⟨C, 6, none⟩), .int .i64 0] W fun en w' => en = .returned (.pointer (some ⟨g, fs.length * 6, none⟩)) ∧ Grew W w') := fun W gg => nthF_any (h.grew gg)
  obtain ⟨g', c', hv, hle, hmx, _, ⟨cur, hcur⟩, hcells⟩ := h.rfs.last
  injection hv with e1 _ _
  injection e1 with e1
  injection e1 with e1 _ _
  subst e1
  have k0 := hcells 0 (by decide)
  have k1 := hcells 1 (by decide)
  have k2 := hcells 2 (by decide)
  have k3 := hcells 3 (by decide)
  have k4 := hcells 4 (by decide)
  have k5 := hcells 5 (by decide)
  obtain ⟨⟨ia, il, ic, hi⟩, ⟨oa, ol, oc, ho⟩⟩ := h.sl x (by simp)
  obtain ⟨op, inn, out, hh, ff, dd⟩ := x
  simp only at hi ho
  subst hi ho
  simp [FV.c] at k0 k1 k2 k3 k4 k5
  have hlen : ((fs ++ [(⟨op, .slice ia il ic, .slice oa ol oc, hh, ff, dd⟩ : FV)]).length : Int) = (fs.length : Int) + 1 := by simp
  simp only [List.length_append, List.length_cons, List.length_nil, Nat.zero_add, Int.natCast_add, Int.natCast_one] at C2
  have d1 : (((fs.length : Int) + 1) == 0) = false := by rw [beq_eq_false_iff_ne]; omega
  have hgl := lt_of_obj hcur
  have d2 : ¬ ((fs.length : Int) + 1 = 0) := by omega
  rw [FV.isAgg]
  simp only
  clear h hcells hcur hlen
  go_enter Tryz.func99, Tryz.ntmps99
  go_wp2_with fail
  refine (C2.out _ ((Grew.refl w).alloc _)).mono ?_
  rintro en w1 ⟨rfl, hw⟩
  obtain rfl := hw.symm
  go_wp2_with fail
  refine (C3.out _ ((Grew.refl w).alloc _)).mono ?_
  rintro en w2 ⟨rfl, g2⟩
  obtain ⟨gg, hl2, B2⟩ := fresh6 g2
  obtain ⟨⟨n0, n1, n2, n3, n4, n5⟩, z0, z1, z2, z3, z4, z5⟩ := six B2
  have G2 : Hid (Grew w w2) := gg
  replace k0 := cell_grew k0 gg
  replace k1 := cell_grew k1 gg
  replace k2 := cell_grew k2 gg
  replace k3 := cell_grew k3 gg
  replace k4 := cell_grew k4 gg
  replace k5 := cell_grew k5 gg
  clear g2 gg C2 C3 B2
  go_wp2_with fail
  refine bodyPost_ret (v := .agg #[.int .i64 op, .slice ia il ic, .slice oa ol oc, .int .i64 (hh : Int), .int .i64 (ff : Int), .bool dd]) (by simp [results, Tryz.results99, go_sem, n0, n1, n2, n3, n4, n5]) rfl ?_
  exact ⟨rfl, ((((((G2.out.set (p := ⟨w.heap.size, 0, none⟩) (Nat.le_refl _) _).set (p := ⟨w.heap.size, 1, none⟩) (Nat.le_refl _) _).set (p := ⟨w.heap.size, 2, none⟩) (Nat.le_refl _) _).set (p := ⟨w.heap.size, 3, none⟩) (Nat.le_refl _) _).set (p := ⟨w.heap.size, 4, none⟩) (Nat.le_refl _) _).set (p := ⟨w.heap.size, 5, none⟩) (Nat.le_refl _) _)⟩
theorem lst_rawP {α : Type} {k : Nat} {E : World → Nat → Nat → α → Prop} (P : α → List Value → Prop) (hk : 0 < k) {w : World} {v : Value} {l : List α} (h : Lst k E w v l)
    (hE : ∀ b o x, E w b o x → ∃ c : List Value, c.length = k ∧ (∀ u ∈ c, u.oneCell' = true) ∧ (∀ j, j < k → w.cell? ⟨b, o + j, none⟩ = c[j]?) ∧ P x c) :
    ∃ f : Nat → List Value, (∀ i, (f i).length = k) ∧ Raw k w v l.length ((List.range l.length).flatMap f) ∧ ∀ i x, l[i]? = some x → P x (f i) := by
  obtain ⟨a, cap, hv, hl, hm, hz, h3⟩ := h
  rcases h3 with rfl | ⟨b, off, ha, hc⟩
  · refine ⟨fun _ => List.replicate k (.int .i64 0), fun _ => by simp, ⟨by simp, by simp, a, cap, hv, hl, hm, hz, Or.inl rfl⟩, fun i x hx => by simp at hx⟩
  · have ex : ∀ i, ∃ c : List Value, c.length = k ∧ (∀ u ∈ c, u.oneCell' = true) ∧ ∀ x, l[i]? = some x → (∀ j, j < k → w.cell? ⟨b, off + i * k + j, none⟩ = c[j]?) ∧ P x c := by
      intro i
      cases hx : l[i]? with
      | none => exact ⟨List.replicate k (.int .i64 0), by simp, fun u hu => by rw [List.eq_of_mem_replicate hu]; rfl, fun x hx => by cases hx⟩
      | some x =>
        obtain ⟨c, c1, c2, c3, c4⟩ := hE _ _ _ (hc i x hx)
        exact ⟨c, c1, c2, fun y hy => by injection hy with hy; subst hy; exact ⟨c3, c4⟩⟩
    refine ⟨fun i => Classical.choose (ex i), fun i => (Classical.choose_spec (ex i)).1, ?_, fun i x hx => ((Classical.choose_spec (ex i)).2.2 x hx).2⟩
    have key : Lst k (fun w b o i => o = off + i * k → b = b → ∀ j, j < k → w.cell? ⟨b, o + j, none⟩ = (Classical.choose (ex i))[j]?) w v (List.range l.length) := by
      refine ⟨a, cap, by simpa using hv, by simpa using hl, hm, hz, Or.inr ⟨b, off, ha, fun i x hx => ?_⟩⟩
      obtain ⟨hlt, he⟩ := List.getElem?_eq_some_iff.1 hx
      simp only [List.getElem_range] at he
      subst he
      simp only [List.length_range] at hlt
      intro _ _ j hj
      exact ((Classical.choose_spec (ex i)).2.2 _ (List.getElem?_eq_getElem hlt)).1 j hj
    have hlen : ((List.range l.length).flatMap fun i => Classical.choose (ex i)).length = l.length * k := by
      have : ∀ L : List Nat, (L.flatMap fun i => Classical.choose (ex i)).length = L.length * k := by
        intro L
        induction L with
        | nil => simp
        | cons y L ih => rw [List.flatMap_cons, List.length_append, (Classical.choose_spec (ex y)).1, ih, List.length_cons, Nat.succ_mul]; omega
      rw [this]; simp
    refine ⟨hlen, ?_, a, cap, hv, hl, hm, hz, Or.inr ⟨b, off, ha, fun j u hj => ?_⟩⟩
    · intro c hc'
      obtain ⟨y, _, hy⟩ := List.mem_flatMap.1 hc'
      exact (Classical.choose_spec (ex y)).2.1 c hy
    · have hjl := (List.getElem?_eq_some_iff.1 hj).1
      rw [hlen] at hjl
      have hq : j / k < l.length := Nat.div_lt_of_lt_mul (by rw [Nat.mul_comm]; exact hjl)
      have hm' : j % k < k := Nat.mod_lt _ hk
      have e3 : j / k * k + j % k = j := by have := Nat.div_add_mod j k; rw [Nat.mul_comm] at this; omega
      have hr : (List.range l.length)[j / k]? = some (j / k) := by rw [List.getElem?_range hq]
      have h5 := flat_at (fun i => Classical.choose (ex i)) k (fun i => (Classical.choose_spec (ex i)).1) (List.range l.length) (j / k) (j / k) (j % k) hr hm'
      rw [e3] at h5
      have h6 := ((Classical.choose_spec (ex (j / k))).2.2 _ (List.getElem?_eq_getElem hq)).1 (j % k) hm'
      rw [show off + j / k * k + j % k = off + j by omega] at h6
      rw [h6, ← h5]
      exact hj
theorem slice_one {α : Type} {k : Nat} {E : World → Nat → Nat → α → Prop} {w : World} {v : Value} {l : List α} (h : Lst k E w v l) : v.oneCell' = true := by
  obtain ⟨a, cap, rfl, _⟩ := h.one
  cases a <;> rfl
/- What the cells of one type hold. -/
def CellS (w : World) (x : SB) (c : List Value) : Prop := ∃ sv pv rv fv, SubR w x sv pv rv fv ∧ c = [.bool x.final_, sv, .int .i64 x.comp.kind, pv, rv, fv]
def CellR (w : World) (x : RT) (c : List Value) : Prop := ∃ tv, LS w tv x.types ∧ c = [tv, .bool x.explicit]
theorem LS.raw {w : World} {v : Value} {l : List SB} (h : LS w v l) : ∃ f : Nat → List Value, (∀ i, (f i).length = 6) ∧ Raw 6 w v l.length ((List.range l.length).flatMap f) ∧ ∀ i x, l[i]? = some x → CellS w x (f i) := by
  refine lst_rawP (E := ES) (CellS w) (by decide) h ?_
  rintro b o x ⟨sv, pv, rv, fv, hs, h0, h1, h2, h3, h4, h5⟩
  refine ⟨[.bool x.final_, sv, .int .i64 x.comp.kind, pv, rv, fv], rfl, ?_, ?_, sv, pv, rv, fv, hs, rfl⟩
  · intro u hu
    simp only [List.mem_cons, List.not_mem_nil, or_false] at hu
    rcases hu with rfl | rfl | rfl | rfl | rfl | rfl
    · rfl
    · exact slice_one hs.1
    · rfl
    · exact slice_one hs.2.1
    · exact slice_one hs.2.2.1
    · exact slice_one hs.2.2.2
  · intro j hj
    match j, hj with
    | 0, _ => exact h0
    | 1, _ => exact h1
    | 2, _ => exact h2
    | 3, _ => exact h3
    | 4, _ => exact h4
    | 5, _ => exact h5
theorem LR.raw {w : World} {v : Value} {l : List RT} (h : LR w v l) : ∃ f : Nat → List Value, (∀ i, (f i).length = 2) ∧ Raw 2 w v l.length ((List.range l.length).flatMap f) ∧ ∀ i x, l[i]? = some x → CellR w x (f i) := by
  refine lst_rawP (E := ER) (CellR w) (by decide) h ?_
  rintro b o x ⟨tv, hs, h0, h1⟩
  refine ⟨[tv, .bool x.explicit], rfl, ?_, ?_, tv, hs, rfl⟩
  · intro u hu
    simp only [List.mem_cons, List.not_mem_nil, or_false] at hu
    rcases hu with rfl | rfl
    · exact slice_one hs
    · rfl
  · intro j hj
    match j, hj with
    | 0, _ => exact h0
    | 1, _ => exact h1
/- The row of copied types: those from the i-th on are as they were. -/
def RestS (w wr : World) (R : Nat) (l : List SB) (i : Nat) : Prop := ∃ cur : Array Value, wr.heap[R]? = some (.cells cur 108 (0, 0)) ∧ cur.size = l.length * 6 ∧ ∀ j x, i ≤ j → l[j]? = some x → ∃ sv pv rv fv, SubR w x sv pv rv fv ∧ cur[j * 6 + 1]? = some sv ∧ cur[j * 6 + 3]? = some pv ∧ cur[j * 6 + 4]? = some rv ∧ cur[j * 6 + 5]? = some fv
def RestR (w wr : World) (R : Nat) (l : List RT) (i : Nat) : Prop := ∃ cur : Array Value, wr.heap[R]? = some (.cells cur 102 (0, 0)) ∧ cur.size = l.length * 2 ∧ ∀ j x, i ≤ j → l[j]? = some x → ∃ tv, LS w tv x.types ∧ cur[j * 2]? = some tv
theorem RestS.of {w wr : World} {R : Nat} {l : List SB} {f : Nat → List Value} (hf : ∀ i, (f i).length = 6) (hc : ∀ i x, l[i]? = some x → CellS w x (f i)) (h : wr.heap[R]? = some (.cells ((List.range l.length).flatMap f).toArray 108 (0, 0))) : RestS w wr R l 0 := by
  have hat : ∀ i j, i < l.length → j < 6 → ((List.range l.length).flatMap f).toArray[i * 6 + j]? = (f i)[j]? := fun i j hi hj => by
    rw [List.getElem?_toArray]
    exact flat_at f 6 hf _ i i j (by rw [List.getElem?_range hi]) hj
  have hlen : ((List.range l.length).flatMap f).length = l.length * 6 := by
    have : ∀ L : List Nat, (L.flatMap f).length = L.length * 6 := by
      intro L
      induction L with
      | nil => simp
      | cons y L ih => rw [List.flatMap_cons, List.length_append, hf, ih, List.length_cons, Nat.succ_mul]; omega
    rw [this]; simp
  refine ⟨_, h, by simpa using hlen, fun j x _ hx => ?_⟩
  have hj := (List.getElem?_eq_some_iff.1 hx).1
  obtain ⟨sv, pv, rv, fv, hs, he⟩ := hc j x hx
  exact ⟨sv, pv, rv, fv, hs, by rw [hat j 1 hj (by decide), he]; rfl, by rw [hat j 3 hj (by decide), he]; rfl, by rw [hat j 4 hj (by decide), he]; rfl, by rw [hat j 5 hj (by decide), he]; rfl⟩
theorem RestR.of {w wr : World} {R : Nat} {l : List RT} {f : Nat → List Value} (hf : ∀ i, (f i).length = 2) (hc : ∀ i x, l[i]? = some x → CellR w x (f i)) (h : wr.heap[R]? = some (.cells ((List.range l.length).flatMap f).toArray 102 (0, 0))) : RestR w wr R l 0 := by
  have hat : ∀ i j, i < l.length → j < 2 → ((List.range l.length).flatMap f).toArray[i * 2 + j]? = (f i)[j]? := fun i j hi hj => by
    rw [List.getElem?_toArray]
    exact flat_at f 2 hf _ i i j (by rw [List.getElem?_range hi]) hj
  have hlen : ((List.range l.length).flatMap f).length = l.length * 2 := by
    have : ∀ L : List Nat, (L.flatMap f).length = L.length * 2 := by
      intro L
      induction L with
      | nil => simp
      | cons y L ih => rw [List.flatMap_cons, List.length_append, hf, ih, List.length_cons, Nat.succ_mul]; omega
    rw [this]; simp
  refine ⟨_, h, by simpa using hlen, fun j x _ hx => ?_⟩
  have hj := (List.getElem?_eq_some_iff.1 hx).1
  obtain ⟨tv, hs, he⟩ := hc j x hx
  refine ⟨tv, hs, ?_⟩
  have := hat j 0 hj (by decide)
  rw [Nat.add_zero] at this
  rw [this, he]; rfl
theorem RestS.grew {w wr wr' : World} {R : Nat} {l : List SB} {i : Nat} (h : RestS w wr R l i) (g : Grew wr wr') : RestS w wr' R l i := by
  obtain ⟨cur, h0, h1, h2⟩ := h
  exact ⟨cur, (g.turn []).other h0 (by simp), h1, h2⟩
theorem RestR.grew {w wr wr' : World} {R : Nat} {l : List RT} {i : Nat} (h : RestR w wr R l i) (g : Grew wr wr') : RestR w wr' R l i := by
  obtain ⟨cur, h0, h1, h2⟩ := h
  exact ⟨cur, (g.turn []).other h0 (by simp), h1, h2⟩
theorem RestS.le {w wr : World} {R : Nat} {l : List SB} {i i' : Nat} (h : RestS w wr R l i) (hi : i ≤ i') : RestS w wr R l i' := by
  obtain ⟨cur, h0, h1, h2⟩ := h
  exact ⟨cur, h0, h1, fun j x hj => h2 j x (by omega)⟩
theorem RestS.set {w wr : World} {R : Nat} {l : List SB} {i : Nat} (h : RestS w wr R l (i + 1)) {q : Nat} (hq : q < i * 6 + 6) (u : Value) : RestS w (wr.setCell ⟨R, q, none⟩ u) R l (i + 1) := by
  obtain ⟨cur, h0, h1, h2⟩ := h
  refine ⟨_, heap_set h0 _ _, by simpa using h1, fun j x hj hx => ?_⟩
  obtain ⟨sv, pv, rv, fv, hs, a, b, c, d⟩ := h2 j x hj hx
  refine ⟨sv, pv, rv, fv, hs, ?_, ?_, ?_, ?_⟩ <;> rw [Array.getElem?_setIfInBounds_ne (by omega)] <;> assumption
theorem RestS.other {w wr : World} {R : Nat} {l : List SB} {i : Nat} (h : RestS w wr R l i) {p : Addr} (hp : R ≠ p.block) (u : Value) : RestS w (wr.setCell p u) R l i := by
  obtain ⟨cur, h0, h1, h2⟩ := h
  exact ⟨cur, heap_other h0 hp u, h1, h2⟩
theorem RestR.set {w wr : World} {R : Nat} {l : List RT} {i : Nat} (h : RestR w wr R l i) {q : Nat} (hq : q < i * 2 + 2) (u : Value) : RestR w (wr.setCell ⟨R, q, none⟩ u) R l (i + 1) := by
  obtain ⟨cur, h0, h1, h2⟩ := h
  refine ⟨_, heap_set h0 _ _, by simpa using h1, fun j x hj hx => ?_⟩
  obtain ⟨tv, hs, a⟩ := h2 j x (by omega) hx
  refine ⟨tv, hs, ?_⟩
  rw [Array.getElem?_setIfInBounds_ne (by omega)]
  exact a
theorem RestR.other {w wr : World} {R : Nat} {l : List RT} {i : Nat} (h : RestR w wr R l i) {p : Addr} (hp : R ≠ p.block) (u : Value) : RestR w (wr.setCell p u) R l i := by
  obtain ⟨cur, h0, h1, h2⟩ := h
  exact ⟨cur, heap_other h0 hp u, h1, h2⟩
end Go.Proofs.YtnmbniojejckpaaGreatDoor
