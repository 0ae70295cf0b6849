/-
  The checker's piles: push, cut, height, nth; no statement is proved here.
-/
import Derived.Test.YtkghplkmfpnhdaaGreatDoorChk
import Derived.Test.YtkghplkmfpnhdaaGreatDoorStL
namespace Go.Proofs.YtkghplkmfpnhdaaGreatDoor
open Go.RowKit
set_option linter.unusedVariables false
set_option linter.unusedSimpArgs false

/- An append of a whole list. -/
set_option maxRecDepth 100000 in
theorem wp_appR {ops : Array Oper} {rest : List Oper} {o : Oper} {a : Act} {w : World} {Q : Exit → Act → World → Prop} (hgd : o.guard = none) (s x : Operand) (t e : TypeId) (k bytes : Nat) (z : Value)
    (hu : Tryz.prog.underlying t = some (.slice e)) (hi : (Tryz.prog.info? e).map (fun i => (i.zero, i.size, i.bytes)) = some (some z, k, bytes)) (hz : z.cells.size = k) (hk : 0 < k) (hbt : bytes ≤ 1000)
    (ho : o.op = .call { callee := .builtin .append, args := #[s, x], argTypes := #[t, t] }) {B : Nat} {v u : Value} {n m : Nat} {cs ds : List Value}
    (hs : a.eval s = v) (hx : a.eval x = u) (hh : w.ownsRow B e k v n cs) (hr : Raw k w u m ds) (hB : B ≤ w.heap.size) (hn : n + m ≤ 8388608)
    (h : ∀ v' w', w'.ownsRow B e k v' (n + m) (cs ++ ds) → KB B w w' → (∀ x < w.heap.size, some x ≠ v.ownBlock → w'.heap[x]? = w.heap[x]?) → wpList Tryz.prog ops Q rest (a.put o.dst v') w') :
    wpList Tryz.prog ops Q (o :: rest) a w := by
  obtain ⟨i0, hi0, hz0, hz1, hz2⟩ := info_parts hi
  obtain ⟨hl, h1, a0, cap, rfl, hc, hm, hz', h3⟩ := hr
  cases a0 with
  | none =>
    have hc0 : cap = 0 := hz' rfl
    have hm0 : m = 0 := by omega
    subst hc0 hm0
    have hds : ds = [] := List.eq_nil_of_length_eq_zero (by rw [hl]; simp)
    subst hds
    exact wpList_append_own_none hgd s x t ho B e i0 k hu hi0 v n cs hs hh hx (h v w (by simpa using hh) (KB.refl _ _) (fun _ _ _ => rfl))
  | some ad =>
    have hsrc : ∀ j u, ds[j]? = some u → w.cell? (ad.add j) = some u := by
      intro j u hj
      rcases h3 with h3 | ⟨b, off, ha, hcell⟩
      · have hjl := (List.getElem?_eq_some_iff.1 hj).1
        rw [hl, h3] at hjl
        simp at hjl
      · injection ha with ha
        subst ha
        rw [add_at]
        exact hcell j u hj
    have hbb : (n + m) * bytes ≤ 8388608 * 1000 := Nat.mul_le_mul hn hbt
    refine wpList_append_own _ hgd s x t ho B e i0 z k bytes hu hi0 hz0 hz1 hz2 hz hk v n cs hs hh ad m cap ds hx hl hsrc h1 (by unfold maxLen; omega) (by omega) hB ?_
    intro v' w' ho' hg' _
    have tb : TB B B w w' := own_turn hh hg'
    exact h v' w' ho' ⟨⟨tb.os, tb.tape, tb.output, tb.size, fun k hk => tb.block k (by omega) (by omega) hk⟩, tb.size⟩ (fun x hx hne => hg'.block x hx hne)
/- Only this block, another one and new ones may have turned. -/
def Two (C : Nat) (v : Value) (w w' : World) : Prop := ∀ x < w.heap.size, x ≠ C → some x ≠ v.ownBlock → w'.heap[x]? = w.heap[x]?
theorem row_two {w w' : World} {B : Nat} {e : TypeId} {k : Nat} {v : Value} {n : Nat} {cs : List Value} {C : Nat} {q : Value} (h : w.ownsRow B e k v n cs) (t : Two C q w w') (hC : NoT w C e) (hq : ∀ g, q.ownBlock = some g → NoT w g e) : w'.ownsRow B e k v n cs := by
  obtain ⟨h1, h2 | ⟨g, cap, cur, hv, hB, hg, h3⟩⟩ := h
  · exact ⟨h1, Or.inl h2⟩
  · exact ⟨h1, Or.inr ⟨g, cap, cur, hv, hB, (t g (lt_of_obj hg) (fun hx => hC _ _ (by rw [← hx]; exact hg)) (fun hx => hq g hx.symm _ _ hg)).trans hg, h3⟩⟩
theorem row_tag {w : World} {B : Nat} {e : TypeId} {k : Nat} {v : Value} {n : Nat} {cs : List Value} (h : w.ownsRow B e k v n cs) {g : Nat} (hg : v.ownBlock = some g) : ∃ cur f, w.heap[g]? = some (.cells cur e f) := by
  obtain ⟨h1, ⟨rfl, rfl⟩ | ⟨g', cap, cur, hv, hB, hh, h3⟩⟩ := h
  · cases hg
  · rw [hv] at hg
    have : some g' = some g := hg
    injection this with this
    subst this
    exact ⟨_, _, hh⟩
theorem row_no {w : World} {B : Nat} {e t : TypeId} {k : Nat} {v : Value} {n : Nat} {cs : List Value} (h : w.ownsRow B e k v n cs) (hne : e ≠ t) : ∀ g, v.ownBlock = some g → NoT w g t := by
  intro g hg
  obtain ⟨cur, f, hh⟩ := row_tag h hg
  exact NoT.of hh hne
/- Only one row's block and new ones may have turned. -/
def Keep (v : Value) (w w' : World) : Prop := ∀ x < w.heap.size, some x ≠ v.ownBlock → w'.heap[x]? = w.heap[x]?
theorem row_keep {w w' : World} {B : Nat} {e : TypeId} {k : Nat} {v : Value} {n : Nat} {cs : List Value} {q : Value} (h : w.ownsRow B e k v n cs) (t : Keep q w w') (hq : ∀ g, q.ownBlock = some g → NoT w g e) : w'.ownsRow B e k v n cs := by
  obtain ⟨h1, h2 | ⟨g, cap, cur, hv, hB, hg, h3⟩⟩ := h
  · exact ⟨h1, Or.inl h2⟩
  · exact ⟨h1, Or.inr ⟨g, cap, cur, hv, hB, (t g (lt_of_obj hg) (fun hx => hq g hx.symm _ _ hg)).trans hg, h3⟩⟩
theorem obj_keep {w w' : World} {q : Value} {C : Nat} {cs : Array Value} {t : TypeId} {f : Nat × Nat} (h : w.heap[C]? = some (.cells cs t f)) (k : Keep q w w') (hq : ∀ g, q.ownBlock = some g → NoT w g t) : w'.heap[C]? = some (.cells cs t f) :=
  (k C (lt_of_obj h) (fun hx => hq C hx.symm _ _ h)).trans h
theorem Keep.two {v : Value} {w w' : World} (h : Keep v w w') (C j : Nat) (u : Value) : Two C v w (w'.setCell ⟨C, j, none⟩ u) := fun x hx hC hv => by
  rw [Below.heap_setCell _ _ _ _ (by simpa using hC)]; exact h x hx hv
theorem CK.pushF {B : Nat} {w w' : World} {C : Nat} {lv fv ov qv : Value} {lo : List LO} {fr : List Int} {ops : List VT} {fs fs' : List FV} (h : CK B w C lv fv ov qv lo fr ops fs) (k : Keep qv w w') {u : Value} (hu : RowFr B w' u fs') (hs : ∀ x ∈ fs', isSl x.inn ∧ isSl x.out) : w'.cell? ⟨C, 6, none⟩ = some qv ∧ w'.frozen? ⟨C, 6, none⟩ = false ∧ CK B (w'.setCell ⟨C, 6, none⟩ u) C lv fv ov u lo fr ops fs' := by
  obtain ⟨⟨gv, rv, a, b, c⟩, h1, h2, h3, h4, h5, h6⟩ := h
  have c' := obj_keep c k (row_no h5 (by decide))
  refine ⟨by rw [cell_of c']; rfl, free_of c' 6, ⟨gv, rv, a, b, by rw [heap_set c']; rfl⟩, h1, ?_, ?_, ?_, ?_, hs⟩
  · exact row_set (row_keep h2 k (row_no h5 (by decide))) (NoT.of c' (by decide)) _
  · exact row_set (row_keep h3 k (row_no h5 (by decide))) (NoT.of c' (by decide)) _
  · exact row_set (row_keep h4 k (row_no h5 (by decide))) (NoT.of c' (by decide)) _
  · exact row_set hu (NoT.of c' (by decide)) _
theorem CK.pushV {B : Nat} {w w' : World} {C : Nat} {lv fv ov qv : Value} {lo : List LO} {fr : List Int} {ops ops' : List VT} {fs : List FV} (h : CK B w C lv fv ov qv lo fr ops fs) (k : Keep ov w w') {u : Value} (hu : RowV B w' u ops') : w'.cell? ⟨C, 5, none⟩ = some ov ∧ w'.frozen? ⟨C, 5, none⟩ = false ∧ CK B (w'.setCell ⟨C, 5, none⟩ u) C lv fv u qv lo fr ops' fs := by
  obtain ⟨⟨gv, rv, a, b, c⟩, h1, h2, h3, h4, h5, h6⟩ := h
  have c' := obj_keep c k (row_no h4 (by decide))
  refine ⟨by rw [cell_of c']; rfl, free_of c' 5, ⟨gv, rv, a, b, by rw [heap_set c']; rfl⟩, h1, ?_, ?_, ?_, ?_, h6⟩
  · exact row_set (row_keep h2 k (row_no h4 (by decide))) (NoT.of c' (by decide)) _
  · exact row_set (row_keep h3 k (row_no h4 (by decide))) (NoT.of c' (by decide)) _
  · exact row_set hu (NoT.of c' (by decide)) _
  · exact row_set (row_keep h5 k (row_no h4 (by decide))) (NoT.of c' (by decide)) _
theorem CK.pushU {B : Nat} {w w' : World} {C : Nat} {lv fv ov qv : Value} {lo : List LO} {fr fr' : List Int} {ops : List VT} {fs : List FV} (h : CK B w C lv fv ov qv lo fr ops fs) (k : Keep fv w w') {u : Value} (hu : RowU B w' u fr') : w'.cell? ⟨C, 4, none⟩ = some fv ∧ w'.frozen? ⟨C, 4, none⟩ = false ∧ CK B (w'.setCell ⟨C, 4, none⟩ u) C lv u ov qv lo fr' ops fs := by
  obtain ⟨⟨gv, rv, a, b, c⟩, h1, h2, h3, h4, h5, h6⟩ := h
  have c' := obj_keep c k (row_no h3 (by decide))
  refine ⟨by rw [cell_of c']; rfl, free_of c' 4, ⟨gv, rv, a, b, by rw [heap_set c']; rfl⟩, h1, ?_, ?_, ?_, ?_, h6⟩
  · exact row_set (row_keep h2 k (row_no h3 (by decide))) (NoT.of c' (by decide)) _
  · exact row_set hu (NoT.of c' (by decide)) _
  · exact row_set (row_keep h4 k (row_no h3 (by decide))) (NoT.of c' (by decide)) _
  · exact row_set (row_keep h5 k (row_no h3 (by decide))) (NoT.of c' (by decide)) _
theorem Hid.mk' {p : Prop} (h : p) : Hid p := h
set_option maxRecDepth 100000 in
theorem pushF_any {B : Nat} {w : World} {C : Nat} {lv fv ov qv : Value} {lo : List LO} {fr : List Int} {ops : List VT} {fs : List FV} (h : CK B w C lv fv ov qv lo fr ops fs) {u : Value} {l : List FV} (hr : Raw 6 w u l.length (l.flatMap FV.c)) (hn : fs.length + l.length ≤ 8388608) (hsl : ∀ x ∈ l, isSl x.inn ∧ isSl x.out) :
    Calls Tryz.prog 38 #[.pointer (some ⟨C, 6, none⟩), u] w fun en w' => ∃ v', en = .returned (.tuple #[]) ∧ CK B w' C lv fv ov v' lo fr ops (fs ++ l) ∧ KB B w w' ∧ Two C qv w w' := by
  have c6 := h.c6
  have hCl := h.lt
  have H : Hid (CK B w C lv fv ov qv lo fr ops fs) := h
  have HR : Hid (Raw 6 w u l.length (l.flatMap FV.c)) := hr
  obtain ⟨a, cap, hu, _, _⟩ := hr.one
  subst hu
  obtain ⟨qa, qc, hq⟩ := row_one h.rfs
  subst hq
  have hBl : B ≤ w.heap.size := by have := h.base; omega
  have hBC : B ≤ C := h.base
  clear h hr
  go_enter Tryz.func38, Tryz.ntmps38
  go_wp2_with (at_builtin; refine wp_appR (v := .slice qa fs.length qc) (n := fs.length) (cs := fs.flatMap FV.c) (B := B) rfl _ _ 56 73 6 80 _ Tryz.underlying56 infoFr rfl (by decide) (by decide) rfl rfl rfl H.out.rfs HR.out hBl hn ?_; intro v2 w2 hO2 hK2 hG2; obtain ⟨va, vc, hv2⟩ := row_one hO2; subst hv2; rw [← List.flatMap_append, ← List.length_append] at hO2; obtain ⟨n6, z6, K6⟩ := H.out.pushF hG2 hO2 (fun x hx => (List.mem_append.1 hx).elim (H.out.sl x) (hsl x)); have H2 := Hid.mk' K6; have HK := Hid.mk' hK2; have HG := Hid.mk' hG2; clear hO2 hK2 hG2 K6)
  go_end0
  have H2o := H2.out
  rw [List.length_append] at H2o
  exact ⟨_, rfl, H2o, HK.out.set (p := ⟨C, 6, none⟩) hBC _, Keep.two HG.out C 6 _⟩
set_option maxRecDepth 100000 in
theorem pushV_any {B : Nat} {w : World} {C : Nat} {lv fv ov qv : Value} {lo : List LO} {fr : List Int} {ops : List VT} {fs : List FV} (h : CK B w C lv fv ov qv lo fr ops fs) {u : Value} {l : List VT} (hr : Raw 3 w u l.length (l.flatMap VT.c)) (hn : ops.length + l.length ≤ 8388608) :
    Calls Tryz.prog 40 #[.pointer (some ⟨C, 5, none⟩), u] w fun en w' => ∃ v', en = .returned (.tuple #[]) ∧ CK B w' C lv fv v' qv lo fr (ops ++ l) fs ∧ KB B w w' ∧ Two C ov w w' := by
  have c6 := h.c5
  have hCl := h.lt
  have H : Hid (CK B w C lv fv ov qv lo fr ops fs) := h
  have HR : Hid (Raw 3 w u l.length (l.flatMap VT.c)) := hr
  obtain ⟨a, cap, hu, _, _⟩ := hr.one
  subst hu
  obtain ⟨qa, qc, hq⟩ := row_one h.rops
  subst hq
  have hBl : B ≤ w.heap.size := by have := h.base; omega
  have hBC : B ≤ C := h.base
  clear h hr
  go_enter Tryz.func40, Tryz.ntmps40
  go_wp2_with (at_builtin; refine wp_appR (v := .slice qa ops.length qc) (n := ops.length) (cs := ops.flatMap VT.c) (B := B) rfl _ _ 23 44 3 24 _ Tryz.underlying23 infoV rfl (by decide) (by decide) rfl rfl rfl H.out.rops HR.out hBl hn ?_; intro v2 w2 hO2 hK2 hG2; obtain ⟨va, vc, hv2⟩ := row_one hO2; subst hv2; rw [← List.flatMap_append, ← List.length_append] at hO2; obtain ⟨n6, z6, K6⟩ := H.out.pushV hG2 hO2; have H2 := Hid.mk' K6; have HK := Hid.mk' hK2; have HG := Hid.mk' hG2; clear hO2 hK2 hG2 K6)
  go_end0
  have H2o := H2.out
  rw [List.length_append] at H2o
  exact ⟨_, rfl, H2o, HK.out.set (p := ⟨C, 5, none⟩) hBC _, Keep.two HG.out C 5 _⟩
set_option maxRecDepth 100000 in
theorem pushU_any {B : Nat} {w : World} {C : Nat} {lv fv ov qv : Value} {lo : List LO} {fr : List Int} {ops : List VT} {fs : List FV} (h : CK B w C lv fv ov qv lo fr ops fs) {u : Value} {l : List Int} (hr : Raw 1 w u l.length (l.flatMap cu)) (hn : fr.length + l.length ≤ 8388608) :
    Calls Tryz.prog 45 #[.pointer (some ⟨C, 4, none⟩), u] w fun en w' => ∃ v', en = .returned (.tuple #[]) ∧ CK B w' C lv v' ov qv lo (fr ++ l) ops fs ∧ KB B w w' ∧ Two C fv w w' := by
  have c6 := h.c4
  have hCl := h.lt
  have H : Hid (CK B w C lv fv ov qv lo fr ops fs) := h
  have HR : Hid (Raw 1 w u l.length (l.flatMap cu)) := hr
  obtain ⟨a, cap, hu, _, _⟩ := hr.one
  subst hu
  obtain ⟨qa, qc, hq⟩ := row_one h.rfr
  subst hq
  have hBl : B ≤ w.heap.size := by have := h.base; omega
  have hBC : B ≤ C := h.base
  clear h hr
  go_enter Tryz.func45, Tryz.ntmps45
  go_wp2_with (at_builtin; refine wp_appR (v := .slice qa fr.length qc) (n := fr.length) (cs := fr.flatMap cu) (B := B) rfl _ _ 41 47 1 4 _ Tryz.underlying41 infoU rfl (by decide) (by decide) rfl rfl rfl H.out.rfr HR.out hBl hn ?_; intro v2 w2 hO2 hK2 hG2; obtain ⟨va, vc, hv2⟩ := row_one hO2; subst hv2; rw [← List.flatMap_append, ← List.length_append] at hO2; obtain ⟨n6, z6, K6⟩ := H.out.pushU hG2 hO2; have H2 := Hid.mk' K6; have HK := Hid.mk' hK2; have HG := Hid.mk' hG2; clear hO2 hK2 hG2 K6)
  go_end0
  have H2o := H2.out
  rw [List.length_append] at H2o
  exact ⟨_, rfl, H2o, HK.out.set (p := ⟨C, 4, none⟩) hBC _, Keep.two HG.out C 4 _⟩
set_option maxRecDepth 100000 in
theorem cutV_any {B : Nat} {w : World} {C : Nat} {lv fv ov qv : Value} {lo : List LO} {fr : List Int} {ops : List VT} {fs : List FV} (h : CK B w C lv fv ov qv lo fr ops fs) {m : Nat} (hm : m ≤ ops.length) :
    Calls Tryz.prog 33 #[.pointer (some ⟨C, 5, none⟩), .int .i64 (m : Int)] w fun en w' => ∃ v', en = .returned (.tuple #[]) ∧ CK B w' C lv fv v' qv lo fr (ops.take m) fs ∧ KB B w w' ∧ Two C NILS w w' ∧ v'.ownBlock = ov.ownBlock := by
  have c6 := h.c5
  have z6 := h.z 5
  have hCl := h.lt
  have H : Hid (CK B w C lv fv ov qv lo fr ops fs) := h
  obtain ⟨qa, qc, hq, hqc, hqm, hq0⟩ := row_max h.rops
  subst hq
  have hBC : B ≤ C := h.base
  have d1 : decide ((m : Int) ≤ (qc : Int)) = true := by simp; omega
  have d2 : decide (m ≤ qc) = true := by simp; omega
  have hm1 : (m : Int) ≤ (qc : Int) := by omega
  have hmx : (qc : Int) ≤ 9223372036854775807 := by have := hqm; simp [maxLen] at this; omega
  clear h
  go_enter Tryz.func33, Tryz.ntmps33
  go_wp2_with fail
  go_end0
  refine ⟨.slice qa m qc, rfl, H.out.set5 (RowV.cut H.out.rops hm), (KB.refl B w).set (p := ⟨C, 5, none⟩) hBC _, fun x hx hC _ => Below.heap_setCell _ _ _ _ (by simpa using hC), ?_⟩
  cases qa <;> rfl
set_option maxRecDepth 100000 in
theorem cutF_any {B : Nat} {w : World} {C : Nat} {lv fv ov qv : Value} {lo : List LO} {fr : List Int} {ops : List VT} {fs : List FV} (h : CK B w C lv fv ov qv lo fr ops fs) {m : Nat} (hm : m ≤ fs.length) :
    Calls Tryz.prog 42 #[.pointer (some ⟨C, 6, none⟩), .int .i64 (m : Int)] w fun en w' => ∃ v', en = .returned (.tuple #[]) ∧ CK B w' C lv fv ov v' lo fr ops (fs.take m) ∧ KB B w w' ∧ Two C NILS w w' ∧ v'.ownBlock = qv.ownBlock := by
  have c6 := h.c6
  have z6 := h.z 6
  have hCl := h.lt
  have H : Hid (CK B w C lv fv ov qv lo fr ops fs) := h
  obtain ⟨qa, qc, hq, hqc, hqm, hq0⟩ := row_max h.rfs
  subst hq
  have hBC : B ≤ C := h.base
  have d1 : decide ((m : Int) ≤ (qc : Int)) = true := by simp; omega
  have d2 : decide (m ≤ qc) = true := by simp; omega
  have hm1 : (m : Int) ≤ (qc : Int) := by omega
  have hmx : (qc : Int) ≤ 9223372036854775807 := by have := hqm; simp [maxLen] at this; omega
  clear h
  go_enter Tryz.func42, Tryz.ntmps42
  go_wp2_with fail
  go_end0
  refine ⟨.slice qa m qc, rfl, H.out.set6 (RowFr.cut H.out.rfs hm) (fun x hx => H.out.sl x (List.mem_of_mem_take hx)), (KB.refl B w).set (p := ⟨C, 6, none⟩) hBC _, fun x hx hC _ => Below.heap_setCell _ _ _ _ (by simpa using hC), ?_⟩
  cases qa <;> rfl
set_option maxRecDepth 100000 in
theorem cutU_any {B : Nat} {w : World} {C : Nat} {lv fv ov qv : Value} {lo : List LO} {fr : List Int} {ops : List VT} {fs : List FV} (h : CK B w C lv fv ov qv lo fr ops fs) {m : Nat} (hm : m ≤ fr.length) :
    Calls Tryz.prog 54 #[.pointer (some ⟨C, 4, none⟩), .int .i64 (m : Int)] w fun en w' => ∃ v', en = .returned (.tuple #[]) ∧ CK B w' C lv v' ov qv lo (fr.take m) ops fs ∧ KB B w w' ∧ Two C NILS w w' ∧ v'.ownBlock = fv.ownBlock := by
  have c6 := h.c4
  have z6 := h.z 4
  have hCl := h.lt
  have H : Hid (CK B w C lv fv ov qv lo fr ops fs) := h
  obtain ⟨qa, qc, hq, hqc, hqm, hq0⟩ := row_max h.rfr
  subst hq
  have hBC : B ≤ C := h.base
  have d1 : decide ((m : Int) ≤ (qc : Int)) = true := by simp; omega
  have d2 : decide (m ≤ qc) = true := by simp; omega
  have hm1 : (m : Int) ≤ (qc : Int) := by omega
  have hmx : (qc : Int) ≤ 9223372036854775807 := by have := hqm; simp [maxLen] at this; omega
  clear h
  go_enter Tryz.func54, Tryz.ntmps54
  go_wp2_with fail
  go_end0
  refine ⟨.slice qa m qc, rfl, H.out.set4 (RowU.cut H.out.rfr hm), (KB.refl B w).set (p := ⟨C, 4, none⟩) hBC _, fun x hx hC _ => Below.heap_setCell _ _ _ _ (by simpa using hC), ?_⟩
  cases qa <;> rfl
set_option maxRecDepth 100000 in
theorem heightV_any {B : Nat} {w : World} {C : Nat} {lv fv ov qv : Value} {lo : List LO} {fr : List Int} {ops : List VT} {fs : List FV} (h : CK B w C lv fv ov qv lo fr ops fs) :
    Calls Tryz.prog 35 #[.pointer (some ⟨C, 5, none⟩)] w fun en w' => en = .returned (.int .i64 (ops.length : Int)) ∧ w' = w := by
  have c6 := h.c5
  obtain ⟨qa, qc, hq⟩ := row_one h.rops
  subst hq
  clear h
  go_enter Tryz.func35, Tryz.ntmps35
  go_wp2_with fail
  go_ret
  exact ⟨rfl, rfl⟩
set_option maxRecDepth 100000 in
theorem heightF_any {B : Nat} {w : World} {C : Nat} {lv fv ov qv : Value} {lo : List LO} {fr : List Int} {ops : List VT} {fs : List FV} (h : CK B w C lv fv ov qv lo fr ops fs) :
    Calls Tryz.prog 43 #[.pointer (some ⟨C, 6, none⟩)] w fun en w' => en = .returned (.int .i64 (fs.length : Int)) ∧ w' = w := by
  have c6 := h.c6
  obtain ⟨qa, qc, hq⟩ := row_one h.rfs
  subst hq
  clear h
  go_enter Tryz.func43, Tryz.ntmps43
  go_wp2_with fail
  go_ret
  exact ⟨rfl, rfl⟩
set_option maxRecDepth 100000 in
theorem heightU_any {B : Nat} {w : World} {C : Nat} {lv fv ov qv : Value} {lo : List LO} {fr : List Int} {ops : List VT} {fs : List FV} (h : CK B w C lv fv ov qv lo fr ops fs) :
    Calls Tryz.prog 37 #[.pointer (some ⟨C, 4, none⟩)] w fun en w' => en = .returned (.int .i64 (fr.length : Int)) ∧ w' = w := by
  have c6 := h.c4
  obtain ⟨qa, qc, hq⟩ := row_one h.rfr
  subst hq
  clear h
  go_enter Tryz.func37, Tryz.ntmps37
  go_wp2_with fail
  go_ret
  exact ⟨rfl, rfl⟩
set_option maxRecDepth 100000 in
theorem nthF_any {B : Nat} {w : World} {C : Nat} {lv fv ov : Value} {lo : List LO} {fr : List Int} {ops : List VT} {fs : List FV} {x : FV} {g c : Nat} (h : CK B w C lv fv ov (.slice (some ⟨g, 0, none⟩) (fs.length + 1) c) lo fr ops (fs ++ [x])) :
    Calls Tryz.prog 32 #[.pointer (some ⟨C, 6, none⟩), .int .i64 0] w fun en w' => en = .returned (.pointer (some ⟨g, fs.length * 6, none⟩)) ∧ Grew w w' := by
  have c6 := h.c6
  obtain ⟨g', c', hv, hle, hmx, _⟩ := h.rfs.last
  have hml : fs.length + 1 ≤ 9223372036854775807 := by have := hmx; simp [maxLen] at this; omega
  obtain ⟨N, hN⟩ : ∃ N, fs.length + 1 = N := ⟨_, rfl⟩
  rw [hN] at c6
  have e1 : IntKind.i64.wrap ((N : Int) - 1) = (fs.length : Int) := by rw [IntKind.wrap_i64]; omega
  have e2 : (N : Int) - 1 = (fs.length : Int) := by omega
  have e3 : IntKind.i64.wrap ((fs.length : Int)) = (fs.length : Int) := by rw [IntKind.wrap_i64]; omega
  have d1 : decide (fs.length < N) = true := by simp; omega
  have d2 : decide ((fs.length : Int) < (N : Int)) = true := by simp; omega
  have d3 : (fs.length : Int) < (N : Int) := by omega
  have d4 : fs.length < N := by omega
  clear hN hml
  clear h hv hle hmx
  go_enter Tryz.func32, Tryz.ntmps32
  go_wp2_with fail
  go_quiet (fail)
  go_wp2_with fail
  go_ret
  exact ⟨rfl, (Grew.refl w).drewN _⟩
end Go.Proofs.YtkghplkmfpnhdaaGreatDoor
