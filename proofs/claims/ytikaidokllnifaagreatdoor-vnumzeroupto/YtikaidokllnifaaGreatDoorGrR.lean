/-
  Lists of types and of groups as cells; no statement is proved here.
-/
import Derived.Test.YtikaidokllnifaaGreatDoorChk
import Derived.Test.YtikaidokllnifaaGreatDoorLoO
import Derived.WalkMore
set_option maxRecDepth 100000
set_option maxHeartbeats 8000000
namespace Go.Proofs.YtikaidokllnifaaGreatDoor
open Go.RowKit
set_option linter.unusedVariables false
set_option linter.unusedSimpArgs false
variable {G : Value → Prop}
/- An append of a whole list. -/
theorem wp_appR {ops : Array Oper} {rest : List Oper} {o : Oper} {a : Act} {w : World} {Q : Exit → Act → World → Prop} (hgd : o.guard = none) (s x : Operand) (t e : TypeId) (k bytes : Nat) (z : Value)
    (hu : Tryz.prog.underlying t = some (.slice e)) (hi : (Tryz.prog.info? e).map (fun i => (i.zero, i.size, i.bytes)) = some (some z, k, bytes)) (hz : z.cells.size = k) (hk : 0 < k) (hbt : bytes ≤ 1000)
    (ho : o.op = .call { callee := .builtin .append, args := #[s, x], argTypes := #[t, t] }) {B : Nat} {v u : Value} {n m : Nat} {cs ds : List Value}
    (hs : a.eval s = v) (hx : a.eval x = u) (hh : w.ownsRow B e k v n cs) (hr : Raw k w u m ds) (hB : B ≤ w.heap.size) (hn : n + m ≤ 8388608)
    (h : ∀ v' w', w'.ownsRow B e k v' (n + m) (cs ++ ds) → KB B w w' → (∀ x < w.heap.size, some x ≠ v.ownBlock → w'.heap[x]? = w.heap[x]?) → wpList Tryz.prog ops Q rest (a.put o.dst v') w') :
    wpList Tryz.prog ops Q (o :: rest) a w := by
  obtain ⟨i0, hi0, hz0, hz1, hz2⟩ := info_parts hi
  obtain ⟨hl, h1, a0, cap, rfl, hc, hm, hz', h3⟩ := hr
  cases a0 with
  | none =>
    have hc0 : cap = 0 := hz' rfl
    have hm0 : m = 0 := by omega
    subst hc0 hm0
    have hds : ds = [] := List.eq_nil_of_length_eq_zero (by rw [hl]; simp)
    subst hds
    exact wpList_append_own_none hgd s x t ho B e i0 k hu hi0 v n cs hs hh hx (h v w (by simpa using hh) (KB.refl _ _) (fun _ _ _ => rfl))
  | some ad =>
    have hsrc : ∀ j u, ds[j]? = some u → w.cell? (ad.add j) = some u := by
      intro j u hj
      rcases h3 with h3 | ⟨b, off, ha, hcell⟩
      · have hjl := (List.getElem?_eq_some_iff.1 hj).1
        rw [hl, h3] at hjl
        simp at hjl
      · injection ha with ha
        subst ha
        rw [add_at]
        exact hcell j u hj
    have hbb : (n + m) * bytes ≤ 8388608 * 1000 := Nat.mul_le_mul hn hbt
    refine wpList_append_own _ hgd s x t ho B e i0 z k bytes hu hi0 hz0 hz1 hz2 hz hk v n cs hs hh ad m cap ds hx hl hsrc h1 (by unfold maxLen; omega) (by omega) hB ?_
    intro v' w' ho' hg' _
    have tb : TB B B w w' := own_turn hh hg'
    exact h v' w' ho' ⟨⟨tb.os, tb.tape, tb.output, tb.size, fun k hk => tb.block k (by omega) (by omega) hk⟩, tb.size⟩ (fun x hx hne => hg'.block x hx hne)
/- Only this block, another one and new ones may have turned. -/
def Two (C : Nat) (v : Value) (w w' : World) : Prop := ∀ x < w.heap.size, x ≠ C → some x ≠ v.ownBlock → w'.heap[x]? = w.heap[x]?
theorem row_two {w w' : World} {B : Nat} {e : TypeId} {k : Nat} {v : Value} {n : Nat} {cs : List Value} {C : Nat} {q : Value} (h : w.ownsRow B e k v n cs) (t : Two C q w w') (hC : NoT w C e) (hq : ∀ g, q.ownBlock = some g → NoT w g e) : w'.ownsRow B e k v n cs := by
  obtain ⟨h1, h2 | ⟨g, cap, cur, hv, hB, hg, h3⟩⟩ := h
  · exact ⟨h1, Or.inl h2⟩
  · exact ⟨h1, Or.inr ⟨g, cap, cur, hv, hB, (t g (lt_of_obj hg) (fun hx => hC _ _ (by rw [← hx]; exact hg)) (fun hx => hq g hx.symm _ _ hg)).trans hg, h3⟩⟩
theorem row_tagk {w : World} {B : Nat} {e : TypeId} {k : Nat} {v : Value} {n : Nat} {cs : List Value} (h : w.ownsRow B e k v n cs) {g : Nat} (hg : v.ownBlock = some g) : ∃ cur f, w.heap[g]? = some (.cells cur e f) := by
  obtain ⟨h1, ⟨rfl, rfl⟩ | ⟨g', cap, cur, hv, hB, hh, h3⟩⟩ := h
  · cases hg
  · rw [hv] at hg
    have : some g' = some g := hg
    injection this with this
    subst this
    exact ⟨_, _, hh⟩
theorem row_no {w : World} {B : Nat} {e t : TypeId} {k : Nat} {v : Value} {n : Nat} {cs : List Value} (h : w.ownsRow B e k v n cs) (hne : e ≠ t) : ∀ g, v.ownBlock = some g → NoT w g t := by
  intro g hg
  obtain ⟨cur, f, hh⟩ := row_tagk h hg
  exact NoT.of hh hne
/- Only one row's block and new ones may have turned. -/
def Keep (v : Value) (w w' : World) : Prop := ∀ x < w.heap.size, some x ≠ v.ownBlock → w'.heap[x]? = w.heap[x]?
theorem row_keep {w w' : World} {B : Nat} {e : TypeId} {k : Nat} {v : Value} {n : Nat} {cs : List Value} {q : Value} (h : w.ownsRow B e k v n cs) (t : Keep q w w') (hq : ∀ g, q.ownBlock = some g → NoT w g e) : w'.ownsRow B e k v n cs := by
  obtain ⟨h1, h2 | ⟨g, cap, cur, hv, hB, hg, h3⟩⟩ := h
  · exact ⟨h1, Or.inl h2⟩
  · exact ⟨h1, Or.inr ⟨g, cap, cur, hv, hB, (t g (lt_of_obj hg) (fun hx => hq g hx.symm _ _ hg)).trans hg, h3⟩⟩
theorem obj_keep {w w' : World} {q : Value} {C : Nat} {cs : Array Value} {t : TypeId} {f : Nat × Nat} (h : w.heap[C]? = some (.cells cs t f)) (k : Keep q w w') (hq : ∀ g, q.ownBlock = some g → NoT w g t) : w'.heap[C]? = some (.cells cs t f) :=
  (k C (lt_of_obj h) (fun hx => hq C hx.symm _ _ h)).trans h
theorem Keep.two {v : Value} {w w' : World} (h : Keep v w w') (C j : Nat) (u : Value) : Two C v w (w'.setCell ⟨C, j, none⟩ u) := fun x hx hC hv => by
  rw [Below.heap_setCell _ _ _ _ (by simpa using hC)]; exact h x hx hv
theorem CHK.pushF {B : Nat} {w w' : World} {C : Nat} {lv fv ov qv : Value} {lo : List LO} {fr : List Int} {ops : List VT} {fs fs' : List FV} (h : CHK G B w C lv fv ov qv lo fr ops fs) (k : Keep qv w w') {u : Value} (hu : RowFr B w' u fs') (hs : ∀ x ∈ fs', isSl x.inn ∧ isSl x.out) : w'.cell? ⟨C, 6, none⟩ = some qv ∧ w'.frozen? ⟨C, 6, none⟩ = false ∧ CHK G B (w'.setCell ⟨C, 6, none⟩ u) C lv fv ov u lo fr ops fs' := by
  obtain ⟨⟨gv, rv, a, b, c⟩, h1, h2, h3, h4, h5, h6⟩ := h
  have c' := obj_keep c k (row_no h5 (by decide))
  refine ⟨by rw [cell_of c']; rfl, free_of c' 6, ⟨gv, rv, a, b, by rw [heap_set c']; rfl⟩, h1, ?_, ?_, ?_, ?_, hs⟩
  · exact row_set (row_keep h2 k (row_no h5 (by decide))) (NoT.of c' (by decide)) _
  · exact row_set (row_keep h3 k (row_no h5 (by decide))) (NoT.of c' (by decide)) _
  · exact row_set (row_keep h4 k (row_no h5 (by decide))) (NoT.of c' (by decide)) _
  · exact row_set hu (NoT.of c' (by decide)) _
theorem CHK.pushV {B : Nat} {w w' : World} {C : Nat} {lv fv ov qv : Value} {lo : List LO} {fr : List Int} {ops ops' : List VT} {fs : List FV} (h : CHK G B w C lv fv ov qv lo fr ops fs) (k : Keep ov w w') {u : Value} (hu : RowV B w' u ops') : w'.cell? ⟨C, 5, none⟩ = some ov ∧ w'.frozen? ⟨C, 5, none⟩ = false ∧ CHK G B (w'.setCell ⟨C, 5, none⟩ u) C lv fv u qv lo fr ops' fs := by
  obtain ⟨⟨gv, rv, a, b, c⟩, h1, h2, h3, h4, h5, h6⟩ := h
  have c' := obj_keep c k (row_no h4 (by decide))
  refine ⟨by rw [cell_of c']; rfl, free_of c' 5, ⟨gv, rv, a, b, by rw [heap_set c']; rfl⟩, h1, ?_, ?_, ?_, ?_, h6⟩
  · exact row_set (row_keep h2 k (row_no h4 (by decide))) (NoT.of c' (by decide)) _
  · exact row_set (row_keep h3 k (row_no h4 (by decide))) (NoT.of c' (by decide)) _
  · exact row_set hu (NoT.of c' (by decide)) _
  · exact row_set (row_keep h5 k (row_no h4 (by decide))) (NoT.of c' (by decide)) _
theorem CHK.pushU {B : Nat} {w w' : World} {C : Nat} {lv fv ov qv : Value} {lo : List LO} {fr fr' : List Int} {ops : List VT} {fs : List FV} (h : CHK G B w C lv fv ov qv lo fr ops fs) (k : Keep fv w w') {u : Value} (hu : RowU B w' u fr') : w'.cell? ⟨C, 4, none⟩ = some fv ∧ w'.frozen? ⟨C, 4, none⟩ = false ∧ CHK G B (w'.setCell ⟨C, 4, none⟩ u) C lv u ov qv lo fr' ops fs := by
  obtain ⟨⟨gv, rv, a, b, c⟩, h1, h2, h3, h4, h5, h6⟩ := h
  have c' := obj_keep c k (row_no h3 (by decide))
  refine ⟨by rw [cell_of c']; rfl, free_of c' 4, ⟨gv, rv, a, b, by rw [heap_set c']; rfl⟩, h1, ?_, ?_, ?_, ?_, h6⟩
  · exact row_set (row_keep h2 k (row_no h3 (by decide))) (NoT.of c' (by decide)) _
  · exact row_set hu (NoT.of c' (by decide)) _
  · exact row_set (row_keep h4 k (row_no h3 (by decide))) (NoT.of c' (by decide)) _
  · exact row_set (row_keep h5 k (row_no h3 (by decide))) (NoT.of c' (by decide)) _
theorem Hid.mk' {p : Prop} (h : p) : Hid p := h
theorem pushF_any {B : Nat} {w : World} {C : Nat} {lv fv ov qv : Value} {lo : List LO} {fr : List Int} {ops : List VT} {fs : List FV} (h : CHK G B w C lv fv ov qv lo fr ops fs) {u : Value} {l : List FV} (hr : Raw 6 w u l.length (l.flatMap FV.c)) (hn : fs.length + l.length ≤ 8388608) (hsl : ∀ x ∈ l, isSl x.inn ∧ isSl x.out) :
    Calls Tryz.prog 42 #[.pointer (some ⟨C, 6, none⟩), u] w fun en w' => ∃ v', en = .returned (.tuple #[]) ∧ CHK G B w' C lv fv ov v' lo fr ops (fs ++ l) ∧ KB B w w' ∧ Two C qv w w' := by
  have c6 := h.c6
  have hCl := h.lt
  have H : Hid (CHK G B w C lv fv ov qv lo fr ops fs) := h
  have HR : Hid (Raw 6 w u l.length (l.flatMap FV.c)) := hr
  obtain ⟨a, cap, hu, _, _⟩ := hr.one
  subst hu
  obtain ⟨qa, qc, hq⟩ := row_one h.rfs
  subst hq
  have hBl : B ≤ w.heap.size := by have := h.base; omega
  have hBC : B ≤ C := h.base
  clear h hr
  go_enter Tryz.func42, Tryz.ntmps42
  go_wp2_with (at_builtin; refine wp_appR (v := .slice qa fs.length qc) (n := fs.length) (cs := fs.flatMap FV.c) (B := B) rfl _ _ 64 102 6 80 _ Tryz.underlying64 infoFr rfl (by decide) (by decide) rfl rfl rfl H.out.rfs HR.out hBl hn ?_; intro v2 w2 hO2 hK2 hG2; obtain ⟨va, vc, hv2⟩ := row_one hO2; subst hv2; rw [← List.flatMap_append, ← List.length_append] at hO2; obtain ⟨n6, z6, K6⟩ := H.out.pushF hG2 hO2 (fun x hx => (List.mem_append.1 hx).elim (H.out.sl x) (hsl x)); have H2 := Hid.mk' K6; have HK := Hid.mk' hK2; have HG := Hid.mk' hG2; clear hO2 hK2 hG2 K6)
  go_end0
  have H2o := H2.out
  rw [List.length_append] at H2o
  exact ⟨_, rfl, H2o, HK.out.set (p := ⟨C, 6, none⟩) hBC _, Keep.two HG.out C 6 _⟩
theorem pushU_any {B : Nat} {w : World} {C : Nat} {lv fv ov qv : Value} {lo : List LO} {fr : List Int} {ops : List VT} {fs : List FV} (h : CHK G B w C lv fv ov qv lo fr ops fs) {u : Value} {l : List Int} (hr : Raw 1 w u l.length (l.flatMap cu)) (hn : fr.length + l.length ≤ 8388608) :
    Calls Tryz.prog 191 #[.pointer (some ⟨C, 4, none⟩), u] w fun en w' => ∃ v', en = .returned (.tuple #[]) ∧ CHK G B w' C lv v' ov qv lo (fr ++ l) ops fs ∧ KB B w w' ∧ Two C fv w w' := by
  have c6 := h.c4
  have hCl := h.lt
  have H : Hid (CHK G B w C lv fv ov qv lo fr ops fs) := h
  have HR : Hid (Raw 1 w u l.length (l.flatMap cu)) := hr
  obtain ⟨a, cap, hu, _, _⟩ := hr.one
  subst hu
  obtain ⟨qa, qc, hq⟩ := row_one h.rfr
  subst hq
  have hBl : B ≤ w.heap.size := by have := h.base; omega
  have hBC : B ≤ C := h.base
  clear h hr
  go_enter Tryz.func191, Tryz.ntmps191
  go_wp2_with (at_builtin; refine wp_appR (v := .slice qa fr.length qc) (n := fr.length) (cs := fr.flatMap cu) (B := B) rfl _ _ 43 34 1 4 _ Tryz.underlying43 infoU rfl (by decide) (by decide) rfl rfl rfl H.out.rfr HR.out hBl hn ?_; intro v2 w2 hO2 hK2 hG2; obtain ⟨va, vc, hv2⟩ := row_one hO2; subst hv2; rw [← List.flatMap_append, ← List.length_append] at hO2; obtain ⟨n6, z6, K6⟩ := H.out.pushU hG2 hO2; have H2 := Hid.mk' K6; have HK := Hid.mk' hK2; have HG := Hid.mk' hG2; clear hO2 hK2 hG2 K6)
  go_end0
  have H2o := H2.out
  rw [List.length_append] at H2o
  exact ⟨_, rfl, H2o, HK.out.set (p := ⟨C, 4, none⟩) hBC _, Keep.two HG.out C 4 _⟩
theorem cutV_any {B : Nat} {w : World} {C : Nat} {lv fv ov qv : Value} {lo : List LO} {fr : List Int} {ops : List VT} {fs : List FV} (h : CHK G B w C lv fv ov qv lo fr ops fs) {m : Nat} (hm : m ≤ ops.length) :
    Calls Tryz.prog 68 #[.pointer (some ⟨C, 5, none⟩), .int .i64 (m : Int)] w fun en w' => ∃ v', en = .returned (.tuple #[]) ∧ CHK G B w' C lv fv v' qv lo fr (ops.take m) fs ∧ KB B w w' ∧ Two C NILS w w' ∧ v'.ownBlock = ov.ownBlock := by
  have c6 := h.c5
  have z6 := h.z 5
  have hCl := h.lt
  have H : Hid (CHK G B w C lv fv ov qv lo fr ops fs) := h
  obtain ⟨qa, qc, hq, hqc, hqm, hq0⟩ := row_max h.rops
  subst hq
  have hBC : B ≤ C := h.base
  have d1 : decide ((m : Int) ≤ (qc : Int)) = true := by simp; omega
  have d2 : decide (m ≤ qc) = true := by simp; omega
  have hm1 : (m : Int) ≤ (qc : Int) := by omega
  have hmx : (qc : Int) ≤ 9223372036854775807 := by have := hqm; simp [maxLen] at this; omega
  clear h
  go_enter Tryz.func68, Tryz.ntmps68
  go_wp2_with fail
  go_end0
  refine ⟨.slice qa m qc, rfl, H.out.set5 (RowV.cut H.out.rops hm), (KB.refl B w).set (p := ⟨C, 5, none⟩) hBC _, fun x hx hC _ => Below.heap_setCell _ _ _ _ (by simpa using hC), ?_⟩
  cases qa <;> rfl
theorem heightV_any {B : Nat} {w : World} {C : Nat} {lv fv ov qv : Value} {lo : List LO} {fr : List Int} {ops : List VT} {fs : List FV} (h : CHK G B w C lv fv ov qv lo fr ops fs) :
    Calls Tryz.prog 60 #[.pointer (some ⟨C, 5, none⟩)] w fun en w' => en = .returned (.int .i64 (ops.length : Int)) ∧ w' = w := by
  have c6 := h.c5
  obtain ⟨qa, qc, hq⟩ := row_one h.rops
  subst hq
  clear h
  go_enter Tryz.func60, Tryz.ntmps60
  go_wp2_with fail
  go_ret
  exact ⟨rfl, rfl⟩
theorem heightF_any {B : Nat} {w : World} {C : Nat} {lv fv ov qv : Value} {lo : List LO} {fr : List Int} {ops : List VT} {fs : List FV} (h : CHK G B w C lv fv ov qv lo fr ops fs) :
    Calls Tryz.prog 120 #[.pointer (some ⟨C, 6, none⟩)] w fun en w' => en = .returned (.int .i64 (fs.length : Int)) ∧ w' = w := by
  have c6 := h.c6
  obtain ⟨qa, qc, hq⟩ := row_one h.rfs
  subst hq
  clear h
  go_enter Tryz.func120, Tryz.ntmps120
  go_wp2_with fail
  go_ret
  exact ⟨rfl, rfl⟩
theorem nthF_any {B : Nat} {w : World} {C : Nat} {lv fv ov : Value} {lo : List LO} {fr : List Int} {ops : List VT} {fs : List FV} {x : FV} {g c : Nat} (h : CHK G B w C lv fv ov (.slice (some ⟨g, 0, none⟩) (fs.length + 1) c) lo fr ops (fs ++ [x])) :
    Calls Tryz.prog 67 #[.pointer (some ⟨C, 6, none⟩), .int .i64 0] w fun en w' => en = .returned (.pointer (some ⟨g, fs.length * 6, none⟩)) ∧ Grew w w' := by
  have c6 := h.c6
  obtain ⟨g', c', hv, hle, hmx, _⟩ := h.rfs.last
  have hml : fs.length + 1 ≤ 9223372036854775807 := by have := hmx; simp [maxLen] at this; omega
  obtain ⟨N, hN⟩ : ∃ N, fs.length + 1 = N := ⟨_, rfl⟩
  rw [hN] at c6
  have e1 : IntKind.i64.wrap ((N : Int) - 1) = (fs.length : Int) := by rw [IntKind.wrap_i64]; omega
  have e2 : (N : Int) - 1 = (fs.length : Int) := by omega
  have e3 : IntKind.i64.wrap ((fs.length : Int)) = (fs.length : Int) := by rw [IntKind.wrap_i64]; omega
  have d1 : decide (fs.length < N) = true := by simp; omega
  have d2 : decide ((fs.length : Int) < (N : Int)) = true := by simp; omega
  have d3 : (fs.length : Int) < (N : Int) := by omega
  have d4 : fs.length < N := by omega
  clear hN hml
  clear h hv hle hmx
  go_enter Tryz.func67, Tryz.ntmps67
  go_wp2_with fail
  go_quiet (fail)
  go_wp2_with fail
  go_ret
  exact ⟨rfl, (Grew.refl w).drewN _⟩
variable {G : Value → Prop}
/- Rows of error numbers are as they were. -/
def KTk (w w' : World) : Prop := ∀ (k : Nat) (cs : Array Value) (f : Nat × Nat), w.heap[k]? = some (.cells cs 53 f) → w'.heap[k]? = some (.cells cs 53 f)
theorem KTk.refl (w : World) : KTk w w := fun _ _ _ h => h
theorem KTk.trans {a b c : World} (h : KTk a b) (k : KTk b c) : KTk a c := fun x cs f hx => k x cs f (h x cs f hx)
theorem zeroMk {B : Nat} {w : World} {C : Nat} {lv fv ov qv : Value} {lo : List LO} {fr : List Int} {ops : List VT} {fs : List FV} (h : CHK G B w C lv fv ov qv lo fr ops fs) :
    Calls Tryz.prog 38 #[.pointer (some ⟨C, 0, none⟩)] w fun en w' => en = .returned (.bool false) ∧ w' = w := by
  have c0 := h.c0
  clear h
  go_enter Tryz.func38, Tryz.ntmps38
  go_wp2_with fail
  go_ret
  exact ⟨rfl, rfl⟩
theorem openM {B : Nat} {w : World} {C : Nat} {lv fv ov qv : Value} {lo : List LO} {fr : List Int} {ops : List VT} {fs : List FV} (h : CHK G B w C lv fv ov qv lo fr ops fs) (hf : 0 < fs.length) :
    Calls Tryz.prog 59 #[.pointer (some ⟨C, 0, none⟩)] w fun en w' => en = .returned (.int .i64 0) ∧ w' = w := by
  have C1 := zeroMk h
  have C2 := heightF_any h
  have d1 : ((fs.length : Int) == 0) = false := by rw [beq_eq_false_iff_ne]; omega
  clear h
  go_enter Tryz.func59, Tryz.ntmps59
  go_wp2_with fail
  refine C1.mono ?_
  rintro en w1 ⟨rfl, hw⟩
  obtain rfl := hw.symm
  go_wp2_with fail
  refine C2.mono ?_
  rintro en w1 ⟨rfl, hw⟩
  obtain rfl := hw.symm
  go_wp2_with fail
  go_ret
  exact ⟨rfl, rfl⟩
/- A block of six cells behind a call. -/
theorem fresh6 {w w1 : World} {t : TypeId} {a b c d e f : Value} (g : Grew (w.alloc (.cells #[a, b, c, d, e, f] t)) w1) :
    Grew w w1 ∧ w.heap.size < w1.heap.size ∧ w1.heap[w.heap.size]? = some (.cells #[a, b, c, d, e, f] t (0, 0)) := by
  have B1 := (g.turn []).other (heap_alloc_last w (.cells #[a, b, c, d, e, f] t)) (by simp)
  exact ⟨((Grew.refl w).alloc _).trans g, lt_of_obj B1, B1⟩
theorem six {w : World} {b : Nat} {x0 x1 x2 x3 x4 x5 : Value} {t : TypeId} (h : w.heap[b]? = some (.cells #[x0, x1, x2, x3, x4, x5] t (0, 0))) :
    (w.cell? ⟨b, 0, none⟩ = some x0 ∧ w.cell? ⟨b, 1, none⟩ = some x1 ∧ w.cell? ⟨b, 2, none⟩ = some x2 ∧ w.cell? ⟨b, 3, none⟩ = some x3 ∧ w.cell? ⟨b, 4, none⟩ = some x4 ∧ w.cell? ⟨b, 5, none⟩ = some x5) ∧
    (w.frozen? ⟨b, 0, none⟩ = false ∧ w.frozen? ⟨b, 1, none⟩ = false ∧ w.frozen? ⟨b, 2, none⟩ = false ∧ w.frozen? ⟨b, 3, none⟩ = false ∧ w.frozen? ⟨b, 4, none⟩ = false ∧ w.frozen? ⟨b, 5, none⟩ = false) := by
  refine ⟨⟨?_, ?_, ?_, ?_, ?_, ?_⟩, free_of h 0, free_of h 1, free_of h 2, free_of h 3, free_of h 4, free_of h 5⟩
  all_goals rw [cell_of h]; rfl
theorem FV.isAgg (x : FV) : x.v = .agg #[.int .i64 x.op, x.inn, x.out, .int .i64 x.height, .int .i64 x.fresh, .bool x.dead] := rfl
theorem topM {B : Nat} {w : World} {C : Nat} {lv fv ov : Value} {lo : List LO} {fr : List Int} {ops : List VT} {fs : List FV} {x : FV} {g c : Nat} (h : CHK G B w C lv fv ov (.slice (some ⟨g, 0, none⟩) (fs.length + 1) c) lo fr ops (fs ++ [x])) :
    Calls Tryz.prog 46 #[.pointer (some ⟨C, 0, none⟩)] w fun en w' => en = .returned x.v ∧ Grew w w' := by
  have C2 : Hid (∀ W, Grew w W → Calls Tryz.prog 120 #[.pointer (some ⟨C, 6, none⟩)] W fun en w' => en = .returned (.int .i64 (((fs ++ [x]).length : Nat) : Int)) ∧ w' = W) := fun W gg => heightF_any (h.grew gg)
  have C3 : Hid (∀ W, Grew w W → Calls Tryz.prog 67 #[.pointer (some ⟨C, 6, none⟩), .int .i64 0] W fun en w' => en = .returned (.pointer (some ⟨g, fs.length * 6, none⟩)) ∧ Grew W w') := fun W gg => nthF_any (h.grew gg)
  obtain ⟨g', c', hv, hle, hmx, _, ⟨cur, hcur⟩, hcells⟩ := h.rfs.last
  injection hv with e1 _ _
  injection e1 with e1
  injection e1 with e1 _ _
  subst e1
  have k0 := hcells 0 (by decide)
  have k1 := hcells 1 (by decide)
  have k2 := hcells 2 (by decide)
  have k3 := hcells 3 (by decide)
  have k4 := hcells 4 (by decide)
  have k5 := hcells 5 (by decide)
  obtain ⟨⟨ia, il, ic, hi⟩, ⟨oa, ol, oc, ho⟩⟩ := h.sl x (by simp)
  obtain ⟨op, inn, out, hh, ff, dd⟩ := x
  simp only at hi ho
  subst hi ho
  simp [FV.c] at k0 k1 k2 k3 k4 k5
  have hlen : ((fs ++ [(⟨op, .slice ia il ic, .slice oa ol oc, hh, ff, dd⟩ : FV)]).length : Int) = (fs.length : Int) + 1 := by simp
  simp only [List.length_append, List.length_cons, List.length_nil, Nat.zero_add, Int.natCast_add, Int.natCast_one] at C2
  have d1 : (((fs.length : Int) + 1) == 0) = false := by rw [beq_eq_false_iff_ne]; omega
  have hgl := lt_of_obj hcur
  have d2 : ¬ ((fs.length : Int) + 1 = 0) := by omega
  rw [FV.isAgg]
  simp only
  clear h hcells hcur hlen
  go_enter Tryz.func46, Tryz.ntmps46
  go_wp2_with fail
  refine (C2.out _ ((Grew.refl w).alloc _)).mono ?_
  rintro en w1 ⟨rfl, hw⟩
  obtain rfl := hw.symm
  go_wp2_with fail
  refine (C3.out _ ((Grew.refl w).alloc _)).mono ?_
  rintro en w2 ⟨rfl, g2⟩
  obtain ⟨gg, hl2, B2⟩ := fresh6 g2
  obtain ⟨⟨n0, n1, n2, n3, n4, n5⟩, z0, z1, z2, z3, z4, z5⟩ := six B2
  have G2 : Hid (Grew w w2) := gg
  replace k0 := cell_grew k0 gg
  replace k1 := cell_grew k1 gg
  replace k2 := cell_grew k2 gg
  replace k3 := cell_grew k3 gg
  replace k4 := cell_grew k4 gg
  replace k5 := cell_grew k5 gg
  clear g2 gg C2 C3 B2
  go_wp2_with fail
  refine bodyPost_ret (v := .agg #[.int .i64 op, .slice ia il ic, .slice oa ol oc, .int .i64 (hh : Int), .int .i64 (ff : Int), .bool dd]) (by simp [results, Tryz.results46, go_sem, n0, n1, n2, n3, n4, n5]) rfl ?_
  exact ⟨rfl, ((((((G2.out.set (p := ⟨w.heap.size, 0, none⟩) (Nat.le_refl _) _).set (p := ⟨w.heap.size, 1, none⟩) (Nat.le_refl _) _).set (p := ⟨w.heap.size, 2, none⟩) (Nat.le_refl _) _).set (p := ⟨w.heap.size, 3, none⟩) (Nat.le_refl _) _).set (p := ⟨w.heap.size, 4, none⟩) (Nat.le_refl _) _).set (p := ⟨w.heap.size, 5, none⟩) (Nat.le_refl _) _)⟩
theorem heightM {B : Nat} {w : World} {C : Nat} {lv fv ov qv : Value} {lo : List LO} {fr : List Int} {ops : List VT} {fs : List FV} (h : CHK G B w C lv fv ov qv lo fr ops fs) :
    Calls Tryz.prog 142 #[.pointer (some ⟨C, 0, none⟩)] w fun en w' => en = .returned (.int .i64 (ops.length : Int)) ∧ w' = w := by
  have C1 := zeroMk h
  have C2 := heightV_any h
  clear h
  go_enter Tryz.func142, Tryz.ntmps142
  go_wp2_with fail
  refine C1.mono ?_
  rintro en w1 ⟨rfl, hw⟩
  obtain rfl := hw.symm
  go_wp2_with fail
  refine C2.mono ?_
  rintro en w1 ⟨rfl, hw⟩
  obtain rfl := hw.symm
  go_wp2_with fail
  go_ret
  exact ⟨rfl, rfl⟩
theorem lst_rawP {α : Type} {k : Nat} {E : World → Nat → Nat → α → Prop} (P : α → List Value → Prop) (hk : 0 < k) {w : World} {v : Value} {l : List α} (h : Lst k E w v l)
    (hE : ∀ b o x, E w b o x → ∃ c : List Value, c.length = k ∧ (∀ u ∈ c, u.oneCell' = true) ∧ (∀ j, j < k → w.cell? ⟨b, o + j, none⟩ = c[j]?) ∧ P x c) :
    ∃ f : Nat → List Value, (∀ i, (f i).length = k) ∧ Raw k w v l.length ((List.range l.length).flatMap f) ∧ ∀ i x, l[i]? = some x → P x (f i) := by
  obtain ⟨a, cap, hv, hl, hm, hz, h3⟩ := h
  rcases h3 with rfl | ⟨b, off, ha, hc⟩
  · refine ⟨fun _ => List.replicate k (.int .i64 0), fun _ => by simp, ⟨by simp, by simp, a, cap, hv, hl, hm, hz, Or.inl rfl⟩, fun i x hx => by simp at hx⟩
  · have ex : ∀ i, ∃ c : List Value, c.length = k ∧ (∀ u ∈ c, u.oneCell' = true) ∧ ∀ x, l[i]? = some x → (∀ j, j < k → w.cell? ⟨b, off + i * k + j, none⟩ = c[j]?) ∧ P x c := by
      intro i
      cases hx : l[i]? with
      | none => exact ⟨List.replicate k (.int .i64 0), by simp, fun u hu => by rw [List.eq_of_mem_replicate hu]; rfl, fun x hx => by cases hx⟩
      | some x =>
        obtain ⟨c, c1, c2, c3, c4⟩ := hE _ _ _ (hc i x hx)
        exact ⟨c, c1, c2, fun y hy => by injection hy with hy; subst hy; exact ⟨c3, c4⟩⟩
    refine ⟨fun i => Classical.choose (ex i), fun i => (Classical.choose_spec (ex i)).1, ?_, fun i x hx => ((Classical.choose_spec (ex i)).2.2 x hx).2⟩
    have key : Lst k (fun w b o i => o = off + i * k → b = b → ∀ j, j < k → w.cell? ⟨b, o + j, none⟩ = (Classical.choose (ex i))[j]?) w v (List.range l.length) := by
      refine ⟨a, cap, by simpa using hv, by simpa using hl, hm, hz, Or.inr ⟨b, off, ha, fun i x hx => ?_⟩⟩
      obtain ⟨hlt, he⟩ := List.getElem?_eq_some_iff.1 hx
      simp only [List.getElem_range] at he
      subst he
      simp only [List.length_range] at hlt
      intro _ _ j hj
      exact ((Classical.choose_spec (ex i)).2.2 _ (List.getElem?_eq_getElem hlt)).1 j hj
    have hlen : ((List.range l.length).flatMap fun i => Classical.choose (ex i)).length = l.length * k := by
      have : ∀ L : List Nat, (L.flatMap fun i => Classical.choose (ex i)).length = L.length * k := by
        intro L
        induction L with
        | nil => simp
        | cons y L ih => rw [List.flatMap_cons, List.length_append, (Classical.choose_spec (ex y)).1, ih, List.length_cons, Nat.succ_mul]; omega
      rw [this]; simp
    refine ⟨hlen, ?_, a, cap, hv, hl, hm, hz, Or.inr ⟨b, off, ha, fun j u hj => ?_⟩⟩
    · intro c hc'
      obtain ⟨y, _, hy⟩ := List.mem_flatMap.1 hc'
      exact (Classical.choose_spec (ex y)).2.1 c hy
    · have hjl := (List.getElem?_eq_some_iff.1 hj).1
      rw [hlen] at hjl
      have hq : j / k < l.length := Nat.div_lt_of_lt_mul (by rw [Nat.mul_comm]; exact hjl)
      have hm' : j % k < k := Nat.mod_lt _ hk
      have e3 : j / k * k + j % k = j := by have := Nat.div_add_mod j k; rw [Nat.mul_comm] at this; omega
      have hr : (List.range l.length)[j / k]? = some (j / k) := by rw [List.getElem?_range hq]
      have h5 := flat_at (fun i => Classical.choose (ex i)) k (fun i => (Classical.choose_spec (ex i)).1) (List.range l.length) (j / k) (j / k) (j % k) hr hm'
      rw [e3] at h5
      have h6 := ((Classical.choose_spec (ex (j / k))).2.2 _ (List.getElem?_eq_getElem hq)).1 (j % k) hm'
      rw [show off + j / k * k + j % k = off + j by omega] at h6
      rw [h6, ← h5]
      exact hj
theorem slice_one {α : Type} {k : Nat} {E : World → Nat → Nat → α → Prop} {w : World} {v : Value} {l : List α} (h : Lst k E w v l) : v.oneCell' = true := by
  obtain ⟨a, cap, rfl, _⟩ := h.one
  cases a <;> rfl
/- What the cells of one type hold. -/
def CellS (w : World) (x : SB) (c : List Value) : Prop := ∃ sv pv rv fv, SubR w x sv pv rv fv ∧ c = [.bool x.final_, sv, .int .i64 x.comp.kind, pv, rv, fv]
def CellR (w : World) (x : RT) (c : List Value) : Prop := ∃ tv, LS w tv x.types ∧ c = [tv, .bool x.explicit]
theorem LS.raw {w : World} {v : Value} {l : List SB} (h : LS w v l) : ∃ f : Nat → List Value, (∀ i, (f i).length = 6) ∧ Raw 6 w v l.length ((List.range l.length).flatMap f) ∧ ∀ i x, l[i]? = some x → CellS w x (f i) := by
  refine lst_rawP (E := ES) (CellS w) (by decide) h ?_
  rintro b o x ⟨sv, pv, rv, fv, hs, h0, h1, h2, h3, h4, h5⟩
  refine ⟨[.bool x.final_, sv, .int .i64 x.comp.kind, pv, rv, fv], rfl, ?_, ?_, sv, pv, rv, fv, hs, rfl⟩
  · intro u hu
    simp only [List.mem_cons, List.not_mem_nil, or_false] at hu
    rcases hu with rfl | rfl | rfl | rfl | rfl | rfl
    · rfl
    · exact slice_one hs.1
    · rfl
    · exact slice_one hs.2.1
    · exact slice_one hs.2.2.1
    · exact slice_one hs.2.2.2
  · intro j hj
    match j, hj with
    | 0, _ => exact h0
    | 1, _ => exact h1
    | 2, _ => exact h2
    | 3, _ => exact h3
    | 4, _ => exact h4
    | 5, _ => exact h5
theorem LR.raw {w : World} {v : Value} {l : List RT} (h : LR w v l) : ∃ f : Nat → List Value, (∀ i, (f i).length = 2) ∧ Raw 2 w v l.length ((List.range l.length).flatMap f) ∧ ∀ i x, l[i]? = some x → CellR w x (f i) := by
  refine lst_rawP (E := ER) (CellR w) (by decide) h ?_
  rintro b o x ⟨tv, hs, h0, h1⟩
  refine ⟨[tv, .bool x.explicit], rfl, ?_, ?_, tv, hs, rfl⟩
  · intro u hu
    simp only [List.mem_cons, List.not_mem_nil, or_false] at hu
    rcases hu with rfl | rfl
    · exact slice_one hs
    · rfl
  · intro j hj
    match j, hj with
    | 0, _ => exact h0
    | 1, _ => exact h1
/- The row of copied types: those from the i-th on are as they were. -/
def RestS (w wr : World) (R : Nat) (l : List SB) (i : Nat) : Prop := ∃ cur : Array Value, wr.heap[R]? = some (.cells cur 121 (0, 0)) ∧ cur.size = l.length * 6 ∧ ∀ j x, i ≤ j → l[j]? = some x → ∃ sv pv rv fv, SubR w x sv pv rv fv ∧ cur[j * 6 + 1]? = some sv ∧ cur[j * 6 + 3]? = some pv ∧ cur[j * 6 + 4]? = some rv ∧ cur[j * 6 + 5]? = some fv
def RestR (w wr : World) (R : Nat) (l : List RT) (i : Nat) : Prop := ∃ cur : Array Value, wr.heap[R]? = some (.cells cur 115 (0, 0)) ∧ cur.size = l.length * 2 ∧ ∀ j x, i ≤ j → l[j]? = some x → ∃ tv, LS w tv x.types ∧ cur[j * 2]? = some tv
theorem RestS.of {w wr : World} {R : Nat} {l : List SB} {f : Nat → List Value} (hf : ∀ i, (f i).length = 6) (hc : ∀ i x, l[i]? = some x → CellS w x (f i)) (h : wr.heap[R]? = some (.cells ((List.range l.length).flatMap f).toArray 121 (0, 0))) : RestS w wr R l 0 := by
  have hat : ∀ i j, i < l.length → j < 6 → ((List.range l.length).flatMap f).toArray[i * 6 + j]? = (f i)[j]? := fun i j hi hj => by
    rw [List.getElem?_toArray]
    exact flat_at f 6 hf _ i i j (by rw [List.getElem?_range hi]) hj
  have hlen : ((List.range l.length).flatMap f).length = l.length * 6 := by
    have : ∀ L : List Nat, (L.flatMap f).length = L.length * 6 := by
      intro L
      induction L with
      | nil => simp
      | cons y L ih => rw [List.flatMap_cons, List.length_append, hf, ih, List.length_cons, Nat.succ_mul]; omega
    rw [this]; simp
  refine ⟨_, h, by simpa using hlen, fun j x _ hx => ?_⟩
  have hj := (List.getElem?_eq_some_iff.1 hx).1
  obtain ⟨sv, pv, rv, fv, hs, he⟩ := hc j x hx
  exact ⟨sv, pv, rv, fv, hs, by rw [hat j 1 hj (by decide), he]; rfl, by rw [hat j 3 hj (by decide), he]; rfl, by rw [hat j 4 hj (by decide), he]; rfl, by rw [hat j 5 hj (by decide), he]; rfl⟩
theorem RestR.of {w wr : World} {R : Nat} {l : List RT} {f : Nat → List Value} (hf : ∀ i, (f i).length = 2) (hc : ∀ i x, l[i]? = some x → CellR w x (f i)) (h : wr.heap[R]? = some (.cells ((List.range l.length).flatMap f).toArray 115 (0, 0))) : RestR w wr R l 0 := by
  have hat : ∀ i j, i < l.length → j < 2 → ((List.range l.length).flatMap f).toArray[i * 2 + j]? = (f i)[j]? := fun i j hi hj => by
    rw [List.getElem?_toArray]
    exact flat_at f 2 hf _ i i j (by rw [List.getElem?_range hi]) hj
  have hlen : ((List.range l.length).flatMap f).length = l.length * 2 := by
    have : ∀ L : List Nat, (L.flatMap f).length = L.length * 2 := by
      intro L
      induction L with
      | nil => simp
      | cons y L ih => rw [List.flatMap_cons, List.length_append, hf, ih, List.length_cons, Nat.succ_mul]; omega
    rw [this]; simp
  refine ⟨_, h, by simpa using hlen, fun j x _ hx => ?_⟩
  have hj := (List.getElem?_eq_some_iff.1 hx).1
  obtain ⟨tv, hs, he⟩ := hc j x hx
  refine ⟨tv, hs, ?_⟩
  have := hat j 0 hj (by decide)
  rw [Nat.add_zero] at this
  rw [this, he]; rfl
theorem RestS.grew {w wr wr' : World} {R : Nat} {l : List SB} {i : Nat} (h : RestS w wr R l i) (g : Grew wr wr') : RestS w wr' R l i := by
  obtain ⟨cur, h0, h1, h2⟩ := h
  exact ⟨cur, (g.turn []).other h0 (by simp), h1, h2⟩
theorem RestR.grew {w wr wr' : World} {R : Nat} {l : List RT} {i : Nat} (h : RestR w wr R l i) (g : Grew wr wr') : RestR w wr' R l i := by
  obtain ⟨cur, h0, h1, h2⟩ := h
  exact ⟨cur, (g.turn []).other h0 (by simp), h1, h2⟩
theorem RestS.le {w wr : World} {R : Nat} {l : List SB} {i i' : Nat} (h : RestS w wr R l i) (hi : i ≤ i') : RestS w wr R l i' := by
  obtain ⟨cur, h0, h1, h2⟩ := h
  exact ⟨cur, h0, h1, fun j x hj => h2 j x (by omega)⟩
theorem RestS.set {w wr : World} {R : Nat} {l : List SB} {i : Nat} (h : RestS w wr R l (i + 1)) {q : Nat} (hq : q < i * 6 + 6) (u : Value) : RestS w (wr.setCell ⟨R, q, none⟩ u) R l (i + 1) := by
  obtain ⟨cur, h0, h1, h2⟩ := h
  refine ⟨_, heap_set h0 _ _, by simpa using h1, fun j x hj hx => ?_⟩
  obtain ⟨sv, pv, rv, fv, hs, a, b, c, d⟩ := h2 j x hj hx
  refine ⟨sv, pv, rv, fv, hs, ?_, ?_, ?_, ?_⟩ <;> rw [Array.getElem?_setIfInBounds_ne (by omega)] <;> assumption
theorem RestS.other {w wr : World} {R : Nat} {l : List SB} {i : Nat} (h : RestS w wr R l i) {p : Addr} (hp : R ≠ p.block) (u : Value) : RestS w (wr.setCell p u) R l i := by
  obtain ⟨cur, h0, h1, h2⟩ := h
  exact ⟨cur, heap_other h0 hp u, h1, h2⟩
theorem RestR.set {w wr : World} {R : Nat} {l : List RT} {i : Nat} (h : RestR w wr R l i) {q : Nat} (hq : q < i * 2 + 2) (u : Value) : RestR w (wr.setCell ⟨R, q, none⟩ u) R l (i + 1) := by
  obtain ⟨cur, h0, h1, h2⟩ := h
  refine ⟨_, heap_set h0 _ _, by simpa using h1, fun j x hj hx => ?_⟩
  obtain ⟨tv, hs, a⟩ := h2 j x (by omega) hx
  refine ⟨tv, hs, ?_⟩
  rw [Array.getElem?_setIfInBounds_ne (by omega)]
  exact a
theorem RestR.other {w wr : World} {R : Nat} {l : List RT} {i : Nat} (h : RestR w wr R l i) {p : Addr} (hp : R ≠ p.block) (u : Value) : RestR w (wr.setCell p u) R l i := by
  obtain ⟨cur, h0, h1, h2⟩ := h
  exact ⟨cur, heap_other h0 hp u, h1, h2⟩
end Go.Proofs.YtikaidokllnifaaGreatDoor
