/-
  The program's Uses; no statement is proved here.
-/
import Derived.Test.YtoihkcdjfhmccaaDoorEachU
import Derived.Test.YtoihkcdjfhmccaaDoorRepS
import Derived.Deep.RegionLaw
namespace Go.Proofs.YtoihkcdjfhmccaaDoor
open Go.RowKit
set_option linter.unusedVariables false
set_option linter.unusedSimpArgs false

def lobj (v : Value) : Obj := .cells #[v] 35 (0, 0)
/- What the closure may turn: the variable, and rows of numbers from B on. -/
structure UT (ob B : Nat) (w w' : World) : Prop where
  turn : TurnP (fun k => k = ob ∨ B ≤ k) w w'
  keep : ∀ (b : Nat) (cs : Array Value) (t : TypeId), t ≠ 3 → t ≠ 35 → w.heap[b]? = some (Obj.cells cs t (0, 0)) → w'.heap[b]? = some (Obj.cells cs t (0, 0))
theorem UT.grew {ob B : Nat} {w w' : World} (g : Grew w w') : UT ob B w w' := ⟨g.turnP _, fun b cs t _ _ h => g.other h⟩
theorem UT.trans {ob B : Nat} {a b c : World} (h : UT ob B a b) (k : UT ob B b c) : UT ob B a c := ⟨h.turn.trans k.turn, fun b cs t h1 h2 ho => k.keep b cs t h1 h2 (h.keep b cs t h1 h2 ho)⟩
/- The variable holds a row of these numbers. -/
def UsO (ob B : Nat) (l : List Int) (w : World) : Prop := ∃ v, w.heap[ob]? = some (lobj v) ∧ RowI B w v l ∧ B ≤ w.heap.size
theorem UsO.grew {ob B : Nat} {l : List Int} {w w' : World} (h : UsO ob B l w) (g : Grew w w') : UsO ob B l w' := by
  obtain ⟨v, h1, h2, h3⟩ := h
  exact ⟨v, g.other h1, h2.grew g, Nat.le_trans h3 g.2⟩
def useL (h : Int) : List Int := if 0 ≤ h then [h] else []
set_option maxRecDepth 100000 in
set_option maxHeartbeats 1000000 in
theorem use_any {w : World} {g j ob B : Nat} {h : Int} {l : List Int} (hc : w.cell? ⟨g, j, none⟩ = some (.int .i64 h)) (hu : UsO ob B l w) (hob : ob < B) (hl : l.length ≤ 4194303) :
    Calls Tryd.prog 33 #[.pointer (some ⟨g, j, none⟩), .pointer (some ⟨ob, 0, none⟩)] w fun e w' => e = .returned UNIT ∧ UsO ob B (l ++ useL h) w' ∧ UT ob B w w' := by
  unfold UNIT
  by_cases h0 : 0 ≤ h
  · obtain ⟨v, ho, hr, hB⟩ := hu
    obtain ⟨va, vc, ev, _⟩ := row_max hr
    subst ev
    have HO : Hid (w.heap[ob]? = some (lobj (.slice va l.length vc))) := ho
    have HR : Hid (RowI B w (.slice va l.length vc) l) := hr
    have e : useL h = [h] := by unfold useL; rw [if_pos h0]
    rw [e]
    have co := cell_of ho 0
    have cf := free_of ho 0
    simp at co
    have hgl := lt_of_cell hc
    have hol := lt_of_obj ho
    clear ho hr e
    go_enter Tryd.func33, Tryd.ntmps33
    go_wp2_with fail
    go_region_law (first
      | (refine step_app1 (v := .slice va l.length vc) (n := l.length) (cs := l.flatMap ic1) (B := B) (new := ic1 h) (gx := w.heap.size) rfl _ _ 35 3 1 8 _ Tryd.underlying35 infoI rfl (by decide) (by decide) rfl B rfl rfl (row_grew HR.out (by first | exact ((Grew.refl w).alloc _).drew | exact ((Grew.refl w).drew).alloc _ | exact (Grew.refl w).alloc _)) (by simp; omega) rfl ?_ (by simp [ic1, Value.oneCell']) (by omega) ?_
         · intro j' hj'
           obtain rfl : j' = 0 := by omega
           first | exact cell_of (heap_alloc_last w _) 0 | (simp [ic1]; done)
         intro v3 w3 hO3 hT3 hG3
         obtain ⟨a3, q3, ev3, _⟩ := row_max hO3
         subst ev3
         have o3 : w3.heap[ob]? = some (lobj (.slice va l.length vc)) := (hG3 ob (by simp; omega) (fun hh => by have := (World.ownsRow.lt HR.out ob hh.symm).1; omega)).trans (heap_alloc HO.out _)
         have co3 := cell_of o3 0
         have cf3 := free_of o3 0
         simp at co3
         have O3 : Hid (w3.heap[ob]? = some (lobj (.slice va l.length vc))) := o3
         have R3 : Hid (RowI B w3 (.slice a3 (l.length + 1) q3) (l ++ [h])) := RowI.snoc hO3
         have Z3 : Hid (w.heap.size ≤ w3.heap.size) := (by have := hT3.size; simp at this; omega : w.heap.size ≤ w3.heap.size)
         have T3 : Hid (TurnP (fun k => B ≤ k) w w3) := ⟨hT3.os, hT3.tape, hT3.output, Z3.out, fun k hk hn => (hT3.block k (by simp; omega) (by omega) (by omega)).trans (Below.heap_alloc _ _ _ hk)⟩
         have K3 : Hid (∀ (b : Nat) (cs : Array Value) (t : TypeId), t ≠ 3 → w.heap[b]? = some (Obj.cells cs t (0, 0)) → w3.heap[b]? = some (Obj.cells cs t (0, 0))) := fun b cs t ht hb => by
           refine (hG3 b (by have := lt_of_obj hb; simp; omega) (fun hh => ?_)).trans (heap_alloc hb _)
           obtain ⟨cur, hcur⟩ := row_tag HR.out hh.symm
           rw [hb] at hcur
           injection hcur with q'
           injection q' with _ q2 _
           exact ht q2
         clear hG3 hT3 hO3 o3))
    all_goals go_wp2_with fail
    all_goals (try go_end0)
    all_goals
      have hz3 := Z3.out
      have tp : TurnP (fun k => k = ob) w3 (w3.setCell ⟨ob, 0, none⟩ (.slice a3 (l.length + 1) q3)) := (TurnP.refl (fun k => k = ob) w3).set (p := ⟨ob, 0, none⟩) rfl _
      refine ⟨rfl, ⟨_, heap_set O3.out 0 _, row_set R3.out (NoT.of O3.out (by decide)) _, by simp [World.setCell]; omega⟩, ⟨(T3.out.mono (fun k _ hk => Or.inr hk)).trans (tp.mono (fun k _ hk => Or.inl hk)), fun b cs t h1 h2 hb => ?_⟩⟩
      refine tp.other (K3.out b cs t h1 hb) (fun hx => ?_)
      subst hx
      rw [HO.out] at hb
      injection hb with q'
      unfold lobj at q'
      injection q' with _ q2 _
      exact h2 q2.symm
  · have e : useL h = [] := by unfold useL; rw [if_neg h0]
    rw [e, List.append_nil]
    have HU : Hid (UsO ob B l w) := hu
    clear hu e
    go_enter Tryd.func33, Tryd.ntmps33
    go_wp2_with fail
    try go_end0
    exact ⟨rfl, HU.out, UT.grew (Grew.refl w)⟩
def useV (v : VT) : List Int := if v.num = 5 ∧ absB v.heap = false then useL v.heap else []
def usesL (x : SB) : List Int := x.supers.flatMap useL ++ x.comp.ofK.params.flatMap useV ++ x.comp.ofK.results.flatMap useV ++ (x.comp.ofK.fields.map FT.ty).flatMap useV
theorem useL_len (h : Int) : (useL h).length ≤ 1 := by unfold useL; split <;> simp
theorem useV_len (v : VT) : (useV v).length ≤ 1 := by unfold useV; split; exact useL_len _; simp
theorem flat_len {α : Type} {f : α → List Int} (hf : ∀ a, (f a).length ≤ 1) (l : List α) : (l.flatMap f).length ≤ l.length := by
  induction l with
  | nil => simp
  | cons a l ih => rw [List.flatMap_cons, List.length_append, List.length_cons]; have := hf a; omega
theorem flat_snoc {α : Type} {f : α → List Int} {l : List α} {i : Nat} {x : α} (h : l[i]? = some x) : (l.take (i + 1)).flatMap f = (l.take i).flatMap f ++ f x := by
  rw [take_snoc h, List.flatMap_append]; simp
theorem cell_ut {ob B : Nat} {w w' : World} (t : UT ob B w w') (hob : w.heap.size ≤ ob + 1) {b o : Nat} {v : Value} (h : w.cell? ⟨b, o, none⟩ = some v) (hb : b < ob) (hB : b < B) : w'.cell? ⟨b, o, none⟩ = some v := by
  have hh := t.turn.block b (lt_of_cell h) (by omega)
  unfold World.cell? at h ⊢
  rw [hh]; exact h
set_option maxHeartbeats 1000000 in
theorem eachU_any {w : World} {x : SB} {sv pv rv fv : Value} {ob : Nat} (h : SubR w x sv pv rv fv) (hm : Sml x) (hob : w.heap.size = ob + 1) (hu : w.heap[ob]? = some (lobj NILS))
    (hE : ∀ b, (∃ o v, w.cell? ⟨b, o, none⟩ = some (.int .i64 v)) → b < ob) :
    Calls Tryd.prog 32 #[.agg #[.bool x.final_, sv, .int .i64 x.comp.kind, pv, rv, fv], .func (.func 33) #[] #[.pointer (some ⟨ob, 0, none⟩)]] w fun e w' => e = .returned UNIT ∧ UsO ob (ob + 1) (usesL x) w' ∧ UT ob (ob + 1) w w' := by
  obtain ⟨k1, k2, k3⟩ := ofK_rd h
  obtain ⟨sa, sc, hsv, hsl, _⟩ := h.1.one
  obtain ⟨pa, pc, hpv, hpl, _⟩ := k1.one
  obtain ⟨ra, rc, hrv, hrl, _⟩ := k2.one
  obtain ⟨fa, fc, hfv, hfl, _⟩ := k3.one
  obtain ⟨m1, m2, m3⟩ := ofK_sml hm
  have xp : ∃ a n c, pv = .slice a n c := by obtain ⟨a, c, h, _⟩ := h.2.1.one; exact ⟨a, _, c, h⟩
  have xr : ∃ a n c, rv = .slice a n c := by obtain ⟨a, c, h, _⟩ := h.2.2.1.one; exact ⟨a, _, c, h⟩
  have xf : ∃ a n c, fv = .slice a n c := by obtain ⟨a, c, h, _⟩ := h.2.2.2.one; exact ⟨a, _, c, h⟩
  have ps : ∃ b o, (0 < x.supers.length → sa = some ⟨b, o, none⟩) ∧ ∀ i y, x.supers[i]? = some y → EI w b (o + i * 1) y := by
    rcases Nat.eq_zero_or_pos x.supers.length with h0 | h0
    · exact ⟨0, 0, fun h => by omega, fun i y hy => by have := (List.getElem?_eq_some_iff.1 hy).1; omega⟩
    · have h1 := h.1; rw [hsv] at h1
      obtain ⟨b, o, ha, _, hc⟩ := h1.get h0
      exact ⟨b, o, fun _ => ha, hc⟩
  have pp : ∃ b o, (0 < x.comp.ofK.params.length → pa = some ⟨b, o, none⟩) ∧ ∀ i y, x.comp.ofK.params[i]? = some y → EV w b (o + i * 3) y := by
    rcases Nat.eq_zero_or_pos x.comp.ofK.params.length with h0 | h0
    · exact ⟨0, 0, fun h => by omega, fun i y hy => by have := (List.getElem?_eq_some_iff.1 hy).1; omega⟩
    · rw [hpv] at k1
      obtain ⟨b, o, ha, _, hc⟩ := k1.get h0
      exact ⟨b, o, fun _ => ha, hc⟩
  have pr : ∃ b o, (0 < x.comp.ofK.results.length → ra = some ⟨b, o, none⟩) ∧ ∀ i y, x.comp.ofK.results[i]? = some y → EV w b (o + i * 3) y := by
    rcases Nat.eq_zero_or_pos x.comp.ofK.results.length with h0 | h0
    · exact ⟨0, 0, fun h => by omega, fun i y hy => by have := (List.getElem?_eq_some_iff.1 hy).1; omega⟩
    · rw [hrv] at k2
      obtain ⟨b, o, ha, _, hc⟩ := k2.get h0
      exact ⟨b, o, fun _ => ha, hc⟩
  have pf : ∃ b o, (0 < x.comp.ofK.fields.length → fa = some ⟨b, o, none⟩) ∧ ∀ i y, x.comp.ofK.fields[i]? = some y → EF w b (o + i * 4) y := by
    rcases Nat.eq_zero_or_pos x.comp.ofK.fields.length with h0 | h0
    · exact ⟨0, 0, fun h => by omega, fun i y hy => by have := (List.getElem?_eq_some_iff.1 hy).1; omega⟩
    · rw [hfv] at k3
      obtain ⟨b, o, ha, _, hc⟩ := k3.get h0
      exact ⟨b, o, fun _ => ha, hc⟩
  obtain ⟨sb, so, as_, es⟩ := ps
  obtain ⟨pb, po, ap, ep⟩ := pp
  obtain ⟨rb, ro, ar, er⟩ := pr
  obtain ⟨fb, fo, af, ef⟩ := pf
  have hm1 := hm.1
  have cu : ∀ w', UT ob (ob + 1) w w' → ∀ b o v, w.cell? ⟨b, o, none⟩ = some (.int .i64 v) → w'.cell? ⟨b, o, none⟩ = some (.int .i64 v) := fun w' t b o v hc => cell_ut t (by omega) hc (hE b ⟨o, v, hc⟩) (by have := hE b ⟨o, v, hc⟩; omega)
  have cb : ∀ w', UT ob (ob + 1) w w' → ∀ b o o2 u v, w.cell? ⟨b, o, none⟩ = some (.int .i64 v) → w.cell? ⟨b, o2, none⟩ = some u → w'.cell? ⟨b, o2, none⟩ = some u := fun w' t b o o2 u v hc hu => cell_ut t (by omega) hu (hE b ⟨o, v, hc⟩) (by have := hE b ⟨o, v, hc⟩; omega)
  have ev : ∀ w', UT ob (ob + 1) w w' → ∀ b o y, EV w b o y → EV w' b o y := fun w' t b o y hy => ⟨cu w' t _ _ _ hy.1, cb w' t _ _ _ _ _ hy.1 hy.2.1, cu w' t _ _ _ hy.2.2⟩
  rw [hsv]
  have main := each_use (w := w) (T := UT ob (ob + 1))
    (Is := fun i w' => UsO ob (ob + 1) ((x.supers.take i).flatMap useL) w')
    (Ip := fun i w' => UsO ob (ob + 1) (x.supers.flatMap useL ++ (x.comp.ofK.params.take i).flatMap useV) w')
    (Ir := fun i w' => UsO ob (ob + 1) (x.supers.flatMap useL ++ x.comp.ofK.params.flatMap useV ++ (x.comp.ofK.results.take i).flatMap useV) w')
    (If := fun i w' => UsO ob (ob + 1) (x.supers.flatMap useL ++ x.comp.ofK.params.flatMap useV ++ x.comp.ofK.results.flatMap useV ++ ((x.comp.ofK.fields.take i).map FT.ty).flatMap useV) w')
    (fin := x.final_) (kind := x.comp.kind) (sb := sb) (so := so) (pb := pb) (po := po) (rb := rb) (ro := ro) (fb := fb) (fo := fo) (c1 := .pointer (some ⟨ob, 0, none⟩))
    hpv hrv hfv xp xr xf as_ ap ar af hsl hpl hrl hfl hm1 m1 m2 m3
    (fun w' w'' g => UT.grew g) (fun a b c h k => h.trans k) (fun a b h => h.turn.size) (fun w' w'' t b' hb' cs t' ht' ho => t.keep b' cs t' (by rcases ht' with e | e <;> rw [e] <;> decide) (by rcases ht' with e | e <;> rw [e] <;> decide) ho)
    ⟨NILS, hu, RowI.nil _ _, by omega⟩ (fun i w' w'' h g => h.grew g) (fun i w' w'' h g => h.grew g)
    (fun w' h => by rw [List.take_length] at h; simpa using h) (fun w' h => by rw [List.take_length] at h; simpa using h) (fun w' h => by rw [List.take_length] at h; simpa using h) ?_ ?_ ?_ ?_
  · rw [List.take_length] at main
    exact main
  · intro i hi w' I t
    have hx : x.supers[i]? = some x.supers[i] := List.getElem?_eq_getElem hi
    have hc := cu w' t _ _ _ (es i _ hx)
    rw [Nat.mul_one] at hc
    have hl1 := flat_len useL_len (x.supers.take i)
    rw [List.length_take] at hl1
    refine (use_any hc I (Nat.lt_succ_self _) (by omega)).mono ?_
    rintro e w2 ⟨rfl, u2, t2⟩
    refine ⟨rfl, ?_, t2⟩
    show UsO ob (ob + 1) ((x.supers.take (i + 1)).flatMap useL) w2
    rw [flat_snoc hx]
    exact u2
  · intro i hi w' I t
    have hx : x.comp.ofK.params[i]? = some x.comp.ofK.params[i] := List.getElem?_eq_getElem hi
    have hv := ev w' t _ _ _ (ep i _ hx)
    have l1 := flat_len useL_len x.supers
    have l2 := flat_len useV_len x.comp.ofK.params
    have l3 := flat_len useV_len x.comp.ofK.results
    have l4 := flat_len useV_len (x.comp.ofK.params.take i)
    rw [List.length_take] at l4
    refine heapOf_use (x := x.comp.ofK.params[i]) hv (fun w'' => UsO ob (ob + 1) (x.supers.flatMap useL ++ (x.comp.ofK.params.take (i + 1)).flatMap useV) w'' ∧ UT ob (ob + 1) w' w'') (fun h5 hb5 => ?_) (fun hn => ?_)
    · refine (use_any hv.2.2 I (Nat.lt_succ_self _) (by simp only [List.length_append]; omega)).mono ?_
      rintro e w2 ⟨rfl, u2, t2⟩
      refine ⟨rfl, ?_, t2⟩
      have e0 : useV x.comp.ofK.params[i] = useL x.comp.ofK.params[i].heap := by unfold useV; rw [if_pos ⟨h5, hb5⟩]
      rw [flat_snoc hx, ← List.append_assoc]
      skip
      rw [e0]
      exact u2
    · refine ⟨?_, UT.grew (Grew.refl _)⟩
      have e0 : useV x.comp.ofK.params[i] = [] := by
        unfold useV; rw [if_neg]
        rintro ⟨h5, hb5⟩
        rw [hn h5] at hb5
        cases hb5
      rw [flat_snoc hx, ← List.append_assoc]
      skip
      rw [e0, List.append_nil]
      exact I
  · intro i hi w' I t
    have hx : x.comp.ofK.results[i]? = some x.comp.ofK.results[i] := List.getElem?_eq_getElem hi
    have hv := ev w' t _ _ _ (er i _ hx)
    have l1 := flat_len useL_len x.supers
    have l2 := flat_len useV_len x.comp.ofK.params
    have l3 := flat_len useV_len x.comp.ofK.results
    have l4 := flat_len useV_len (x.comp.ofK.results.take i)
    rw [List.length_take] at l4
    refine heapOf_use (x := x.comp.ofK.results[i]) hv (fun w'' => UsO ob (ob + 1) (x.supers.flatMap useL ++ x.comp.ofK.params.flatMap useV ++ (x.comp.ofK.results.take (i + 1)).flatMap useV) w'' ∧ UT ob (ob + 1) w' w'') (fun h5 hb5 => ?_) (fun hn => ?_)
    · refine (use_any hv.2.2 I (Nat.lt_succ_self _) (by simp only [List.length_append]; omega)).mono ?_
      rintro e w2 ⟨rfl, u2, t2⟩
      refine ⟨rfl, ?_, t2⟩
      have e0 : useV x.comp.ofK.results[i] = useL x.comp.ofK.results[i].heap := by unfold useV; rw [if_pos ⟨h5, hb5⟩]
      rw [flat_snoc hx, ← List.append_assoc]
      skip
      rw [e0]
      exact u2
    · refine ⟨?_, UT.grew (Grew.refl _)⟩
      have e0 : useV x.comp.ofK.results[i] = [] := by
        unfold useV; rw [if_neg]
        rintro ⟨h5, hb5⟩
        rw [hn h5] at hb5
        cases hb5
      rw [flat_snoc hx, ← List.append_assoc]
      skip
      rw [e0, List.append_nil]
      exact I
  · intro i hi w' I t
    have hx : x.comp.ofK.fields[i]? = some x.comp.ofK.fields[i] := List.getElem?_eq_getElem hi
    have hv := ev w' t _ _ _ (ef i _ hx).1
    have l1 := flat_len useL_len x.supers
    have l2 := flat_len useV_len x.comp.ofK.params
    have l3 := flat_len useV_len x.comp.ofK.results
    have l4 := flat_len useV_len ((x.comp.ofK.fields.take i).map FT.ty)
    rw [List.length_map, List.length_take] at l4
    refine heapOf_use (x := x.comp.ofK.fields[i].ty) hv (fun w'' => UsO ob (ob + 1) (x.supers.flatMap useL ++ x.comp.ofK.params.flatMap useV ++ x.comp.ofK.results.flatMap useV ++ ((x.comp.ofK.fields.take (i + 1)).map FT.ty).flatMap useV) w'' ∧ UT ob (ob + 1) w' w'') (fun h5 hb5 => ?_) (fun hn => ?_)
    · refine (use_any hv.2.2 I (Nat.lt_succ_self _) (by simp only [List.length_append]; omega)).mono ?_
      rintro e w2 ⟨rfl, u2, t2⟩
      refine ⟨rfl, ?_, t2⟩
      have e0 : useV x.comp.ofK.fields[i].ty = useL x.comp.ofK.fields[i].ty.heap := by unfold useV; rw [if_pos ⟨h5, hb5⟩]
      rw [take_snoc hx, List.map_append, List.flatMap_append, ← List.append_assoc]
      simp only [List.map_cons, List.map_nil, List.flatMap_cons, List.flatMap_nil, List.append_nil]
      rw [e0]
      exact u2
    · refine ⟨?_, UT.grew (Grew.refl _)⟩
      have e0 : useV x.comp.ofK.fields[i].ty = [] := by
        unfold useV; rw [if_neg]
        rintro ⟨h5, hb5⟩
        rw [hn h5] at hb5
        cases hb5
      rw [take_snoc hx, List.map_append, List.flatMap_append, ← List.append_assoc]
      simp only [List.map_cons, List.map_nil, List.flatMap_cons, List.flatMap_nil, List.append_nil]
      rw [e0, List.append_nil]
      exact I
/- No row that is read lies in the new blocks. -/
set_option maxRecDepth 100000 in
set_option maxHeartbeats 1000000 in
theorem uses_any {w : World} {x : SB} {sv pv rv fv : Value} (h : SubR w x sv pv rv fv) (hm : Sml x) :
    Calls Tryd.prog 13 #[.agg #[.bool x.final_, sv, .int .i64 x.comp.kind, pv, rv, fv]] w fun e w' => ∃ u, e = .returned u ∧ RowI w.heap.size w' u (usesL x) ∧ Grew w w' := by
  have hmf : ∀ (fn : Fn) (first cap : Array Value) (w : World), (Instr.makeFunc fn first cap).run Tryd.prog w = .ok (.func fn first cap) w := fun _ _ _ _ => rfl
  have h' := h
  obtain ⟨h1, h2, h3, h4⟩ := h'
  obtain ⟨sa, sc, e1, _⟩ := h1.one
  obtain ⟨pa, pc, e2, _⟩ := h2.one
  obtain ⟨ra, rc, e3, _⟩ := h3.one
  obtain ⟨fa, fc, e4, _⟩ := h4.one
  subst e1 e2 e3 e4
  have H : Hid (SubR w x (.slice sa x.supers.length sc) (.slice pa x.comp.params.length pc) (.slice ra x.comp.results.length rc) (.slice fa x.comp.fields.length fc)) := h
  have D := fun (g : Grew w ((w.alloc (.cells #[.bool x.final_, .slice sa x.supers.length sc, .int .i64 x.comp.kind, .slice pa x.comp.params.length pc, .slice ra x.comp.results.length rc, .slice fa x.comp.fields.length fc] 42)).alloc (.cells #[NILS] 35))) => eachU_any (ob := w.heap.size + 1) (H.out.grew g) hm (by rw [alloc_size, alloc_size]) (by
    have q1 : (w.alloc (.cells #[.bool x.final_, .slice sa x.supers.length sc, .int .i64 x.comp.kind, .slice pa x.comp.params.length pc, .slice ra x.comp.results.length rc, .slice fa x.comp.fields.length fc] 42)).heap.size = w.heap.size + 1 := alloc_size _ _
    rw [← q1]; exact heap_alloc_last _ _) (by
    rintro b ⟨o, v, hc⟩
    have hb := lt_of_cell hc
    rw [alloc_size, alloc_size] at hb
    have q1 : (w.alloc (.cells #[.bool x.final_, .slice sa x.supers.length sc, .int .i64 x.comp.kind, .slice pa x.comp.params.length pc, .slice ra x.comp.results.length rc, .slice fa x.comp.fields.length fc] 42)).heap.size = w.heap.size + 1 := alloc_size _ _
    rcases Nat.lt_or_ge b (w.heap.size + 1) with hlt | hge
    · exact hlt
    · obtain rfl : b = w.heap.size + 1 := by omega
      exfalso
      have hh : ((w.alloc (.cells #[.bool x.final_, .slice sa x.supers.length sc, .int .i64 x.comp.kind, .slice pa x.comp.params.length pc, .slice ra x.comp.results.length rc, .slice fa x.comp.fields.length fc] 42)).alloc (.cells #[NILS] 35)).heap[w.heap.size + 1]? = some (lobj NILS) := by rw [← q1]; exact heap_alloc_last _ _
      rw [cell_of hh o] at hc
      match o, hc with
      | 0, hc => simp at hc
      | o + 1, hc => simp at hc)
  replace D := D (((Grew.refl w).alloc _).alloc _)
  have G0 : Hid (Grew w ((w.alloc (.cells #[.bool x.final_, .slice sa x.supers.length sc, .int .i64 x.comp.kind, .slice pa x.comp.params.length pc, .slice ra x.comp.results.length rc, .slice fa x.comp.fields.length fc] 42)).alloc (.cells #[NILS] 35))) := ((Grew.refl w).alloc _).alloc _
  obtain ⟨R, hR⟩ : ∃ R, usesL x = R := ⟨_, rfl⟩
  rw [hR] at D ⊢
  clear h h1 h2 h3 h4 hm hR H
  generalize x.comp.params.length = np at *
  generalize x.comp.results.length = nr at *
  generalize x.comp.fields.length = nf at *
  generalize x.supers.length = ns at *
  generalize x.final_ = fin at *
  generalize x.comp.kind = kind at *
  go_enter Tryd.func13, Tryd.ntmps13
  go_wp2_with fail
  refine D.mono ?_
  rintro en w1 ⟨rfl, ⟨v, hv, hr, hB⟩, t1⟩
  obtain ⟨va, vc, ev, _⟩ := row_max hr
  subst ev
  have HR : Hid (RowI (w.heap.size + 1 + 1) w1 (.slice va R.length vc) R) := hr
  have G1 : Hid (Grew w w1) := t1.turn.grew G0.out (fun k hk => by omega)
  have c0 := cell_of hv 0
  simp at c0
  unfold UNIT
  clear D hv hr t1 G0
  go_wp2_with fail
  go_ret
  exact ⟨_, rfl, row_low HR.out (by omega), G1.out⟩
end Go.Proofs.YtoihkcdjfhmccaaDoor
