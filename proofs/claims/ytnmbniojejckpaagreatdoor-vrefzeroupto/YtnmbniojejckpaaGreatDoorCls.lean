/-
  The program's Closed; no statement is proved here.
-/
import Derived.Test.YtnmbniojejckpaaGreatDoorRepS
import Derived.Test.YtnmbniojejckpaaGreatDoorCp
set_option maxRecDepth 100000
set_option maxHeartbeats 8000000
namespace Go.Proofs.YtnmbniojejckpaaGreatDoor
open Go.RowKit
set_option linter.unusedVariables false
set_option linter.unusedSimpArgs false
/- What the closure may turn: the variable alone. -/
structure ST (ob : Nat) (w w' : World) : Prop where
  turn : TurnP (fun k => k = ob) w w'
  keep : ∀ (b : Nat) (cs : Array Value) (t : TypeId), t ≠ 4 → w.heap[b]? = some (Obj.cells cs t (0, 0)) → w'.heap[b]? = some (Obj.cells cs t (0, 0))
theorem ST.grew {ob : Nat} {w w' : World} (g : Grew w w') : ST ob w w' := ⟨g.turnP _, fun b cs t _ h => g.other h⟩
theorem ST.trans {ob : Nat} {a b c : World} (h : ST ob a b) (k : ST ob b c) : ST ob a c := ⟨h.turn.trans k.turn, fun b cs t h1 ho => k.keep b cs t h1 (h.keep b cs t h1 ho)⟩
/- The variable says whether all these numbers may be. -/
def SpO (ob eb : Nat) (e : Int) (l : List Int) (w : World) : Prop := w.heap[ob]? = some (bobj (l.all (okS e))) ∧ w.heap[eb]? = some (iobj e)
theorem SpO.grew {ob eb : Nat} {e : Int} {l : List Int} {w w' : World} (h : SpO ob eb e l w) (g : Grew w w') : SpO ob eb e l w' := ⟨g.other h.1, g.other h.2⟩
theorem spk_any {w : World} {g j ob eb : Nat} {h e : Int} {l : List Int} (hc : w.cell? ⟨g, j, none⟩ = some (.int .i64 h)) (hu : SpO ob eb e l w) :
    Calls Tryz.prog 140 #[.pointer (some ⟨g, j, none⟩), .pointer (some ⟨ob, 0, none⟩), .pointer (some ⟨eb, 0, none⟩)] w fun en w' => en = .returned UNIT ∧ SpO ob eb e (l ++ [h]) w' ∧ ST ob w w' := by
  unfold UNIT
  obtain ⟨ho, he⟩ := hu
  have co := cell_of ho 0
  have cf := free_of ho 0
  have ce := cell_of he 0
  simp at co ce
  have hne : eb ≠ ob := fun x => by subst x; rw [ho] at he; unfold bobj iobj at he; injection he with he; injection he with _ he _; revert he; decide
  have hgl := lt_of_cell hc
  have hol := lt_of_obj ho
  have hel := lt_of_obj he
  have HO : Hid (w.heap[ob]? = some (bobj (l.all (okS e)))) := ho
  have HE : Hid (w.heap[eb]? = some (iobj e)) := he
  have HA : Hid ((l ++ [h]).all (okS e) = (l.all (okS e) && (decide (0 ≤ h) && decide (h < e)))) := (by simp [okS] : (l ++ [h]).all (okS e) = (l.all (okS e) && (decide (0 ≤ h) && decide (h < e))))
  have fin : ∀ x : Bool, (l ++ [h]).all (okS e) = x → SpO ob eb e (l ++ [h]) (w.setCell ⟨ob, 0, none⟩ (.bool x)).drew ∧ ST ob w (w.setCell ⟨ob, 0, none⟩ (.bool x)).drew := fun x hx => by
    refine ⟨⟨?_, heap_other HE.out hne _⟩, ⟨(TurnP.refl (fun k => k = ob) w).set (p := ⟨ob, 0, none⟩) rfl _ |>.drew, fun b cs t ht hb => heap_other hb (fun hh => ?_) _⟩⟩
    · have := heap_set HO.out 0 (.bool x)
      rw [hx]; exact this
    · simp only at hh
      subst hh
      rw [HO.out] at hb
      unfold bobj at hb
      injection hb with hb
      injection hb with _ hb _
      exact ht hb.symm
  have FIN : Hid (∀ x : Bool, (l ++ [h]).all (okS e) = x → SpO ob eb e (l ++ [h]) (w.setCell ⟨ob, 0, none⟩ (.bool x)).drew ∧ ST ob w (w.setCell ⟨ob, 0, none⟩ (.bool x)).drew) := fin
  clear ho he fin
  generalize l.all (okS e) = R at *
  cases R with
  | false =>
    clear HO HE
    go_enter Tryz.func140, Tryz.ntmps140
    go_wp2_with fail
    go_region
    all_goals go_wp2_with fail
    all_goals (try go_end0)
    all_goals exact ⟨rfl, FIN.out false (by rw [HA.out]; rfl)⟩
  | true =>
    by_cases h0 : 0 ≤ h
    · by_cases h1 : h < e
      · have d0 : decide (0 ≤ h) = true := by simp [h0]
        have d1 : decide (h < e) = true := by simp [h1]
        clear HO HE
        go_enter Tryz.func140, Tryz.ntmps140
        go_wp2_with fail
        go_region
        all_goals go_wp2_with fail
        all_goals (try go_end0)
        all_goals exact ⟨rfl, FIN.out true (by rw [HA.out, d0, d1]; rfl)⟩
      · have d0 : decide (0 ≤ h) = true := by simp [h0]
        have d1 : decide (h < e) = false := by simp [h1]
        clear HO HE
        go_enter Tryz.func140, Tryz.ntmps140
        go_wp2_with fail
        go_region
        all_goals go_wp2_with fail
        all_goals (try go_end0)
        all_goals exact ⟨rfl, FIN.out false (by rw [HA.out, d0, d1]; rfl)⟩
    · have d0 : decide (0 ≤ h) = false := by simp [h0]
      clear HO HE
      go_enter Tryz.func140, Tryz.ntmps140
      go_wp2_with fail
      go_region
      all_goals go_wp2_with fail
      all_goals (try go_end0)
      all_goals exact ⟨rfl, FIN.out false (by rw [HA.out, d0]; rfl)⟩
def visV (v : VT) : List Int := if v.num = 5 ∧ absB v.heap = false then [v.heap] else []
def seenL (x : SB) : List Int := x.supers ++ x.comp.ofK.params.flatMap visV ++ x.comp.ofK.results.flatMap visV ++ (x.comp.ofK.fields.map FT.ty).flatMap visV
/- Of what the program asks that a type speaks: numbers below e. -/
def fineP (x : SB) (e : Int) : Bool := (seenL x).all (okS e)
theorem fm_snoc {α : Type} {f : α → List Int} {l : List α} {i : Nat} {x : α} (h : l[i]? = some x) : (l.take (i + 1)).flatMap f = (l.take i).flatMap f ++ f x := by
  rw [take_snoc h, List.flatMap_append]; simp
theorem cell_st {ob : Nat} {w w' : World} (t : ST ob w w') {b o : Nat} {v : Value} (h : w.cell? ⟨b, o, none⟩ = some v) (hb : b ≠ ob) : w'.cell? ⟨b, o, none⟩ = some v := by
  have hh := t.turn.block b (lt_of_cell h) hb
  unfold World.cell? at h ⊢
  rw [hh]; exact h
theorem eachP_any {w : World} {x : SB} {sv pv rv fv : Value} {ob eb : Nat} {e : Int} (h : SubR w x sv pv rv fv) (hm : Sml x) (hu : SpO ob eb e [] w) :
    Calls Tryz.prog 139 #[.agg #[.bool x.final_, sv, .int .i64 x.comp.kind, pv, rv, fv], .func (.func 140) #[] #[.pointer (some ⟨ob, 0, none⟩), .pointer (some ⟨eb, 0, none⟩)]] w fun en w' => en = .returned UNIT ∧ SpO ob eb e (seenL x) w' ∧ ST ob w w' := by
  obtain ⟨k1, k2, k3⟩ := ofK_rd h
  obtain ⟨sa, sc, hsv, hsl, _⟩ := h.1.one
  obtain ⟨pa, pc, hpv, hpl, _⟩ := k1.one
  obtain ⟨ra, rc, hrv, hrl, _⟩ := k2.one
  obtain ⟨fa, fc, hfv, hfl, _⟩ := k3.one
  obtain ⟨m1, m2, m3⟩ := ofK_sml hm
  have xp : ∃ a n c, pv = .slice a n c := by obtain ⟨a, c, h, _⟩ := h.2.1.one; exact ⟨a, _, c, h⟩
  have xr : ∃ a n c, rv = .slice a n c := by obtain ⟨a, c, h, _⟩ := h.2.2.1.one; exact ⟨a, _, c, h⟩
  have xf : ∃ a n c, fv = .slice a n c := by obtain ⟨a, c, h, _⟩ := h.2.2.2.one; exact ⟨a, _, c, h⟩
  have ps : ∃ b o, (0 < x.supers.length → sa = some ⟨b, o, none⟩) ∧ ∀ i y, x.supers[i]? = some y → EI w b (o + i * 1) y := by
    rcases Nat.eq_zero_or_pos x.supers.length with h0 | h0
    · exact ⟨0, 0, fun h => by omega, fun i y hy => by have := (List.getElem?_eq_some_iff.1 hy).1; omega⟩
    · have h1 := h.1; rw [hsv] at h1
      obtain ⟨b, o, ha, _, hc⟩ := h1.get h0
      exact ⟨b, o, fun _ => ha, hc⟩
  have pp : ∃ b o, (0 < x.comp.ofK.params.length → pa = some ⟨b, o, none⟩) ∧ ∀ i y, x.comp.ofK.params[i]? = some y → EV w b (o + i * 3) y := by
    rcases Nat.eq_zero_or_pos x.comp.ofK.params.length with h0 | h0
    · exact ⟨0, 0, fun h => by omega, fun i y hy => by have := (List.getElem?_eq_some_iff.1 hy).1; omega⟩
    · rw [hpv] at k1
      obtain ⟨b, o, ha, _, hc⟩ := k1.get h0
      exact ⟨b, o, fun _ => ha, hc⟩
  have pr : ∃ b o, (0 < x.comp.ofK.results.length → ra = some ⟨b, o, none⟩) ∧ ∀ i y, x.comp.ofK.results[i]? = some y → EV w b (o + i * 3) y := by
    rcases Nat.eq_zero_or_pos x.comp.ofK.results.length with h0 | h0
    · exact ⟨0, 0, fun h => by omega, fun i y hy => by have := (List.getElem?_eq_some_iff.1 hy).1; omega⟩
    · rw [hrv] at k2
      obtain ⟨b, o, ha, _, hc⟩ := k2.get h0
      exact ⟨b, o, fun _ => ha, hc⟩
  have pf : ∃ b o, (0 < x.comp.ofK.fields.length → fa = some ⟨b, o, none⟩) ∧ ∀ i y, x.comp.ofK.fields[i]? = some y → EF w b (o + i * 4) y := by
    rcases Nat.eq_zero_or_pos x.comp.ofK.fields.length with h0 | h0
    · exact ⟨0, 0, fun h => by omega, fun i y hy => by have := (List.getElem?_eq_some_iff.1 hy).1; omega⟩
    · rw [hfv] at k3
      obtain ⟨b, o, ha, _, hc⟩ := k3.get h0
      exact ⟨b, o, fun _ => ha, hc⟩
  obtain ⟨sb, so, as_, es⟩ := ps
  obtain ⟨pb, po, ap, ep⟩ := pp
  obtain ⟨rb, ro, ar, er⟩ := pr
  obtain ⟨fb, fo, af, ef⟩ := pf
  have hm1 := hm.1
  have nb : ∀ b o v, w.cell? ⟨b, o, none⟩ = some (.int .i64 v) → b ≠ ob := fun b o v hc hx => by
    subst hx
    rw [cell_of hu.1 o] at hc
    match o, hc with
    | 0, hc => simp at hc
    | o + 1, hc => simp at hc
  have cu : ∀ w', ST ob w w' → ∀ b o v, w.cell? ⟨b, o, none⟩ = some (.int .i64 v) → w'.cell? ⟨b, o, none⟩ = some (.int .i64 v) := fun w' t b o v hc => cell_st t hc (nb b o v hc)
  have cb : ∀ w', ST ob w w' → ∀ b o o2 u v, w.cell? ⟨b, o, none⟩ = some (.int .i64 v) → w.cell? ⟨b, o2, none⟩ = some u → w'.cell? ⟨b, o2, none⟩ = some u := fun w' t b o o2 u v hc hu => cell_st t hu (nb b o v hc)
  have ev : ∀ w', ST ob w w' → ∀ b o y, EV w b o y → EV w' b o y := fun w' t b o y hy => ⟨cu w' t _ _ _ hy.1, cb w' t _ _ _ _ _ hy.1 hy.2.1, cu w' t _ _ _ hy.2.2⟩
  have one : ∀ (w' : World) (b o : Nat) (y : VT) (l : List Int), EV w' b o y → SpO ob eb e l w' → Calls Tryz.prog 148 #[.pointer (some ⟨b, o, none⟩), (.func (.func 140) #[] #[.pointer (some ⟨ob, 0, none⟩), .pointer (some ⟨eb, 0, none⟩)])] w' fun en w'' => en = .returned UNIT ∧ SpO ob eb e (l ++ visV y) w'' ∧ ST ob w' w'' := fun w' b o y l hv I => by
    refine heapOf_spk (x := y) hv (fun w'' => SpO ob eb e (l ++ visV y) w'' ∧ ST ob w' w'') (fun h5 hb5 => ?_) (fun hn => ?_)
    · have e0 : visV y = [y.heap] := by unfold visV; rw [if_pos ⟨h5, hb5⟩]
      rw [e0]
      exact spk_any hv.2.2 I
    · have e0 : visV y = [] := by
        unfold visV; rw [if_neg]
        rintro ⟨h5, hb5⟩
        rw [hn h5] at hb5
        cases hb5
      rw [e0, List.append_nil]
      exact ⟨I, ST.grew (Grew.refl _)⟩
  rw [hsv]
  have main := each_spk (w := w) (T := ST ob)
    (Is := fun i w' => SpO ob eb e (x.supers.take i) w')
    (Ip := fun i w' => SpO ob eb e (x.supers ++ (x.comp.ofK.params.take i).flatMap visV) w')
    (Ir := fun i w' => SpO ob eb e (x.supers ++ x.comp.ofK.params.flatMap visV ++ (x.comp.ofK.results.take i).flatMap visV) w')
    (If := fun i w' => SpO ob eb e (x.supers ++ x.comp.ofK.params.flatMap visV ++ x.comp.ofK.results.flatMap visV ++ ((x.comp.ofK.fields.take i).map FT.ty).flatMap visV) w')
    (fin := x.final_) (kind := x.comp.kind) (sb := sb) (so := so) (pb := pb) (po := po) (rb := rb) (ro := ro) (fb := fb) (fo := fo) (c1 := .pointer (some ⟨ob, 0, none⟩)) (c2 := .pointer (some ⟨eb, 0, none⟩))
    hpv hrv hfv xp xr xf as_ ap ar af hsl hpl hrl hfl hm1 m1 m2 m3
    (fun w' w'' g => ST.grew g) (fun a b c h k => h.trans k) (fun a b h => h.turn.size) (fun w' w'' t b' hb' cs t' ht' ho => t.keep b' cs t' (by rcases ht' with e | e <;> rw [e] <;> decide) ho)
    hu (fun i w' w'' h g => h.grew g) (fun i w' w'' h g => h.grew g)
    (fun w' h => by rw [List.take_length] at h; simpa using h) (fun w' h => by rw [List.take_length] at h; simpa using h) (fun w' h => by rw [List.take_length] at h; simpa using h) ?_ ?_ ?_ ?_
  · rw [List.take_length] at main
    exact main
  · intro i hi w' I t
    have hx : x.supers[i]? = some x.supers[i] := List.getElem?_eq_getElem hi
    have hc := cu w' t _ _ _ (es i _ hx)
    rw [Nat.mul_one] at hc
    show Calls _ _ _ w' fun en w'' => en = .returned UNIT ∧ SpO ob eb e (x.supers.take (i + 1)) w'' ∧ ST ob w' w''
    rw [take_snoc hx]
    exact spk_any hc I
  · intro i hi w' I t
    have hx : x.comp.ofK.params[i]? = some x.comp.ofK.params[i] := List.getElem?_eq_getElem hi
    have := one w' _ _ _ _ (ev w' t _ _ _ (ep i _ hx)) I
    rw [List.append_assoc, ← fm_snoc hx] at this
    exact this
  · intro i hi w' I t
    have hx : x.comp.ofK.results[i]? = some x.comp.ofK.results[i] := List.getElem?_eq_getElem hi
    have := one w' _ _ _ _ (ev w' t _ _ _ (er i _ hx)) I
    rw [List.append_assoc, ← fm_snoc hx] at this
    exact this
  · intro i hi w' I t
    have hx : x.comp.ofK.fields[i]? = some x.comp.ofK.fields[i] := List.getElem?_eq_getElem hi
    have := one w' _ _ _ _ (ev w' t _ _ _ (ef i _ hx).1) I
    rw [List.append_assoc] at this
    have e0 : ((x.comp.ofK.fields.take (i + 1)).map FT.ty).flatMap visV = ((x.comp.ofK.fields.take i).map FT.ty).flatMap visV ++ visV x.comp.ofK.fields[i].ty := by
      rw [take_snoc hx, List.map_append, List.flatMap_append]; simp
    show Calls _ _ _ w' fun en w'' => en = .returned UNIT ∧ SpO ob eb e (x.supers ++ x.comp.ofK.params.flatMap visV ++ x.comp.ofK.results.flatMap visV ++ ((x.comp.ofK.fields.take (i + 1)).map FT.ty).flatMap visV) w'' ∧ ST ob w' w''
    rw [e0]
    exact this
theorem speaks_any {w : World} {x : SB} {sv pv rv fv : Value} {e : Int} (h : SubR w x sv pv rv fv) (hm : Sml x) :
    Calls Tryz.prog 134 #[.agg #[.bool x.final_, sv, .int .i64 x.comp.kind, pv, rv, fv], .int .i64 e] w fun en w' => en = .returned (.bool (fineP x e)) ∧ Grew w w' := by
  have hmf : ∀ (fn : Fn) (first cap : Array Value) (w : World), (Instr.makeFunc fn first cap).run Tryz.prog w = .ok (.func fn first cap) w := fun _ _ _ _ => rfl
  have h' := h
  obtain ⟨h1, h2, h3, h4⟩ := h'
  obtain ⟨sa, sc, e1, _⟩ := h1.one
  obtain ⟨pa, pc, e2, _⟩ := h2.one
  obtain ⟨ra, rc, e3, _⟩ := h3.one
  obtain ⟨fa, fc, e4, _⟩ := h4.one
  subst e1 e2 e3 e4
  have H : Hid (SubR w x (.slice sa x.supers.length sc) (.slice pa x.comp.params.length pc) (.slice ra x.comp.results.length rc) (.slice fa x.comp.fields.length fc)) := h
  have D : Hid (∀ W ob eb, Grew w W → SpO ob eb e [] W → Calls Tryz.prog 139 #[.agg #[.bool x.final_, .slice sa x.supers.length sc, .int .i64 x.comp.kind, .slice pa x.comp.params.length pc, .slice ra x.comp.results.length rc, .slice fa x.comp.fields.length fc], .func (.func 140) #[] #[.pointer (some ⟨ob, 0, none⟩), .pointer (some ⟨eb, 0, none⟩)]] W fun en w' => en = .returned UNIT ∧ SpO ob eb e (seenL x) w' ∧ ST ob W w') := fun W ob eb g hu => eachP_any (H.out.grew g) hm hu
  obtain ⟨R, hR⟩ : ∃ R, fineP x e = R := ⟨_, rfl⟩
  have HR : Hid ((seenL x).all (okS e) = R) := hR
  rw [hR]
  clear h h1 h2 h3 h4 hm hR H
  generalize seenL x = sl at *
  generalize x.comp.params.length = np at *
  generalize x.comp.results.length = nr at *
  generalize x.comp.fields.length = nf at *
  generalize x.supers.length = ns at *
  generalize x.final_ = fin at *
  generalize x.comp.kind = kind at *
  go_enter Tryz.func134, Tryz.ntmps134
  go_wp2_with fail
  generalize hW : (((w.alloc (.cells #[.bool fin, .slice sa ns sc, .int .i64 kind, .slice pa np pc, .slice ra nr rc, .slice fa nf fc] 108)).alloc (.cells #[.int .i64 e] 3)).alloc (.cells #[.bool true] 4)) = W
  have G0 : Hid (Grew w W) := by rw [← hW]; exact (((Grew.refl w).alloc _).alloc _).alloc _
  have S0 : SpO (w.heap.size + 1 + 1) (w.heap.size + 1) e [] W := by
    rw [← hW]
    have h1 : (w.alloc (.cells #[.bool fin, .slice sa ns sc, .int .i64 kind, .slice pa np pc, .slice ra nr rc, .slice fa nf fc] 108)).heap.size = w.heap.size + 1 := alloc_size _ _
    have h2 : ((w.alloc (.cells #[.bool fin, .slice sa ns sc, .int .i64 kind, .slice pa np pc, .slice ra nr rc, .slice fa nf fc] 108)).alloc (.cells #[.int .i64 e] 3)).heap.size = w.heap.size + 1 + 1 := by rw [alloc_size, alloc_size]
    refine ⟨?_, ?_⟩
    · rw [← h2]; exact heap_alloc_last _ _
    · rw [← h1]; exact heap_alloc (heap_alloc_last _ _) _
  clear hW
  refine (D.out W _ _ G0.out S0).mono ?_
  rintro en w1 ⟨rfl, s1, t1⟩
  have c0 := cell_of s1.1 0
  rw [HR.out] at c0
  simp at c0
  have hl0 := lt_of_obj s1.1
  have G1 : Hid (Grew w w1) := t1.turn.grew G0.out (fun k hk => by omega)
  clear D S0 s1 t1 G0
  unfold UNIT
  go_wp2_with fail
  go_ret
  exact ⟨rfl, G1.out⟩
def closedP : Nat → List RT → Bool
  | _, [] => true
  | n, r :: L => r.types.all (fun x => fineP x ((n + r.types.length : Nat) : Int)) && closedP (n + r.types.length) L
theorem closedP_at {L : List RT} {i : Nat} {r : RT} (h : L[i]? = some r) (n : Nat) : closedP n (L.drop i) = (r.types.all (fun x => fineP x ((n + r.types.length : Nat) : Int)) && closedP (n + r.types.length) (L.drop (i + 1))) := by
  obtain ⟨hi, he⟩ := List.getElem?_eq_some_iff.1 h
  rw [List.drop_eq_getElem_cons hi, he]
  rfl
theorem closedP_mem : ∀ {L : List RT} {n g : Nat} {r : RT}, closedP n L = true → L[g]? = some r → ∀ x ∈ r.types, fineP x ((n + cntT (L.take g) + r.types.length : Nat) : Int) = true := by
  intro L
  induction L with
  | nil => intro n g r _ h; simp at h
  | cons a L ih =>
    intro n g r hc h x hx
    unfold closedP at hc
    rw [Bool.and_eq_true] at hc
    cases g with
    | zero =>
      simp only [List.getElem?_cons_zero, Option.some.injEq] at h
      subst h
      have := List.all_eq_true.1 hc.1 x hx
      simpa [cntT] using this
    | succ g =>
      rw [List.getElem?_cons_succ] at h
      have := ih hc.2 h x hx
      rw [List.take_succ_cons]
      simp only [cntT]
      rw [show n + (a.types.length + cntT (List.take g L)) + r.types.length = n + a.types.length + cntT (List.take g L) + r.types.length by omega]
      exact this
theorem closed_any {w : World} {v : Value} {L : List RT} (h : LR w v L) (hm : SmlL L) :
    Calls Tryz.prog 128 #[v] w fun en w' => ∃ p : Int, en = .returned (.tuple #[.int .i64 p, .int .i64 (if closedP 0 L then 0 else 50)]) ∧ Grew w w' := by
  obtain ⟨a, cap, hv, hcap, hmax⟩ := h.one
  subst hv
  have H : Hid (LR w (.slice a L.length cap) L) := h
  obtain ⟨hm1, hm2, hm3⟩ := hm
  have HM : Hid (∀ r ∈ L, ∀ x ∈ r.types, Sml x) := hm3
  obtain ⟨R, hR⟩ : ∃ R, R = closedP 0 L := ⟨_, rfl⟩
  rw [← hR]
  have HR : Hid (R = closedP 0 (L.drop 0)) := hR
  clear h hR hm3
  go_enter Tryz.func128, Tryz.ntmps128
  go_wp2_with fail
  go_loopw [4, 5, 12] (fun n_ e_ i_ w' => ∃ (i n : Nat), i_ = .int .i64 i ∧ n_ = .int .i64 n ∧ e_ = .int .i64 n ∧ Hid (n = cntT (L.take i)) ∧ n ≤ 1048576 ∧ i ≤ L.length ∧ Hid (Grew w w') ∧ Hid (R = closedP n (L.drop i))) (fun _ _ i_ _ => L.length - (intOf i_).toNat)
  case atStart => exact ⟨0, 0, rfl, rfl, rfl, rfl, by omega, Nat.zero_le _, Grew.refl _, HR⟩
  case round =>
    clear HR
    obtain ⟨i, n, rfl, rfl, rfl, HNN, hn, hi, G, HR⟩ := hrel
    obtain ⟨w0, hw0⟩ : ∃ w0, w0 = wr := ⟨_, rfl⟩
    rw [← hw0] at G ⊢
    clear hw0
    by_cases hlt : i < L.length
    · obtain ⟨r, hr⟩ : ∃ r, L[i]? = some r := ⟨_, List.getElem?_eq_getElem hlt⟩
      obtain ⟨b, off, ha, hc', hE⟩ := (H.out.grew G.out).get (by omega)
      subst ha
      obtain ⟨tv, ht, c0, c1⟩ := hE i r hr
      obtain ⟨ta, tc, et, htc, _⟩ := ht.one
      subst et
      have HT : Hid (LS w0 (.slice ta r.types.length tc) r.types) := ht
      have d1 : decide ((i : Int) < (L.length : Int)) = true := by simp; omega
      have d2 : decide (i < L.length) = true := by simp; omega
      have HS : Hid (cntT (L.take (i + 1)) = cntT (L.take i) + r.types.length) := cntT_snoc hr
      have hb := cntT_take L (i + 1)
      rw [HS.out, ← HNN.out] at hb
      have HQ : Hid (R = (r.types.all (fun x => fineP x ((n + r.types.length : Nat) : Int)) && closedP (n + r.types.length) (L.drop (i + 1)))) := by rw [HR.out]; exact closedP_at hr n
      have HX : Hid (∀ x ∈ r.types, Sml x) := HM.out r (List.mem_of_getElem? hr)
      generalize r.types = ts at *
      generalize r.explicit = ex at *
      clear hE ht hr HR
      have G0 : Grew w0 (w0.alloc (.cells #[.slice ta ts.length tc, .bool ex] 102)) := (Grew.refl w0).alloc _
      go_wp2_with fail
      generalize hW : (w0.alloc (.cells #[.slice ta ts.length tc, .bool ex] 102)) = W at *
      have HT' : Hid (LS W (.slice ta ts.length tc) ts) := HT.out.grew G0
      have GW : Hid (Grew w W) := G.out.trans G0
      clear hW HT G G0 c0 c1
      go_loopw [4, 24] (fun n_ j_ w' => ∃ j : Nat, j_ = .int .i64 j ∧ n_ = .int .i64 ((n : Int) + (j : Int)) ∧ j ≤ ts.length ∧ Hid (Grew W w') ∧ Hid (∀ k y, k < j → ts[k]? = some y → fineP y ((n + ts.length : Nat) : Int) = true)) (fun _ j_ _ => ts.length - (intOf j_).toNat)
      case atStart => exact ⟨0, rfl, by simp, Nat.zero_le _, Grew.refl _, fun k y hk => by omega⟩
      case round =>
        obtain ⟨j, rfl, rfl, hj, G1, HI⟩ := hrel
        obtain ⟨w1, hw1⟩ : ∃ w1, w1 = wr := ⟨_, rfl⟩
        rw [← hw1] at G1 ⊢
        clear hw1
        by_cases hjl : j < ts.length
        · obtain ⟨x, hx⟩ : ∃ x, ts[j]? = some x := ⟨_, List.getElem?_eq_getElem hjl⟩
          obtain ⟨tb, to, hta, _, hE⟩ := (HT'.out.grew G1.out).get (by omega)
          subst hta
          obtain ⟨sv, pv, rv, fv, hsub, s0, s1, s2, s3, s4, s5⟩ := hE j x hx
          have e1 : decide ((j : Int) < (ts.length : Int)) = true := by simp; omega
          have e2 : decide (j < ts.length) = true := by simp; omega
          have C : Hid (∀ W', Grew w1 W' → Calls Tryz.prog 134 #[.agg #[.bool x.final_, sv, .int .i64 x.comp.kind, pv, rv, fv], .int .i64 ((n : Int) + (ts.length : Int))] W' fun en w' => en = .returned (.bool (fineP x ((n : Int) + (ts.length : Int)))) ∧ Grew W' w') := fun W' g => speaks_any (hsub.grew g) (HX.out x (List.mem_of_getElem? hx))
          obtain ⟨_, _, e3, _⟩ := hsub.1.one
          obtain ⟨_, _, e4, _⟩ := hsub.2.1.one
          obtain ⟨_, _, e5, _⟩ := hsub.2.2.1.one
          obtain ⟨_, _, e6, _⟩ := hsub.2.2.2.one
          subst e3 e4 e5 e6
          have HF : Hid (fineP x ((n + ts.length : Nat) : Int) = fineP x ((n : Int) + (ts.length : Int))) := (by rw [Int.natCast_add] : fineP x ((n + ts.length : Nat) : Int) = fineP x ((n : Int) + (ts.length : Int)))
          have HB : Hid (fineP x ((n : Int) + (ts.length : Int)) = false → R = false) := fun hf => by rw [HQ.out, all_bad hx (by rw [HF.out]; exact hf)]; rfl
          have HG : Hid (fineP x ((n : Int) + (ts.length : Int)) = true → ∀ k y, k < j + 1 → ts[k]? = some y → fineP y ((n + ts.length : Nat) : Int) = true) := fun hf k y hk hy => by
            rcases Nat.lt_or_ge k j with h | h
            · exact HI.out k y h hy
            · obtain rfl : k = j := by omega
              rw [hx] at hy
              injection hy with hy
              subst hy
              rw [HF.out]; exact hf
          clear hE hsub hx HF
          generalize fineP x ((n : Int) + (ts.length : Int)) = F at *
          cases F with
          | false =>
            have hRf := HB.out rfl
            subst hRf
            clear HG HB HQ
            go_wp2_with fail
            refine (C.out _ ((Grew.refl _).alloc _)).mono ?_
            rintro en w3 ⟨rfl, g3⟩
            have G3 : Hid (Grew w w3) := (GW.out.trans G1.out).trans (((Grew.refl _).alloc _).trans g3)
            clear g3 C
            go_wp2_with fail
            go_ret2
            exact ⟨⟨_, rfl⟩, G3.out⟩
          | true =>
            go_wp2_with fail
            refine (C.out _ ((Grew.refl _).alloc _)).mono ?_
            rintro en w3 ⟨rfl, g3⟩
            have G3 : Hid (Grew W w3) := G1.out.trans (((Grew.refl _).alloc _).trans g3)
            clear g3 C
            go_wp2_with fail
            go_roundw
            case rel => exact ⟨j + 1, by go_num, by go_num, by omega, G3, HG.out (by first | exact trivial | exact rfl)⟩
            case measure => simp [intOf]; omega
        · have e1 : decide ((j : Int) < (ts.length : Int)) = false := by simp; omega
          have hje : j = ts.length := by omega
          have hall : ts.all (fun x => fineP x ((n + ts.length : Nat) : Int)) = true := all_good (fun k y hk hy => HI.out k y (by omega) hy)
          have HR' : Hid (R = closedP (n + ts.length) (L.drop (i + 1))) := (by rw [HQ.out, hall]; rfl : R = closedP (n + ts.length) (L.drop (i + 1)))
          subst hje
          clear hall HQ
          go_wp2_with fail
          go_roundw
          case rel => exact ⟨i + 1, n + ts.length, by go_num, by go_num, by go_num, by rw [HS.out, ← HNN.out]; exact rfl, by omega, by omega, GW.out.trans G1.out, HR'⟩
          case measure => simp [intOf]; omega
    · have d1 : decide ((i : Int) < (L.length : Int)) = false := by simp; omega
      have hin : L.drop i = [] := List.drop_eq_nil_of_le (by omega)
      have hRt : R = true := by rw [HR.out, hin]; rfl
      subst hRt
      go_wp2_with fail
      go_ret2
      exact ⟨⟨_, rfl⟩, G.out⟩
end Go.Proofs.YtnmbniojejckpaaGreatDoor
