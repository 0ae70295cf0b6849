/-
  Plain: a group rolled up and unrolled; no statement is proved here.
-/
import Derived.Test.YtoihkcdjfhmccaaDoorRoll
import Derived.Test.YtoihkcdjfhmccaaDoorUs
namespace Go.Proofs.YtoihkcdjfhmccaaDoor
set_option linter.unusedVariables false
set_option linter.unusedSimpArgs false

theorem closed_fine : ∀ {L : List RT} {n g : Nat} {r : RT}, closedF n L = true → L[g]? = some r → ∀ x ∈ r.types, fineB x ((n + cntT (L.take g) + r.types.length : Nat) : Int) = true := by
  intro L
  induction L with
  | nil => intro n g r _ h; simp at h
  | cons a L ih =>
    intro n g r hc h x hx
    rw [closedF, Bool.and_eq_true] at hc
    cases g with
    | zero =>
      simp only [List.getElem?_cons_zero, Option.some.injEq] at h
      subst h
      have := List.all_eq_true.1 hc.1 x hx
      simpa [cntT] using this
    | succ g =>
      rw [List.getElem?_cons_succ] at h
      have := ih hc.2 h x hx
      rw [List.take_succ_cons, cntT, ← Nat.add_assoc]
      exact this
theorem mem_heapsL {l : List VT} {v : VT} (h : v ∈ l) (h5 : v.num = 5) : v.heap ∈ heapsL l := List.mem_filterMap.2 ⟨v, h, by simp [h5]⟩
/- What a value type may speak of. -/
def FineV (e : Int) (v : VT) : Prop := v.num = 5 → -12 ≤ v.heap ∧ v.heap < e
structure FineS (e : Int) (x : SB) : Prop where
  sup : ∀ n ∈ x.supers, 0 ≤ n ∧ n < e
  par : ∀ v ∈ x.comp.params, FineV e v
  res : ∀ v ∈ x.comp.results, FineV e v
  fld : ∀ f ∈ x.comp.fields, FineV e f.ty
theorem fineS {x : SB} {e : Int} (h : fineB x e = true) : FineS e x := by
  unfold fineB at h
  rw [Bool.and_eq_true] at h
  have h1 := List.all_eq_true.1 h.1
  have h2 := List.all_eq_true.1 h.2
  have key : ∀ n ∈ allL x, -12 ≤ n ∧ n < e := fun n hn => by
    have := h2 n hn
    simp [okA] at this
    exact ⟨this.2, this.1⟩
  refine ⟨fun n hn => ?_, fun v hv h5 => key _ ?_, fun v hv h5 => key _ ?_, fun f hf h5 => key _ ?_⟩
  · have := h1 n hn
    simp [okS] at this
    exact this
  · simp only [allL, List.mem_append]; exact Or.inl (Or.inl (Or.inr (mem_heapsL hv h5)))
  · simp only [allL, List.mem_append]; exact Or.inl (Or.inr (mem_heapsL hv h5))
  · simp only [allL, List.mem_append]; exact Or.inr (mem_heapsL (List.mem_map.2 ⟨f, hf, rfl⟩) h5)
theorem absB_false {h : Int} : absB h = false ↔ h < -12 ∨ -1 < h := by unfold absB; simp; omega
theorem absB_true {h : Int} : absB h = true ↔ -12 ≤ h ∧ h ≤ -1 := by unfold absB; simp
theorem ofK_sub (c : CT) : (∀ v ∈ c.ofK.params, v ∈ c.params) ∧ (∀ v ∈ c.ofK.results, v ∈ c.results) ∧ (∀ v ∈ c.ofK.fields, v ∈ c.fields) := by
  unfold CT.ofK
  split
  · exact ⟨fun _ h => h, fun _ h => h, fun _ h => by cases h⟩
  · split
    · exact ⟨fun _ h => (by cases h), fun _ h => (by cases h), fun _ h => h⟩
    · exact ⟨fun _ h => (by cases h), fun _ h => (by cases h), fun _ h => (by cases h)⟩
theorem cnt_num (v : VT) : v.cnt.num = v.num := by unfold VT.cnt; split <;> rfl
theorem cnt_five {v : VT} (h : v.num = 5) : v.cnt = v := by unfold VT.cnt; rw [if_pos h]
theorem FineV.cnt {e : Int} {v : VT} (h : FineV e v) : FineV e v.cnt := fun h5 => by
  rw [cnt_num] at h5
  rw [cnt_five h5]
  exact h h5
theorem FineS.cp {e : Int} {x : SB} (h : FineS e x) : FineS e x.cp := by
  obtain ⟨h1, h2, h3, h4⟩ := h
  obtain ⟨s1, s2, s3⟩ := ofK_sub x.comp
  refine ⟨h1, fun v hv => ?_, fun v hv => ?_, fun f hf => ?_⟩
  · obtain ⟨u, hu, rfl⟩ := List.mem_map.1 hv; exact (h2 u (s1 u hu)).cnt
  · obtain ⟨u, hu, rfl⟩ := List.mem_map.1 hv; exact (h3 u (s2 u hu)).cnt
  · obtain ⟨u, hu, rfl⟩ := List.mem_map.1 hf; exact (h4 u (s3 u hu)).cnt
theorem num_fine {e : Int} {x : SB} (h : FineS e x) {n : Int} (hn : Num x n) : 0 ≤ n ∧ n < e := by
  have key : ∀ v, FineV e v → v.num = 5 ∧ absB v.heap = false ∧ v.heap = n → 0 ≤ n ∧ n < e := by
    rintro v hv ⟨h5, hb, rfl⟩
    have := hv h5
    have := absB_false.1 hb
    omega
  rcases hn with hn | ⟨v, hv, hh⟩ | ⟨v, hv, hh⟩ | ⟨v, hv, hh⟩
  · exact h.sup n hn
  · exact key v (h.par v hv) hh
  · exact key v (h.res v hv) hh
  · obtain ⟨f, hf, rfl⟩ := List.mem_map.1 hv
    exact key f.ty (h.fld f hf) hh
theorem mp_num (σ : Int → Int) (v : VT) : (v.mp σ).num = v.num := by unfold VT.mp VT.put; split <;> rfl
theorem cnt_mp (σ : Int → Int) (v : VT) : (v.cnt.mp σ).cnt = v.cnt.mp σ := by
  by_cases h5 : v.num = 5
  · exact cnt_five (by rw [mp_num, cnt_num]; exact h5)
  · have e : v.cnt = ⟨v.num, false, 0⟩ := by unfold VT.cnt; rw [if_neg h5]
    have e2 : v.cnt.mp σ = v.cnt := mp_no (fun h => absurd (by rw [cnt_num] at h; exact h) h5)
    rw [e2, e]
    unfold VT.cnt
    rw [if_neg h5]
theorem ofK_kin {c : CT} (h : Kin c) : c.ofK = c := by
  obtain ⟨k, p, r, f⟩ := c
  unfold Kin at h
  simp only at h
  unfold CT.ofK
  simp only
  by_cases h1 : k = 1
  · rw [if_pos h1, h.2 (by omega)]
  · rw [if_neg h1]
    obtain ⟨hp, hr⟩ := h.1 h1
    by_cases h2 : k = 2 ∨ k = 3
    · rw [if_pos h2, hp, hr]
    · rw [if_neg h2, hp, hr, h.2 (by omega)]
theorem Kin.mp {c : CT} (h : Kin c) (σ : Int → Int) : Kin (c.mp σ) := by
  obtain ⟨h1, h2⟩ := h
  unfold CT.mp Kin
  refine ⟨fun hk => ?_, fun hk => ?_⟩
  · obtain ⟨a, b⟩ := h1 hk; simp only; rw [a, b]; exact ⟨rfl, rfl⟩
  · simp only; rw [h2 hk]; rfl
/- Each list counted already. -/
def Cnt (x : SB) : Prop := Kin x.comp ∧ (∀ v ∈ x.comp.params, v.cnt = v) ∧ (∀ v ∈ x.comp.results, v.cnt = v) ∧ (∀ f ∈ x.comp.fields, f.cnt = f)
theorem map_self {α : Type} {f : α → α} {l : List α} (h : ∀ a ∈ l, f a = a) : l.map f = l := by
  induction l with
  | nil => rfl
  | cons a l ih => rw [List.map_cons, h a (by simp), ih (fun b hb => h b (by simp [hb]))]
theorem Cnt.cp {x : SB} (h : Cnt x) : x.cp = x := by
  obtain ⟨h1, h2, h3, h4⟩ := h
  unfold SB.cp CT.cp
  rw [ofK_kin h1, map_self h2, map_self h3, map_self h4]
theorem Cnt.mpcp (σ : Int → Int) (x : SB) : Cnt (x.cp.mp σ) := by
  refine ⟨(Kin.cp x.comp).mp σ, fun v hv => ?_, fun v hv => ?_, fun f hf => ?_⟩
  · obtain ⟨u, hu, rfl⟩ := List.mem_map.1 hv
    obtain ⟨t, ht, rfl⟩ := List.mem_map.1 hu
    exact cnt_mp σ t
  · obtain ⟨u, hu, rfl⟩ := List.mem_map.1 hv
    obtain ⟨t, ht, rfl⟩ := List.mem_map.1 hu
    exact cnt_mp σ t
  · obtain ⟨u, hu, rfl⟩ := List.mem_map.1 hf
    obtain ⟨t, ht, rfl⟩ := List.mem_map.1 hu
    unfold FT.cnt FT.mp
    simp only
    rw [cnt_mp σ t.ty]
theorem idem (σ : Int → Int) (x : SB) : (x.cp.mp σ).cp = x.cp.mp σ := (Cnt.mpcp σ x).cp
theorem Cnt.mp {x : SB} (h : Cnt x) (σ : Int → Int) : (x.mp σ).cp = x.mp σ := by
  have := idem σ x
  rw [h.cp] at this
  exact this
/- What has been rolled up unrolls. -/
theorem rollN_abs {f e n : Int} (hf : 0 ≤ f) (h : 0 ≤ n) : absB (rollN f n) = false := by
  unfold rollN; rw [absB_false]; split <;> omega
theorem roll_back {f n : Int} (hf : 0 ≤ f) (h : 0 ≤ n) : unrollN f (rollN f n) = n := by
  unfold unrollN rollN; split <;> split <;> omega
def tau (f f' n : Int) : Int := if n < f then n else f' + (n - f)
theorem roll_tau {f f' n : Int} (hf : 0 ≤ f) (h : 0 ≤ n) : unrollN f' (rollN f n) = tau f f' n := by
  unfold unrollN rollN tau; split <;> split <;> omega
theorem fine_vis {e : Int} {v : VT} (h : FineV e v) (h5 : v.num = 5) (hb : absB v.heap = false) : 0 ≤ v.heap := by
  have := h h5
  have := absB_false.1 hb
  omega
theorem back_V {f e : Int} (hf : 0 ≤ f) {v : VT} (h : FineV e v) : (v.mp (rollN f)).mp (unrollN f) = v := by
  by_cases hv : v.num = 5 ∧ absB v.heap = false
  · rw [mp_yes hv.1 hv.2]
    have h0 := fine_vis h hv.1 hv.2
    have h1 : (v.put (rollN f v.heap)).num = 5 := hv.1
    have h2 : absB (v.put (rollN f v.heap)).heap = false := rollN_abs (e := e) hf h0
    rw [mp_yes h1 h2]
    unfold VT.put
    rw [roll_back hf h0]
  · have hn : v.num = 5 → absB v.heap = true := fun h5 => by
      cases hb : absB v.heap with
      | true => rfl
      | false => exact absurd ⟨h5, hb⟩ hv
    rw [mp_no hn, mp_no hn]
theorem back_S {f e : Int} (hf : 0 ≤ f) {x : SB} (h : FineS e x) : (x.mp (rollN f)).mp (unrollN f) = x := by
  obtain ⟨fin, sup, ⟨k, p, r, fl⟩⟩ := x
  unfold SB.mp CT.mp
  simp only [List.map_map]
  congr 1
  · exact map_self fun n hn => roll_back hf (h.sup n hn).1
  · congr 1
    · exact map_self fun v hv => back_V hf (h.par v hv)
    · exact map_self fun v hv => back_V hf (h.res v hv)
    · refine map_self fun y hy => ?_
      show (⟨(y.ty.mp (rollN f)).mp (unrollN f), y.mut_⟩ : FT) = y
      rw [back_V hf (h.fld y hy)]
theorem backs {f e : Int} (hf : 0 ≤ f) {x : SB} (h : FineS e x) : ((x.cp.mp (rollN f)).cp.mp (unrollN f)).cp = x.cp := by
  rw [idem, idem, back_S hf h.cp]
/- Of what a rolled up group speaks. -/
theorem num_rolled {f : Int} {k : Nat} (hf : 0 ≤ f) {x : SB} (h : FineS (f + k) x) {n : Int} (hn : Num (x.mp (rollN f)) n) : -100 < n ∨ -100 - n < (k : Int) := by
  have base : ∀ m, 0 ≤ m → m < f + k → -100 < rollN f m ∨ -100 - rollN f m < (k : Int) := fun m h0 h1 => by
    unfold rollN; split <;> omega
  have key : ∀ v, FineV (f + k) v → (v.mp (rollN f)).num = 5 ∧ absB (v.mp (rollN f)).heap = false ∧ (v.mp (rollN f)).heap = n → -100 < n ∨ -100 - n < (k : Int) := by
    rintro v hv ⟨h5, hb, rfl⟩
    rw [mp_num] at h5
    cases ha : absB v.heap with
    | true =>
      rw [mp_no (fun _ => ha)]
      have := absB_true.1 ha
      omega
    | false =>
      rw [mp_yes h5 ha]
      have h0 := fine_vis hv h5 ha
      exact base _ h0 (hv h5).2
  rcases hn with hn | ⟨v, hv, hh⟩ | ⟨v, hv, hh⟩ | ⟨v, hv, hh⟩
  · obtain ⟨m, hm, rfl⟩ := List.mem_map.1 hn
    exact base m (h.sup m hm).1 (h.sup m hm).2
  · obtain ⟨u, hu, rfl⟩ := List.mem_map.1 hv
    exact key u (h.par u hu) hh
  · obtain ⟨u, hu, rfl⟩ := List.mem_map.1 hv
    exact key u (h.res u hu) hh
  · obtain ⟨y, hy, rfl⟩ := List.mem_map.1 hv
    obtain ⟨u, hu, rfl⟩ := List.mem_map.1 hy
    exact key u.ty (h.fld u hu) hh
theorem sml_mp {x : SB} (h : Sml x) (σ : Int → Int) : Sml (x.mp σ) := by
  unfold SB.mp CT.mp Sml
  simp only [List.length_map]
  exact h
/- Elsewhere it speaks of itself there. -/
theorem use_V {f f' e : Int} (hf : 0 ≤ f) (hf' : 0 ≤ f') {v : VT} (h : FineV e v) : useV ((v.cnt.mp (rollN f)).mp (unrollN f')) = (useV v).map (tau f f') := by
  by_cases h5 : v.num = 5
  · rw [cnt_five h5]
    cases ha : absB v.heap with
    | true =>
      have hn : v.num = 5 → absB v.heap = true := fun _ => ha
      rw [mp_no hn, mp_no hn]
      have : useV v = [] := by unfold useV; rw [if_neg (by rintro ⟨_, hb⟩; rw [ha] at hb; cases hb)]
      rw [this]; rfl
    | false =>
      have h0 := fine_vis h h5 ha
      rw [mp_yes h5 ha]
      have h1 : (v.put (rollN f v.heap)).num = 5 := h5
      have h2 : absB (v.put (rollN f v.heap)).heap = false := rollN_abs (e := e) hf h0
      rw [mp_yes h1 h2]
      have e1 : ((v.put (rollN f v.heap)).put (unrollN f' (v.put (rollN f v.heap)).heap)).heap = tau f f' v.heap := roll_tau hf h0
      have h3 : 0 ≤ tau f f' v.heap := by unfold tau; split <;> omega
      have l1 : useV v = [v.heap] := by unfold useV useL; rw [if_pos ⟨h5, ha⟩, if_pos h0]
      rw [l1]
      unfold useV useL
      rw [e1, if_pos ⟨h5, absB_false.2 (by omega)⟩, if_pos h3]
      rfl
  · have e0 : v.cnt.num ≠ 5 := by rw [cnt_num]; exact h5
    have a1 : v.cnt.mp (rollN f) = v.cnt := mp_no (fun h => absurd h e0)
    have a2 : v.cnt.mp (unrollN f') = v.cnt := mp_no (fun h => absurd h e0)
    rw [a1, a2]
    have b1 : useV v.cnt = [] := by unfold useV; rw [if_neg (fun h => e0 h.1)]
    have b2 : useV v = [] := by unfold useV; rw [if_neg (fun h => h5 h.1)]
    rw [b1, b2]; rfl
theorem flat_tau {α β : Type} {g : α → β} {u : β → List Int} {u' : α → List Int} {t : Int → Int} {l : List α} (h : ∀ a ∈ l, u (g a) = (u' a).map t) : (l.map g).flatMap u = (l.flatMap u').map t := by
  induction l with
  | nil => rfl
  | cons a l ih => rw [List.map_cons, List.flatMap_cons, List.flatMap_cons, List.map_append, h a (by simp), ih (fun b hb => h b (by simp [hb]))]
theorem uses_there {f f' e : Int} (hf : 0 ≤ f) (hf' : 0 ≤ f') {x : SB} (h : FineS e x) : usesL ((x.cp.mp (rollN f)).cp.mp (unrollN f')) = (usesL x).map (tau f f') := by
  rw [idem]
  have hk : ((x.cp.mp (rollN f)).mp (unrollN f')).comp.ofK = ((x.cp.mp (rollN f)).mp (unrollN f')).comp := ofK_kin (((Kin.cp x.comp).mp _).mp _)
  obtain ⟨s1, s2, s3⟩ := ofK_sub x.comp
  unfold usesL
  rw [hk, List.map_append, List.map_append, List.map_append]
  unfold SB.mp CT.mp SB.cp CT.cp
  simp only [List.map_map]
  congr 1
  · congr 1
    · congr 1
      · refine flat_tau fun n hn => ?_
        have h0 := (h.sup n hn).1
        have h1 : 0 ≤ tau f f' n := by unfold tau; split <;> omega
        show useL (unrollN f' (rollN f n)) = (useL n).map (tau f f')
        rw [roll_tau hf h0]
        unfold useL
        rw [if_pos h0, if_pos h1]
        rfl
      · exact flat_tau fun v hv => use_V hf hf' (h.par v (s1 v hv))
    · exact flat_tau fun v hv => use_V hf hf' (h.res v (s2 v hv))
  · rw [List.flatMap_map (f := FT.ty) (l := x.comp.ofK.fields)]
    exact flat_tau (u := useV) (u' := fun y : FT => useV y.ty) (l := x.comp.ofK.fields) (fun y hy => use_V hf hf' (h.fld y (s3 y hy)))
theorem uses_mem {e : Int} {x : SB} (h : FineS e x) : ∀ n ∈ usesL x, 0 ≤ n ∧ n < e := by
  obtain ⟨s1, s2, s3⟩ := ofK_sub x.comp
  have kl : ∀ m, m < e → ∀ n ∈ useL m, 0 ≤ n ∧ n < e := fun m hm n hn => by
    unfold useL at hn
    split at hn
    · simp at hn; omega
    · cases hn
  have kv : ∀ v, FineV e v → ∀ n ∈ useV v, 0 ≤ n ∧ n < e := fun v hv n hn => by
    unfold useV at hn
    split at hn
    · rename_i hh; exact kl _ (hv hh.1).2 n hn
    · cases hn
  intro n hn
  unfold usesL at hn
  simp only [List.mem_append, List.mem_flatMap] at hn
  rcases hn with ((⟨m, hm, hn⟩ | ⟨v, hv, hn⟩) | ⟨v, hv, hn⟩) | ⟨v, hv, hn⟩
  · exact kl m (h.sup m hm).2 n hn
  · exact kv v (h.par v (s1 v hv)) n hn
  · exact kv v (h.res v (s2 v hv)) n hn
  · obtain ⟨y, hy, rfl⟩ := List.mem_map.1 hv
    exact kv y.ty (h.fld y (s3 y hy)) n hn
theorem uses_len {x : SB} (h : Sml x) : (usesL x).length ≤ 4194304 := by
  obtain ⟨m1, m2, m3⟩ := ofK_sml h
  have m0 := h.1
  have l1 := flat_len useL_len x.supers
  have l2 := flat_len useV_len x.comp.ofK.params
  have l3 := flat_len useV_len x.comp.ofK.results
  have l4 := flat_len useV_len (x.comp.ofK.fields.map FT.ty)
  rw [List.length_map] at l4
  unfold usesL
  rw [List.length_append, List.length_append, List.length_append]
  omega
end Go.Proofs.YtoihkcdjfhmccaaDoor
