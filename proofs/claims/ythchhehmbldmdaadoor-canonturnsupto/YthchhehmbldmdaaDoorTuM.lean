/-
  Two numberings of one list, as plain data; no statement is proved here.
-/
import Derived.Test.YthchhehmbldmdaaDoorSamW
import Derived.Test.YthchhehmbldmdaaDoorAdd
namespace Go.Proofs.YthchhehmbldmdaaDoor
open Go.RowKit
set_option linter.unusedVariables false
set_option linter.unusedSimpArgs false

def look (s : Dr) (m : List SB) : Option Int := match s.f0 (txt m) with
  | some v => some v
  | none => s.f1 (txt m)
theorem look_or {s : Dr} {m : List SB} {v : Int} (h : look s m = some v) : s.f0 (txt m) = some v ∨ s.f1 (txt m) = some v := by
  unfold look at h
  cases e : s.f0 (txt m) with
  | some u => rw [e] at h; exact Or.inl h
  | none => rw [e] at h; exact Or.inr h
/- Texts have ranges of ids apart. -/
structure InjD (s : Dr) : Prop where
  dis : ∀ t v, s.f1 t = some v → s.f0 t = none
  inj : ∀ m m' v v' n, look s m = some v → look s m' = some v' → v ≤ n → n < v + (m.length : Int) → v' ≤ n → n < v' + (m'.length : Int) → m = m'
def newD (s : Dr) (m : List SB) : Dr := ⟨s.f0, putF s.f1 (txt m) s.count, s.groups ++ [m], s.count + (m.length : Int), s.most, s.base⟩
theorem step_cases {s : Dr} {m : List SB} {n : Int} {s' : Dr} (h : stepD s m = some (n, s')) : (look s m = some n ∧ s' = s) ∨ (s.f0 (txt m) = none ∧ s.f1 (txt m) = none ∧ n = s.count ∧ s' = newD s m) := by
  unfold stepD at h
  cases e0 : s.f0 (txt m) with
  | some v =>
    rw [e0] at h
    simp only [Option.some.injEq, Prod.mk.injEq] at h
    exact Or.inl ⟨by unfold look; rw [e0, h.1], h.2.symm⟩
  | none =>
    rw [e0] at h
    simp only at h
    cases e1 : s.f1 (txt m) with
    | some v =>
      rw [e1] at h
      simp only [Option.some.injEq, Prod.mk.injEq] at h
      exact Or.inl ⟨by unfold look; rw [e0]; simp only; rw [e1, h.1], h.2.symm⟩
    | none =>
      rw [e1] at h
      simp only at h
      split at h
      · cases h
      · simp only [Option.some.injEq, Prod.mk.injEq] at h
        exact Or.inr ⟨rfl, rfl, h.1.symm, h.2.symm⟩
theorem new_self {s : Dr} {m : List SB} (h0 : s.f0 (txt m) = none) : look (newD s m) m = some s.count := by
  unfold look newD
  simp only
  rw [h0]
  simp [putF]
theorem new_old {s : Dr} {m m' : List SB} {v : Int} (h0 : s.f0 (txt m) = none) (h1 : s.f1 (txt m) = none) (h : look s m' = some v) : look (newD s m) m' = some v := by
  unfold look at h ⊢
  unfold newD
  simp only
  cases e : s.f0 (txt m') with
  | some u => rw [e] at h; exact h
  | none =>
    rw [e] at h
    simp only at h ⊢
    unfold putF
    split
    · rename_i ht
      rw [ht, h1] at h; cases h
    · exact h
theorem new_inv {s : Dr} {m m' : List SB} {v : Int} (h : look (newD s m) m' = some v) : (m' = m ∧ v = s.count) ∨ look s m' = some v := by
  unfold look newD at h
  simp only at h
  cases e : s.f0 (txt m') with
  | some u => rw [e] at h; exact Or.inr (by unfold look; rw [e]; exact h)
  | none =>
    rw [e] at h
    simp only at h
    unfold putF at h
    split at h
    · rename_i ht
      injection h with h
      exact Or.inl ⟨txt_inj ht, h.symm⟩
    · exact Or.inr (by unfold look; rw [e]; exact h)
theorem step_look {s : Dr} {m : List SB} {n : Int} {s' : Dr} (h : stepD s m = some (n, s')) : look s' m = some n ∧ ∀ m' v, look s m' = some v → look s' m' = some v := by
  rcases step_cases h with ⟨h1, rfl⟩ | ⟨h0, h1, rfl, rfl⟩
  · exact ⟨h1, fun _ _ h => h⟩
  · exact ⟨new_self h0, fun _ _ h => new_old h0 h1 h⟩
theorem step_inj {s : Dr} {k c : Nat} {m : List SB} {n : Int} {s' : Dr} (hG : GoodD s k c) (hI : InjD s) (h : stepD s m = some (n, s')) : InjD s' := by
  rcases step_cases h with ⟨h1, rfl⟩ | ⟨h0, h1, rfl, rfl⟩
  · exact hI
  · refine ⟨fun t v ht => ?_, fun m1 m2 v1 v2 n l1 l2 a1 a2 b1 b2 => ?_⟩
    · unfold newD at ht ⊢
      simp only at ht ⊢
      unfold putF at ht
      split at ht
      · rename_i e; rw [e]; exact h0
      · exact hI.dis t v ht
    · have o1 := new_inv l1
      have o2 := new_inv l2
      clear l1 l2
      rcases o1 with ⟨i1, j1⟩ | l1
      · rcases o2 with ⟨i2, j2⟩ | l2
        · rw [i1, i2]
        · have := hG.f m2 v2 (look_or l2); omega
      · rcases o2 with ⟨i2, j2⟩ | l2
        · have := hG.f m1 v1 (look_or l1); omega
        · exact hI.inj m1 m2 v1 v2 n l1 l2 a1 a2 b1 b2
theorem num_look : ∀ (L : List RT) (ids : List Int) (s : Dr) (o : List Int) (s' : Dr), numF stepD L ids s = (some o, s') → ∀ m v, look s m = some v → look s' m = some v
  | [], ids, s, o, s', h, m, v, hv => by
    obtain ⟨_, rfl⟩ := Prod.mk.inj h
    exact hv
  | r :: L, ids, s, o, s', h, m, v, hv => by
    have h0 := (numF_at (step := stepD) (L := r :: L) (i := 0) rfl ids s).symm.trans h
    cases hs : stepD s (r.types.map (SB.sw (toldN ids))) with
    | none => rw [hs] at h0; cases (Prod.mk.inj h0).1
    | some p =>
      obtain ⟨n, s1⟩ := p
      rw [hs] at h0
      exact num_look L _ s1 o s' h0 m v ((step_look hs).2 m v hv)
theorem num_again : ∀ (L : List RT) (ids : List Int) (s : Dr) (o : List Int) (s' D : Dr), numF stepD L ids s = (some o, s') → (∀ m v, look s' m = some v → D.f0 (txt m) = some v) → numF stepD L ids D = (some o, D)
  | [], ids, s, o, s', D, h, hD => by
    obtain ⟨h1, rfl⟩ := Prod.mk.inj h
    exact Prod.ext h1 rfl
  | r :: L, ids, s, o, s', D, h, hD => by
    have h0 := (numF_at (step := stepD) (L := r :: L) (i := 0) rfl ids s).symm.trans h
    refine (numF_at (step := stepD) (L := r :: L) (i := 0) rfl ids D).trans ?_
    cases hs : stepD s (r.types.map (SB.sw (toldN ids))) with
    | none => rw [hs] at h0; cases (Prod.mk.inj h0).1
    | some p =>
      obtain ⟨n, s1⟩ := p
      rw [hs] at h0
      have hl := hD _ _ (num_look L _ s1 o s' h0 _ _ (step_look hs).1)
      have hd : stepD D (r.types.map (SB.sw (toldN ids))) = some (n, D) := by unfold stepD; rw [hl]
      rw [hd]
      exact num_again L _ s1 o s' D h0 hD
theorem num_good : ∀ (L : List RT) (ids : List Int) (s : Dr) (k c : Nat) (o : List Int) (s' : Dr), GoodD s k c → InjD s → k + cntT L ≤ 2097152 → closedP ids.length L = true → (∀ r ∈ L, ∀ x ∈ r.types, Sml x) → (∀ a ∈ ids, 0 ≤ a ∧ a ≤ 4194304) → numF stepD L ids s = (some o, s') → GoodD s' (k + cntT L) (c + L.length) ∧ InjD s' ∧ o.length = ids.length + cntT L
  | [], ids, s, k, c, o, s', h, hI, hk, _, _, _, hn => by
    obtain ⟨h1, rfl⟩ := Prod.mk.inj hn
    injection h1 with h1
    subst h1
    exact ⟨by simpa [cntT] using h, hI, by simp [cntT]⟩
  | r :: L, ids, s, k, c, o, s', h, hI, hk, hcl, hsm, hid, hn => by
    have hcnt : cntT (r :: L) = r.types.length + cntT L := rfl
    rw [hcnt] at hk
    unfold closedP at hcl
    rw [Bool.and_eq_true] at hcl
    have h0 := (numF_at (step := stepD) (L := r :: L) (i := 0) rfl ids s).symm.trans hn
    cases hs : stepD s (r.types.map (SB.sw (toldN ids))) with
    | none => rw [hs] at h0; cases (Prod.mk.inj h0).1
    | some p =>
      obtain ⟨n, s1⟩ := p
      rw [hs] at h0
      obtain ⟨h1, h2, h3⟩ := good_step h (ok_sw hid (hsm r (by simp)) (fun x hx => List.all_eq_true.1 hcl.1 x hx)) (by rw [List.length_map]; omega) hs
      rw [List.length_map] at h2 h3
      have hl' : (ids ++ idsOf n r.types.length).length = ids.length + r.types.length := by rw [List.length_append, idsOf_len]
      obtain ⟨e1, e2, e3⟩ := num_good L (ids ++ idsOf n r.types.length) s1 (k + r.types.length) (c + 1) o s' h3 (step_inj h hI hs) (by omega) (by rw [hl']; exact hcl.2) (fun r' hr' => hsm r' (by simp [hr'])) (fun a ha => (List.mem_append.1 ha).elim (hid a) (idsOf_rng h1 h2 a)) h0
      refine ⟨?_, e2, by rw [e3, hl', hcnt]; omega⟩
      rw [hcnt, List.length_cons, show k + (r.types.length + cntT L) = k + r.types.length + cntT L by omega, show c + (L.length + 1) = c + 1 + L.length by omega]
      exact e1
/- A map of ids, over a group rolled up. -/
theorem V_sw_sw {f g φ : Int → Int} {v : VT} (hn : ∀ n, n < 0 → φ n = n) (hv : v.num = 5 → 0 ≤ v.heap → g v.heap = φ (f v.heap)) : (v.sw f).sw φ = v.sw g := by
  by_cases h5 : v.num = 5
  · by_cases h0 : 0 ≤ v.heap
    · have e1 : v.sw f = ⟨5, v.null, f v.heap⟩ := by unfold VT.sw; rw [if_pos h5, if_pos h0]
      have e2 : v.sw g = ⟨5, v.null, g v.heap⟩ := by unfold VT.sw; rw [if_pos h5, if_pos h0]
      rw [e1, e2, hv h5 h0]
      unfold VT.sw
      rw [if_pos rfl]
      split
      · rfl
      · rename_i h; rw [hn _ (by simpa using h)]
    · have e1 : ∀ f, v.sw f = v := fun f => by unfold VT.sw; rw [if_pos h5, if_neg h0]
      rw [e1 f, e1 φ, e1 g]
  · have e1 : ∀ f, v.sw f = ⟨v.num, false, 0⟩ := fun f => by unfold VT.sw; rw [if_neg h5]
    rw [e1 f, e1 g]
    unfold VT.sw
    rw [if_neg h5]
theorem V_sw_congr {f g : Int → Int} {v : VT} (hv : v.num = 5 → 0 ≤ v.heap → f v.heap = g v.heap) : v.sw f = v.sw g := by
  unfold VT.sw
  split
  · rename_i h5
    split
    · rename_i h0; rw [hv h5 h0]
    · rfl
  · rfl
theorem sw_kind (f : Int → Int) (c : CT) : (CT.sw f c).kind = c.kind := by
  unfold CT.sw
  split
  · rfl
  · split <;> rfl
theorem S_sw_sw {D : Int → Prop} {f g φ : Int → Int} {x : SB} (hn : ∀ n, n < 0 → φ n = n) (hx : In D x) (hf : ∀ n, D n → g n = φ (f n)) : (x.sw f).sw φ = x.sw g := by
  obtain ⟨h1, h2, h3, h4⟩ := hx
  have e1 : (x.supers.map f).map φ = x.supers.map g := by
    rw [List.map_map]; exact List.map_congr_left (fun n hm => (hf n (h1 n hm)).symm)
  have e2 : CT.sw φ (CT.sw f x.comp) = CT.sw g x.comp := by
    have hk := sw_kind f x.comp
    by_cases k1 : x.comp.kind = 1
    · have e : ∀ f, CT.sw f x.comp = ⟨x.comp.kind, x.comp.params.map (VT.sw f), x.comp.results.map (VT.sw f), []⟩ := fun f => by unfold CT.sw; rw [if_pos k1]
      rw [e f, e g]
      unfold CT.sw
      simp only [if_pos k1, List.map_map]
      congr 1
      · exact List.map_congr_left (fun v hv => V_sw_sw hn (fun a b => hf _ (h2 k1 v hv a b)))
      · exact List.map_congr_left (fun v hv => V_sw_sw hn (fun a b => hf _ (h3 k1 v hv a b)))
    · by_cases k2 : x.comp.kind = 2 ∨ x.comp.kind = 3
      · have e : ∀ f, CT.sw f x.comp = ⟨x.comp.kind, [], [], x.comp.fields.map (FT.sw f)⟩ := fun f => by unfold CT.sw; rw [if_neg k1, if_pos k2]
        rw [e f, e g]
        unfold CT.sw
        simp only [if_neg k1, if_pos k2, List.map_map]
        congr 1
        refine List.map_congr_left (fun v hv => ?_)
        show FT.mk ((v.ty.sw f).sw φ) v.mut_ = FT.mk (v.ty.sw g) v.mut_
        rw [V_sw_sw hn (fun a b => hf _ (h4 k2 v hv a b))]
      · have e : ∀ f, CT.sw f x.comp = ⟨x.comp.kind, [], [], []⟩ := fun f => by unfold CT.sw; rw [if_neg k1, if_neg k2]
        rw [e f, e g]
        unfold CT.sw
        simp only [if_neg k1, if_neg k2]
  show SB.mk x.final_ ((x.supers.map f).map φ) (CT.sw φ (CT.sw f x.comp)) = SB.mk x.final_ (x.supers.map g) (CT.sw g x.comp)
  rw [e1, e2]
theorem S_sw_congr {D : Int → Prop} {f g : Int → Int} {x : SB} (hx : In D x) (hf : ∀ n, D n → f n = g n) : x.sw f = x.sw g := by
  obtain ⟨h1, h2, h3, h4⟩ := hx
  have e1 : x.supers.map f = x.supers.map g := List.map_congr_left (fun n hm => hf n (h1 n hm))
  have e2 : CT.sw f x.comp = CT.sw g x.comp := by
    by_cases k1 : x.comp.kind = 1
    · have e : ∀ f, CT.sw f x.comp = ⟨x.comp.kind, x.comp.params.map (VT.sw f), x.comp.results.map (VT.sw f), []⟩ := fun f => by unfold CT.sw; rw [if_pos k1]
      rw [e f, e g]
      congr 1
      · exact List.map_congr_left (fun v hv => V_sw_congr (fun a b => hf _ (h2 k1 v hv a b)))
      · exact List.map_congr_left (fun v hv => V_sw_congr (fun a b => hf _ (h3 k1 v hv a b)))
    · by_cases k2 : x.comp.kind = 2 ∨ x.comp.kind = 3
      · have e : ∀ f, CT.sw f x.comp = ⟨x.comp.kind, [], [], x.comp.fields.map (FT.sw f)⟩ := fun f => by unfold CT.sw; rw [if_neg k1, if_pos k2]
        rw [e f, e g]
        congr 1
        refine List.map_congr_left (fun v hv => ?_)
        show FT.mk (v.ty.sw f) v.mut_ = FT.mk (v.ty.sw g) v.mut_
        rw [V_sw_congr (fun a b => hf _ (h4 k2 v hv a b))]
      · have e : ∀ f, CT.sw f x.comp = ⟨x.comp.kind, [], [], []⟩ := fun f => by unfold CT.sw; rw [if_neg k1, if_neg k2]
        rw [e f, e g]
  show SB.mk x.final_ (x.supers.map f) (CT.sw f x.comp) = SB.mk x.final_ (x.supers.map g) (CT.sw g x.comp)
  rw [e1, e2]
theorem V_in {D : Int → Prop} {f : Int → Int} {v : VT} (h : v.num = 5 → 0 ≤ v.heap → D (f v.heap)) : (v.sw f).num = 5 → 0 ≤ (v.sw f).heap → D (v.sw f).heap := by
  unfold VT.sw
  by_cases h5 : v.num = 5
  · rw [if_pos h5]
    by_cases h0 : 0 ≤ v.heap
    · rw [if_pos h0]; intro _ _; exact h h5 h0
    · rw [if_neg h0]; intro _ h; exact absurd h h0
  · rw [if_neg h5]; intro h; exact absurd h h5
theorem S_in {C D : Int → Prop} {f : Int → Int} {x : SB} (hx : In C x) (hf : ∀ n, C n → D (f n)) : In D (x.sw f) := by
  obtain ⟨h1, h2, h3, h4⟩ := hx
  refine ⟨fun n hn => ?_, fun hk v hv => ?_, fun hk v hv => ?_, fun hk v hv => ?_⟩
  · obtain ⟨m, hm, rfl⟩ := List.mem_map.1 hn
    exact hf _ (h1 m hm)
  · have k1 : x.comp.kind = 1 := (sw_kind f x.comp).symm.trans hk
    have e : (x.sw f).comp = ⟨x.comp.kind, x.comp.params.map (VT.sw f), x.comp.results.map (VT.sw f), []⟩ := by show CT.sw f x.comp = _; unfold CT.sw; rw [if_pos k1]
    rw [e] at hv
    obtain ⟨u, hu, rfl⟩ := List.mem_map.1 hv
    exact V_in (fun a b => hf _ (h2 k1 u hu a b))
  · have k1 : x.comp.kind = 1 := (sw_kind f x.comp).symm.trans hk
    have e : (x.sw f).comp = ⟨x.comp.kind, x.comp.params.map (VT.sw f), x.comp.results.map (VT.sw f), []⟩ := by show CT.sw f x.comp = _; unfold CT.sw; rw [if_pos k1]
    rw [e] at hv
    obtain ⟨u, hu, rfl⟩ := List.mem_map.1 hv
    exact V_in (fun a b => hf _ (h3 k1 u hu a b))
  · have k2 : x.comp.kind = 2 ∨ x.comp.kind = 3 := by
      have e := sw_kind f x.comp
      exact hk.imp (fun h => e.symm.trans h) (fun h => e.symm.trans h)
    have e : (x.sw f).comp = ⟨x.comp.kind, [], [], x.comp.fields.map (FT.sw f)⟩ := by show CT.sw f x.comp = _; unfold CT.sw; rw [if_neg (by omega), if_pos k2]
    rw [e] at hv
    obtain ⟨u, hu, rfl⟩ := List.mem_map.1 hv
    exact V_in (v := u.ty) (fun a b => hf _ (h4 k2 u hu a b))
theorem told_map {a : List Int} {φ : Int → Int} (hn : ∀ n, n < 0 → φ n = n) {n : Int} (h0 : 0 ≤ n) : toldN (a.map φ) n = φ (toldN a n) := by
  unfold toldN
  rw [List.length_map]
  split
  · rename_i hl
    have hlt : n.toNat < a.length := by omega
    rw [List.getD_eq_getElem?_getD, List.getD_eq_getElem?_getD, List.getElem?_map, List.getElem?_eq_getElem hlt]
    rfl
  · rw [hn _ (by omega)]
theorem told_in {a : List Int} {n : Int} (h0 : 0 ≤ n) : toldN a n < 0 ∨ toldN a n ∈ a := by
  unfold toldN
  split
  · rename_i hl
    have hlt : n.toNat < a.length := by omega
    rw [List.getD_eq_getElem?_getD, List.getElem?_eq_getElem hlt]
    exact Or.inr (List.getElem_mem hlt)
  · left; omega
/- The ids of one numbering, told by those of another. -/
structure His (φ : Int → Int) (s1 s2 : Dr) (a b : List Int) : Prop where
  neg : ∀ n, n < 0 → φ n = n
  map : b = a.map φ
  his : ∀ n ∈ a, ∃ m v1 v2, look s1 m = some v1 ∧ v1 ≤ n ∧ n < v1 + (m.length : Int) ∧ look s2 (m.map (SB.sw φ)) = some v2 ∧ φ n = v2 + (n - v1) ∧ ∀ x ∈ m, In (fun k => k < 0 ∨ k ∈ a) x
theorem num_fun : ∀ (L : List RT) (a b : List Int) (s1 s2 : Dr) (k c : Nat) (φ : Int → Int) (o1 o2 : List Int) (e1 e2 : Dr), His φ s1 s2 a b → GoodD s1 k c → InjD s1 → k + cntT L ≤ 2097152 → closedP a.length L = true → (∀ r ∈ L, ∀ x ∈ r.types, Sml x) → (∀ i ∈ a, 0 ≤ i ∧ i ≤ 4194304) → numF stepD L a s1 = (some o1, e1) → numF stepD L b s2 = (some o2, e2) → ∃ ψ : Int → Int, o2 = o1.map ψ
  | [], a, b, s1, s2, k, c, φ, o1, o2, e1, e2, H, _, _, _, _, _, _, n1, n2 => by
    have h1 := (Prod.mk.inj n1).1
    have h2 := (Prod.mk.inj n2).1
    injection h1 with h1
    injection h2 with h2
    subst h1 h2
    exact ⟨φ, H.map⟩
  | r :: L, a, b, s1, s2, k, c, φ, o1, o2, e1, e2, H, hG, hI, hk, hcl, hsm, hid, n1, n2 => by
    have hcnt : cntT (r :: L) = r.types.length + cntT L := rfl
    rw [hcnt] at hk
    unfold closedP at hcl
    rw [Bool.and_eq_true] at hcl
    have hin : ∀ x ∈ r.types, In (Below' (a.length + r.types.length)) x := fun x hx => fineP_in (List.all_eq_true.1 hcl.1 x hx)
    have g1 := (numF_at (step := stepD) (L := r :: L) (i := 0) rfl a s1).symm.trans n1
    have g2 := (numF_at (step := stepD) (L := r :: L) (i := 0) rfl b s2).symm.trans n2
    cases hs1 : stepD s1 (r.types.map (SB.sw (toldN a))) with
    | none => rw [hs1] at g1; cases (Prod.mk.inj g1).1
    | some p1 =>
    cases hs2 : stepD s2 (r.types.map (SB.sw (toldN b))) with
    | none => rw [hs2] at g2; cases (Prod.mk.inj g2).1
    | some p2 =>
    obtain ⟨u1, t1⟩ := p1
    obtain ⟨u2, t2⟩ := p2
    rw [hs1] at g1
    rw [hs2] at g2
    obtain ⟨q1, q2, q3⟩ := good_step hG (ok_sw hid (hsm r (by simp)) (fun x hx => List.all_eq_true.1 hcl.1 x hx)) (by rw [List.length_map]; omega) hs1
    rw [List.length_map] at q2 q3
    have hI1 := step_inj hG hI hs1
    obtain ⟨l1, k1⟩ := step_look hs1
    obtain ⟨l2, k2⟩ := step_look hs2
    have hm : r.types.map (SB.sw (toldN b)) = (r.types.map (SB.sw (toldN a))).map (SB.sw φ) := by
      rw [List.map_map]
      refine List.map_congr_left (fun x hx => ?_)
      refine (S_sw_sw H.neg (hin x hx) (fun n hn => ?_)).symm
      rw [H.map]
      exact told_map H.neg hn.1
    have hmin : ∀ x ∈ r.types.map (SB.sw (toldN a)), In (fun k => k < 0 ∨ k ∈ a) x := fun x hx => by
      obtain ⟨y, hy, rfl⟩ := List.mem_map.1 hx
      exact S_in (hin y hy) (fun n hn => told_in hn.1)
    have hml : (r.types.map (SB.sw (toldN a))).length = r.types.length := List.length_map _
    rw [hm] at l2
    generalize hM : r.types.map (SB.sw (toldN a)) = M at *
    let ψ : Int → Int := fun n => if u1 ≤ n ∧ n < u1 + (r.types.length : Int) then u2 + (n - u1) else φ n
    have ψneg : ∀ n, n < 0 → ψ n = n := fun n hn => by
      show (if u1 ≤ n ∧ n < u1 + (r.types.length : Int) then u2 + (n - u1) else φ n) = n
      rw [if_neg (by omega)]; exact H.neg n hn
    have ψin : ∀ n, u1 ≤ n → n < u1 + (r.types.length : Int) → ψ n = u2 + (n - u1) := fun n h1 h2 => if_pos ⟨h1, h2⟩
    have ψold : ∀ n, n < 0 ∨ n ∈ a → ψ n = φ n := fun n hn => by
      rcases hn with hn | hn
      · rw [ψneg n hn, H.neg n hn]
      · by_cases hr : u1 ≤ n ∧ n < u1 + (r.types.length : Int)
        · rw [ψin n hr.1 hr.2]
          obtain ⟨m, v1, v2, a1, a2, a3, a4, a5, _⟩ := H.his n hn
          have e := hI1.inj m M v1 u1 n (k1 m v1 a1) l1 a2 a3 hr.1 (by rw [hml]; exact hr.2)
          subst e
          have e1 := Option.some.inj ((k1 m v1 a1).symm.trans l1)
          have e2 := Option.some.inj ((k2 _ v2 a4).symm.trans l2)
          rw [a5, e1, e2]
        · exact if_neg hr
    have ψsw : ∀ m : List SB, (∀ x ∈ m, In (fun k => k < 0 ∨ k ∈ a) x) → m.map (SB.sw ψ) = m.map (SB.sw φ) := fun m hm => List.map_congr_left (fun x hx => S_sw_congr (hm x hx) ψold)
    have up : ∀ x : SB, In (fun k => k < 0 ∨ k ∈ a) x → In (fun k => k < 0 ∨ k ∈ a ++ idsOf u1 r.types.length) x := fun x hx =>
      have w : ∀ n, n < 0 ∨ n ∈ a → n < 0 ∨ n ∈ a ++ idsOf u1 r.types.length := fun n hn => hn.imp id (fun h => List.mem_append.2 (Or.inl h))
      ⟨fun n hn => w n (hx.s n hn), fun hk v hv a b => w _ (hx.p hk v hv a b), fun hk v hv a b => w _ (hx.r hk v hv a b), fun hk v hv a b => w _ (hx.f hk v hv a b)⟩
    have H' : His ψ t1 t2 (a ++ idsOf u1 r.types.length) (b ++ idsOf u2 r.types.length) := by
      refine ⟨ψneg, ?_, fun n hn => ?_⟩
      · rw [List.map_append]
        congr 1
        · rw [H.map]; exact List.map_congr_left (fun n hn => (ψold n (Or.inr hn)).symm)
        · unfold idsOf
          rw [List.map_map]
          refine List.map_congr_left (fun i hi => ?_)
          have := List.mem_range.1 hi
          show u2 + (i : Int) = ψ (u1 + (i : Int))
          rw [ψin _ (by omega) (by omega)]; omega
      · rcases List.mem_append.1 hn with hn | hn
        · obtain ⟨m, v1, v2, a1, a2, a3, a4, a5, a6⟩ := H.his n hn
          exact ⟨m, v1, v2, k1 m v1 a1, a2, a3, by rw [ψsw m a6]; exact k2 _ _ a4, by rw [ψold n (Or.inr hn)]; exact a5, fun x hx => up x (a6 x hx)⟩
        · obtain ⟨i, hi, rfl⟩ := List.mem_map.1 hn
          have := List.mem_range.1 hi
          exact ⟨M, u1, u2, l1, by omega, by rw [hml]; omega, by rw [ψsw M hmin]; exact l2, ψin _ (by omega) (by omega), fun x hx => up x (hmin x hx)⟩
    have hl' : (a ++ idsOf u1 r.types.length).length = a.length + r.types.length := by rw [List.length_append, idsOf_len]
    exact num_fun L _ _ t1 t2 (k + r.types.length) (c + 1) ψ o1 o2 e1 e2 H' q3 hI1 (by omega) (by rw [hl']; exact hcl.2) (fun r' hr' => hsm r' (by simp [hr'])) (fun i hi => (List.mem_append.1 hi).elim (hid i) (idsOf_rng q1 q2 i)) g1 g2
theorem his_0 (s1 s2 : Dr) : His id s1 s2 [] [] := ⟨fun _ _ => rfl, rfl, fun n hn => by cases hn⟩
theorem inj_U0 : InjD U0 := ⟨fun t v h => by simp [U0, NOF] at h, fun m m' v v' n h => by simp [look, U0, NOF] at h⟩
/- A table's texts. -/
def InjT (f : FM) : Prop := ∀ m m' v v' n, f (txt m) = some v → f (txt m') = some v' → v ≤ n → n < v + (m.length : Int) → v' ≤ n → n < v' + (m'.length : Int) → m = m'
theorem look_D0 (f : FM) (n : Nat) (m : List SB) : look (D0 f n) m = f (txt m) := by
  unfold look D0 NOF
  simp only
  cases f (txt m) <;> rfl
theorem inj_D0 {f : FM} {n : Nat} (h : InjT f) : InjD (D0 f n) := by
  refine ⟨fun t v h => by simp [D0, NOF] at h, fun m m' v v' k h1 h2 => ?_⟩
  rw [look_D0] at h1 h2
  exact h m m' v v' k h1 h2
theorem look_over {s : Dr} (hI : InjD s) (m : List SB) : overF s.f0 s.f1 (txt m) = look s m := by
  unfold overF look
  cases e : s.f1 (txt m) with
  | some v => rw [hI.dis _ _ e]
  | none => simp only; cases s.f0 (txt m) <;> rfl
theorem inj_over {s : Dr} (hI : InjD s) : InjT (overF s.f0 s.f1) := fun m m' v v' n h1 h2 => by
  rw [look_over hI] at h1 h2
  exact hI.inj m m' v v' n h1 h2
theorem good_over {s : Dr} {k c n : Nat} (hI : InjD s) (hG : GoodD s k c) (hm : s.most = 10000) (hn : (n : Int) = s.count) : GoodT (overF s.f0 s.f1) n := by
  refine ⟨by have := hG.cm; omega, fun m v hv => ?_⟩
  rw [look_over hI] at hv
  have := hG.f m v (look_or hv)
  omega
theorem inj_0 : InjT NOF := fun m m' v v' n h => by simp [NOF] at h
/- What is equal in one numbering is so in the other. -/
theorem ids_agree {L : List RT} {s : Dr} {ids : List Int} {s' : Dr} (hs : SmlL L) (hc : closedP 0 L = true) (hG : GoodD s 0 0) (hI : InjD s) (hn : numF stepD L [] s = (some ids, s')) {x y : Int} (hx : 0 ≤ x ∧ x < (cntT L : Int)) (hy : 0 ≤ y ∧ y < (cntT L : Int)) :
    ids.length = cntT L ∧ decide (atI ids x = atI ids y) = decide (atI (idsU L) x = atI (idsU L) y) := by
  obtain ⟨s1, u1, u2, u3, _⟩ := idsU_eq hs hc
  have hb := hs.2.1
  obtain ⟨_, _, hl⟩ := num_good L [] s 0 0 ids s' hG hI (by omega) hc hs.2.2 (fun a ha => by cases ha) hn
  simp only [List.length_nil, Nat.zero_add] at hl
  obtain ⟨ψ, e1⟩ := num_fun L [] [] U0 s 0 0 id _ _ _ _ (his_0 _ _) good_U0 inj_U0 (by omega) hc hs.2.2 (fun a ha => by cases ha) u1 hn
  obtain ⟨χ, e2⟩ := num_fun L [] [] s U0 0 0 id _ _ _ _ (his_0 _ _) hG hI (by omega) hc hs.2.2 (fun a ha => by cases ha) hn u1
  have at_map : ∀ (l : List Int) (f : Int → Int) (n : Int), n.toNat < l.length → atI (l.map f) n = f (atI l n) := fun l f n h => by
    unfold atI
    rw [List.getD_eq_getElem?_getD, List.getD_eq_getElem?_getD, List.getElem?_map, List.getElem?_eq_getElem h]
    rfl
  refine ⟨hl, ?_⟩
  have f1 : atI ids x = atI ids y → atI (idsU L) x = atI (idsU L) y := fun h => by
    rw [e2, at_map _ _ _ (by omega), at_map _ _ _ (by omega), h]
  have f2 : atI (idsU L) x = atI (idsU L) y → atI ids x = atI ids y := fun h => by
    rw [e1, at_map _ _ _ (by omega), at_map _ _ _ (by omega), h]
  exact decide_eq_decide.2 ⟨f1, f2⟩
end Go.Proofs.YthchhehmbldmdaaDoor
