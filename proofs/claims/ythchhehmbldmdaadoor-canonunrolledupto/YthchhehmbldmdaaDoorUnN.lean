/-
  The ids of a group rolled up and unrolled behind others; no statement is proved here.
-/
import Derived.Test.YthchhehmbldmdaaDoorUnM
import Derived.Test.YthchhehmbldmdaaDoorOneW
namespace Go.Proofs.YthchhehmbldmdaaDoor
open Go.RowKit
set_option linter.unusedVariables false
set_option linter.unusedSimpArgs false

theorem ofK_sub' (c : CT) : (∀ v ∈ c.ofK.params, v ∈ c.params) ∧ (∀ v ∈ c.ofK.results, v ∈ c.results) ∧ (∀ v ∈ c.ofK.fields, v ∈ c.fields) := by
  unfold CT.ofK
  split
  · exact ⟨fun _ h => h, fun _ h => h, fun _ h => by cases h⟩
  · split
    · exact ⟨fun _ h => (by cases h), fun _ h => (by cases h), fun _ h => h⟩
    · exact ⟨fun _ h => (by cases h), fun _ h => (by cases h), fun _ h => (by cases h)⟩
theorem num_cp {x : SB} {k : Int} (h : Num x.cp k) : k ∈ seenL x := by
  have key : ∀ l : List VT, NumV (l.map VT.cnt) k → k ∈ l.flatMap visV := by
    rintro l ⟨v, hv, h5, ha, rfl⟩
    obtain ⟨u, hu, rfl⟩ := List.mem_map.1 hv
    rw [cnt_num] at h5
    rw [cnt_five h5] at ha ⊢
    exact mem_vis hu h5 ha
  unfold seenL
  rcases h with h | h | h | h
  · have h' : k ∈ x.supers := h
    simp [h']
  · have := key x.comp.ofK.params h
    simp [this]
  · have := key x.comp.ofK.results h
    simp [this]
  · have e : x.cp.comp.fields.map FT.ty = (x.comp.ofK.fields.map FT.ty).map VT.cnt := by
      show (x.comp.ofK.fields.map FT.cnt).map FT.ty = _
      rw [List.map_map, List.map_map]; rfl
    rw [e] at h
    have := key (x.comp.ofK.fields.map FT.ty) h
    rw [List.mem_append]; exact Or.inr this
theorem num_roll {x : SB} {e k : Int} (hx : fineP x e = true) (h : Num (x.cp.mp (rollN 0)).cp k) : -100 < k ∨ -100 - k < e := by
  rw [idem] at h
  have hs := fineP_num hx
  have key : ∀ l : List VT, (∀ v ∈ l, ∀ j ∈ visV v, 0 ≤ j ∧ j < e) → NumV ((l.map VT.cnt).map (VT.mp (rollN 0))) k → -100 < k ∨ -100 - k < e := by
    rintro l hl ⟨v, hv, h5, ha, rfl⟩
    rw [List.map_map] at hv
    obtain ⟨u, hu, rfl⟩ := List.mem_map.1 hv
    simp only [Function.comp] at h5 ha ⊢
    rw [mp_num, cnt_num] at h5
    by_cases hb : absB u.heap = false
    · have hj := hl u hu u.heap (by unfold visV; rw [if_pos ⟨h5, hb⟩]; simp)
      have e1 : (u.cnt.mp (rollN 0)).heap = -100 - u.heap := by rw [cnt_five h5]; unfold VT.mp VT.put; rw [if_pos ⟨h5, hb⟩]; exact roll0 hj.1
      rw [e1]; omega
    · exfalso
      have e1 : u.cnt.mp (rollN 0) = u := by rw [cnt_five h5]; unfold VT.mp; rw [if_neg (fun h => hb h.2)]
      rw [e1] at ha
      exact hb ha
  have hin : ∀ l : List VT, (∀ j ∈ l.flatMap visV, j ∈ seenL x) → ∀ v ∈ l, ∀ j ∈ visV v, 0 ≤ j ∧ j < e := fun l hl v hv j hj => hs j (hl j (List.mem_flatMap.2 ⟨v, hv, hj⟩))
  rcases h with h | h | h | h
  · change k ∈ x.supers.map (rollN 0) at h
    obtain ⟨j, hj, rfl⟩ := List.mem_map.1 h
    have := hs j (by unfold seenL; simp [hj])
    rw [roll0 this.1]; omega
  · exact key _ (hin x.comp.ofK.params (fun j hj => by unfold seenL; simp [hj])) h
  · exact key _ (hin x.comp.ofK.results (fun j hj => by unfold seenL; simp [hj])) h
  · have e1 : (x.cp.mp (rollN 0)).comp.fields.map FT.ty = ((x.comp.ofK.fields.map FT.ty).map VT.cnt).map (VT.mp (rollN 0)) := by
      show ((x.comp.ofK.fields.map FT.cnt).map (FT.mp (rollN 0))).map FT.ty = _
      simp only [List.map_map]; rfl
    rw [e1] at h
    exact key _ (hin (x.comp.ofK.fields.map FT.ty) (fun j hj => by unfold seenL; rw [List.mem_append]; exact Or.inr hj)) h
theorem un_len (n : Int) (x : SB) : (unS n x).supers.length = x.supers.length ∧ (unS n x).comp.params.length ≤ x.comp.params.length ∧ (unS n x).comp.results.length ≤ x.comp.results.length ∧ (unS n x).comp.fields.length ≤ x.comp.fields.length := by
  rw [unS_sup, unS_par, unS_res, unS_fld]
  simp only [List.length_map]
  refine ⟨trivial, ?_, ?_, ?_⟩
  · unfold CT.ofK; split
    · exact Nat.le_refl _
    · split <;> simp
  · unfold CT.ofK; split
    · exact Nat.le_refl _
    · split <;> simp
  · unfold CT.ofK; split
    · simp
    · split
      · exact Nat.le_refl _
      · simp
theorem unV_rng {n e : Int} {v : VT} (hv : R64 v.num ∧ R64 v.heap) (hn : 0 ≤ n ∧ n ≤ 1048576) (he : e ≤ 1048576) (hs : ∀ k ∈ visV v, 0 ≤ k ∧ k < e) : R64 (unV n v).num ∧ R64 (unV n v).heap := by
  by_cases h : v.num = 5 ∧ absB v.heap = false
  · have h0 := hs v.heap (by unfold visV; rw [if_pos h]; simp)
    rw [unV_vis h.1 h.2 h0.1]
    unfold R64
    simp only
    omega
  · rw [unV_no h]
    unfold VT.cnt
    split
    · exact hv
    · refine ⟨hv.1, ?_⟩; unfold R64; simp only; omega
theorem un_rng {n e : Int} {x : SB} (hx : Rng x) (hf : fineP x e = true) (hn : 0 ≤ n ∧ n ≤ 1048576) (he : e ≤ 1048576) : Rng (unS n x) := by
  have hs := fineP_num hf
  obtain ⟨k1, k2, k3⟩ := ofK_sub' x.comp
  refine ⟨fun k hk => ?_, by rw [unS_kind]; exact hx.k, fun v hv => ?_, fun v hv => ?_, fun v hv => ?_⟩
  · rw [unS_sup, List.map_map] at hk
    obtain ⟨j, hj, rfl⟩ := List.mem_map.1 hk
    have := hs j (by unfold seenL; simp [hj])
    simp only [Function.comp]
    rw [roll0 this.1, unroll0 this.1]
    unfold R64; omega
  · rw [unS_par] at hv
    obtain ⟨u, hu, rfl⟩ := List.mem_map.1 hv
    exact unV_rng (hx.p u (k1 u hu)) hn he (fun k hk => hs k (by unfold seenL; have := List.mem_flatMap.2 ⟨u, hu, hk⟩; simp [this]))
  · rw [unS_res] at hv
    obtain ⟨u, hu, rfl⟩ := List.mem_map.1 hv
    exact unV_rng (hx.r u (k2 u hu)) hn he (fun k hk => hs k (by unfold seenL; have := List.mem_flatMap.2 ⟨u, hu, hk⟩; simp [this]))
  · rw [unS_fld] at hv
    obtain ⟨u, hu, rfl⟩ := List.mem_map.1 hv
    exact unV_rng (v := u.ty) (hx.f u (k3 u hu)) hn he (fun k hk => hs k (by unfold seenL; rw [List.mem_append]; exact Or.inr (List.mem_flatMap.2 ⟨u.ty, List.mem_map.2 ⟨u, hu, rfl⟩, hk⟩)))
theorem un_sml {x : SB} (h : Sml x) (n : Int) : Sml (unS n x) := by
  obtain ⟨a, b, c, d⟩ := un_len n x
  obtain ⟨h1, h2, h3, h4⟩ := h
  exact ⟨by omega, by omega, by omega, by omega⟩
theorem un_mu (x : SB) (n : Int) : muS (unS n x) ≤ muS x := by
  obtain ⟨a, b, c, d⟩ := un_len n x
  unfold muS; omega
theorem step_new {s : Dr} {m : List SB} (h0 : s.f0 (txt m) = none) (h1 : s.f1 (txt m) = none) (hb : (m.length : Int) ≤ s.most - s.count) : stepD s m = some (s.count, ⟨s.f0, putF s.f1 (txt m) s.count, s.groups ++ [m], s.count + (m.length : Int), s.most, s.base⟩) := by
  unfold stepD; rw [h0]; simp only; rw [h1]; simp only; rw [if_neg (by omega)]
theorem step_old {s : Dr} {m : List SB} {v : Int} (h0 : s.f0 (txt m) = none) (h1 : s.f1 (txt m) = some v) : stepD s m = some (v, s) := by
  unfold stepD; rw [h0]; simp only; rw [h1]
/- The group unrolled. -/
def unR (n : Int) (r : RT) : RT := ⟨r.types.map (unS n), r.explicit⟩
def S1 (T : List SB) : Dr := ⟨NOF, putF NOF (txt T) 0, [T], (T.length : Int), 9223372036854775807, 0⟩
def tyT (r : RT) : List SB := r.types.map (SB.sw (toldN []))
theorem n_one {r : RT} (h : r.types.length ≤ 1048576) : numF stepD [r] [] U0 = (some (idsOf 0 r.types.length), S1 (tyT r)) := by
  refine (numF_at (step := stepD) (L := [r]) (i := 0) (r := r) rfl [] U0).trans ?_
  have hs : stepD U0 (tyT r) = some (0, S1 (tyT r)) := by
    unfold stepD U0 S1 NOF
    simp only
    rw [if_neg (by unfold tyT; rw [List.length_map]; omega)]
    simp
  unfold tyT at hs
  rw [hs]
  rfl
theorem idsU_one {r : RT} (h : r.types.length ≤ 1048576) : idsU [r] = idsOf 0 r.types.length := by unfold idsU; rw [n_one h]; rfl
theorem told_up (ids : List Int) {k : Int} (h : 0 ≤ k) : toldN ids ((ids.length : Int) + k) = toldN [] k := by
  unfold toldN
  rw [if_neg (by omega), if_neg (by simp; omega)]
  simp only [List.length_nil]
  omega
theorem n_two {r m : RT} {e : Int} (hr : ∀ x ∈ r.types, fineP x e = true) (h : r.types.length + m.types.length ≤ 1048576) :
    ∃ f s2, numF stepD [m, unR (m.types.length : Int) r] [] (S1 (tyT r)) = (some (idsOf f m.types.length ++ idsOf 0 r.types.length), s2) := by
  have hTT : ∀ ids : List Int, ids.length = m.types.length → (unR (m.types.length : Int) r).types.map (SB.sw (toldN ids)) = tyT r := fun ids hl => by
    unfold unR tyT
    simp only
    rw [List.map_map]
    refine List.map_congr_left (fun x hx => ?_)
    exact un_sw (hr x hx) (by omega) (fun k hk => by rw [← hl]; exact told_up ids hk)
  have hlen : (tyT r).length = r.types.length := by unfold tyT; rw [List.length_map]
  have hlenm : (tyT m).length = m.types.length := by unfold tyT; rw [List.length_map]
  obtain ⟨f, s1, h1, hf0, hf1⟩ : ∃ f s1, stepD (S1 (tyT r)) (tyT m) = some (f, s1) ∧ s1.f0 (txt (tyT r)) = none ∧ s1.f1 (txt (tyT r)) = some 0 := by
    have hself : (S1 (tyT r)).f1 (txt (tyT r)) = some 0 := by unfold S1 putF; simp
    cases e1 : (S1 (tyT r)).f1 (txt (tyT m)) with
    | some v => exact ⟨v, S1 (tyT r), step_old rfl e1, rfl, hself⟩
    | none =>
      refine ⟨_, _, step_new rfl e1 ?_, rfl, ?_⟩
      · have e5 : (S1 (tyT r)).most - (S1 (tyT r)).count = 9223372036854775807 - ((tyT r).length : Int) := rfl
        rw [e5, hlen, hlenm]; omega
      · unfold putF
        simp only
        split
        · rename_i he
          rw [← he, hself] at e1
          cases e1
        · exact hself
  have h2 : stepD s1 (tyT r) = some (0, s1) := by unfold stepD; rw [hf0]; simp only; rw [hf1]
  refine ⟨f, s1, ?_⟩
  refine (numF_at (step := stepD) (L := [m, unR (m.types.length : Int) r]) (i := 0) (r := m) rfl [] _).trans ?_
  have e0 : m.types.map (SB.sw (toldN [])) = tyT m := rfl
  rw [e0, h1]
  refine (numF_at (step := stepD) (L := [m, unR (m.types.length : Int) r]) (i := 1) (r := unR (m.types.length : Int) r) rfl _ _).trans ?_
  rw [hTT _ (by rw [List.nil_append, idsOf_len]), h2]
  have e3 : (unR (m.types.length : Int) r).types.length = r.types.length := by unfold unR; simp
  rw [e3, List.nil_append]
  rfl
theorem un_fit {r m : RT} {e : Int} (hr : ∀ x ∈ r.types, fineP x e = true) (he : e ≤ 1048576) (hb : muR r + muR m ≤ 1048576) (g1 : ∀ x ∈ r.types, Rng x) (g2 : ∀ x ∈ m.types, Rng x) : Fit [m, unR (m.types.length : Int) r] := by
  have hm : m.types.length ≤ 1048576 := by
    have := sum_len (μ := muS) (fun a => by unfold muS; omega) m.types
    unfold muR at hb; omega
  refine fit_of ?_ (fun t ht x hx => ?_)
  · have : muR (unR (m.types.length : Int) r) ≤ muR r := by
      unfold muR unR
      simp only
      have := sum_le (μ := muS) (ν := muS) (fun x => un_mu x (m.types.length : Int)) r.types
      omega
    simp only [List.map_cons, List.map_nil, List.sum_cons, List.sum_nil]
    omega
  · simp only [List.mem_cons, List.not_mem_nil, or_false] at ht
    rcases ht with rfl | rfl
    · exact g2 x hx
    · obtain ⟨y, hy, rfl⟩ := List.mem_map.1 hx
      exact un_rng (g1 y hy) (hr y hy) ⟨by omega, by omega⟩ he
theorem un_closed {r m : RT} (hr : closedP 0 [r] = true) (hm : closedP 0 [m] = true) : closedP 0 [m, unR (m.types.length : Int) r] = true := by
  unfold closedP at hr hm ⊢
  rw [Bool.and_eq_true] at hr hm
  rw [Bool.and_eq_true]
  refine ⟨hm.1, ?_⟩
  unfold closedP
  rw [Bool.and_eq_true]
  refine ⟨?_, rfl⟩
  rw [List.all_eq_true]
  intro x hx
  obtain ⟨y, hy, rfl⟩ := List.mem_map.1 hx
  have h1 := List.all_eq_true.1 hr.1 y hy
  have h2 := un_fine h1 (n := (m.types.length : Int)) (by omega)
  have e3 : (unR (m.types.length : Int) r).types.length = r.types.length := by unfold unR; simp
  rw [e3]
  have e4 : ((0 + m.types.length + r.types.length : Nat) : Int) = (m.types.length : Int) + ((0 + r.types.length : Nat) : Int) := by omega
  rw [e4]
  exact h2
end Go.Proofs.YthchhehmbldmdaaDoor
