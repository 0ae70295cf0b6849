/-
  A group rolled up and unrolled behind others, as plain data; no statement is proved here.
-/
import Derived.Test.YthchhehmbldmdaaDoorMdN
import Derived.Test.YthchhehmbldmdaaDoorRoll
namespace Go.Proofs.YthchhehmbldmdaaDoor
open Go.RowKit
set_option linter.unusedVariables false
set_option linter.unusedSimpArgs false

theorem cnt_num (v : VT) : v.cnt.num = v.num := by unfold VT.cnt; split <;> rfl
theorem cnt_five {v : VT} (h : v.num = 5) : v.cnt = v := by unfold VT.cnt; rw [if_pos h]
theorem mp_num (σ : Int → Int) (v : VT) : (v.mp σ).num = v.num := by unfold VT.mp VT.put; split <;> rfl
theorem cnt_mp (σ : Int → Int) (v : VT) : (v.cnt.mp σ).cnt = v.cnt.mp σ := by
  by_cases h5 : v.num = 5
  · exact cnt_five (by rw [mp_num, cnt_num]; exact h5)
  · have e : v.cnt = ⟨v.num, false, 0⟩ := by unfold VT.cnt; rw [if_neg h5]
    have e2 : v.cnt.mp σ = v.cnt := mp_no (fun h => absurd (by rw [cnt_num] at h; exact h) h5)
    rw [e2, e]
    unfold VT.cnt
    rw [if_neg h5]
theorem ofK_kin {c : CT} (h : Kin c) : c.ofK = c := by
  obtain ⟨k, p, r, f⟩ := c
  unfold Kin at h
  simp only at h
  unfold CT.ofK
  simp only
  by_cases h1 : k = 1
  · rw [if_pos h1, h.2 (by omega)]
  · rw [if_neg h1]
    obtain ⟨hp, hr⟩ := h.1 h1
    by_cases h2 : k = 2 ∨ k = 3
    · rw [if_pos h2, hp, hr]
    · rw [if_neg h2, hp, hr, h.2 (by omega)]
theorem Kin.mp {c : CT} (h : Kin c) (σ : Int → Int) : Kin (c.mp σ) := by
  obtain ⟨h1, h2⟩ := h
  unfold CT.mp Kin
  refine ⟨fun hk => ?_, fun hk => ?_⟩
  · obtain ⟨a, b⟩ := h1 hk; simp only; rw [a, b]; exact ⟨rfl, rfl⟩
  · simp only; rw [h2 hk]; rfl
def Cnt (x : SB) : Prop := Kin x.comp ∧ (∀ v ∈ x.comp.params, v.cnt = v) ∧ (∀ v ∈ x.comp.results, v.cnt = v) ∧ (∀ f ∈ x.comp.fields, f.cnt = f)
theorem map_self {α : Type} {f : α → α} {l : List α} (h : ∀ a ∈ l, f a = a) : l.map f = l := by
  induction l with
  | nil => rfl
  | cons a l ih => rw [List.map_cons, h a (by simp), ih (fun b hb => h b (by simp [hb]))]
theorem Cnt.cp {x : SB} (h : Cnt x) : x.cp = x := by
  obtain ⟨h1, h2, h3, h4⟩ := h
  unfold SB.cp CT.cp
  rw [ofK_kin h1, map_self h2, map_self h3, map_self h4]
theorem Cnt.mpcp (σ : Int → Int) (x : SB) : Cnt (x.cp.mp σ) := by
  refine ⟨(Kin.cp x.comp).mp σ, fun v hv => ?_, fun v hv => ?_, fun f hf => ?_⟩
  · obtain ⟨u, hu, rfl⟩ := List.mem_map.1 hv
    obtain ⟨t, ht, rfl⟩ := List.mem_map.1 hu
    exact cnt_mp σ t
  · obtain ⟨u, hu, rfl⟩ := List.mem_map.1 hv
    obtain ⟨t, ht, rfl⟩ := List.mem_map.1 hu
    exact cnt_mp σ t
  · obtain ⟨u, hu, rfl⟩ := List.mem_map.1 hf
    obtain ⟨t, ht, rfl⟩ := List.mem_map.1 hu
    unfold FT.cnt FT.mp
    simp only
    rw [cnt_mp σ t.ty]
theorem idem (σ : Int → Int) (x : SB) : (x.cp.mp σ).cp = x.cp.mp σ := (Cnt.mpcp σ x).cp
def unV (n : Int) (v : VT) : VT := (v.cnt.mp (rollN 0)).mp (unrollN n)
def unS (n : Int) (x : SB) : SB := (x.cp.mp (rollN 0)).cp.mp (unrollN n)
theorem roll0 {k : Int} (h : 0 ≤ k) : rollN 0 k = -100 - k := by unfold rollN; rw [if_neg (by omega)]; omega
theorem unroll0 {n k : Int} (h : 0 ≤ k) : unrollN n (-100 - k) = n + k := by unfold unrollN; rw [if_neg (by omega)]; omega
theorem unV_vis {n : Int} {v : VT} (h5 : v.num = 5) (ha : absB v.heap = false) (h0 : 0 ≤ v.heap) : unV n v = ⟨5, v.null, n + v.heap⟩ := by
  unfold unV
  rw [cnt_five h5]
  have e1 : v.mp (rollN 0) = ⟨5, v.null, -100 - v.heap⟩ := by unfold VT.mp VT.put; rw [if_pos ⟨h5, ha⟩, roll0 h0, h5]
  have e2 : absB (-100 - v.heap) = false := by unfold absB; simp; omega
  rw [e1]
  unfold VT.mp VT.put
  rw [if_pos ⟨rfl, e2⟩]
  simp only
  rw [unroll0 h0]
theorem unV_no {n : Int} {v : VT} (h : ¬ (v.num = 5 ∧ absB v.heap = false)) : unV n v = v.cnt := by
  unfold unV
  have e : ∀ σ, v.cnt.mp σ = v.cnt := fun σ => by
    unfold VT.mp
    rw [if_neg]
    rintro ⟨a, b⟩
    rw [cnt_num] at a
    rw [cnt_five a] at b
    exact h ⟨a, b⟩
  rw [e, e]
theorem unV_sw {n : Int} {v : VT} {f f' : Int → Int} (hn : 0 ≤ n) (hf : ∀ k, 0 ≤ k → f (n + k) = f' k) (hv : ∀ k ∈ visV v, 0 ≤ k) : (unV n v).sw f = v.sw f' := by
  by_cases h : v.num = 5 ∧ absB v.heap = false
  · have h0 : 0 ≤ v.heap := hv _ (by unfold visV; rw [if_pos h]; simp)
    rw [unV_vis h.1 h.2 h0]
    unfold VT.sw
    rw [if_pos rfl, if_pos (by simp only; omega), if_pos h.1, if_pos h0]
    simp only
    rw [hf _ h0]
  · rw [unV_no h]
    by_cases h5 : v.num = 5
    · rw [cnt_five h5]
      have ha : ¬ 0 ≤ v.heap := fun h0 => h ⟨h5, abs_no h0⟩
      unfold VT.sw
      rw [if_pos h5, if_neg ha, if_pos h5, if_neg ha]
    · unfold VT.sw VT.cnt
      rw [if_neg h5]
      simp only
      rw [if_neg h5, if_neg h5]
theorem unV_see {n : Int} {v : VT} (hn : 0 ≤ n) (hv : ∀ k ∈ visV v, 0 ≤ k) : ∀ k ∈ visV (unV n v), ∃ j ∈ visV v, k = n + j := by
  intro k hk
  by_cases h : v.num = 5 ∧ absB v.heap = false
  · have hm : v.heap ∈ visV v := by unfold visV; rw [if_pos h]; simp
    have h0 := hv _ hm
    rw [unV_vis h.1 h.2 h0] at hk
    unfold visV at hk
    split at hk
    · rw [List.mem_singleton] at hk; exact ⟨_, hm, hk⟩
    · cases hk
  · rw [unV_no h] at hk
    unfold visV at hk
    split at hk
    · rename_i h'
      rw [cnt_num] at h'
      rw [cnt_five h'.1] at h'
      exact absurd h' h
    · cases hk
theorem unS_eq (n : Int) (x : SB) : unS n x = (x.cp.mp (rollN 0)).mp (unrollN n) := by unfold unS; rw [idem]
theorem unS_sup (n : Int) (x : SB) : (unS n x).supers = (x.supers.map (rollN 0)).map (unrollN n) := by rw [unS_eq]; rfl
theorem unS_kind (n : Int) (x : SB) : (unS n x).comp.kind = x.comp.kind := by rw [unS_eq]; rfl
theorem unS_par (n : Int) (x : SB) : (unS n x).comp.params = x.comp.ofK.params.map (unV n) := by
  rw [unS_eq]
  show ((x.comp.ofK.params.map VT.cnt).map (VT.mp (rollN 0))).map (VT.mp (unrollN n)) = _
  rw [List.map_map, List.map_map]; rfl
theorem unS_res (n : Int) (x : SB) : (unS n x).comp.results = x.comp.ofK.results.map (unV n) := by
  rw [unS_eq]
  show ((x.comp.ofK.results.map VT.cnt).map (VT.mp (rollN 0))).map (VT.mp (unrollN n)) = _
  rw [List.map_map, List.map_map]; rfl
def unF (n : Int) (f : FT) : FT := ⟨unV n f.ty, f.mut_⟩
theorem unS_fld (n : Int) (x : SB) : (unS n x).comp.fields = x.comp.ofK.fields.map (unF n) := by
  rw [unS_eq]
  show ((x.comp.ofK.fields.map FT.cnt).map (FT.mp (rollN 0))).map (FT.mp (unrollN n)) = _
  rw [List.map_map, List.map_map]; rfl
theorem unS_fin (n : Int) (x : SB) : (unS n x).final_ = x.final_ := by rw [unS_eq]; rfl
structure SeeN (x : SB) : Prop where
  s : ∀ k ∈ x.supers, 0 ≤ k
  p : ∀ v ∈ x.comp.ofK.params, ∀ k ∈ visV v, 0 ≤ k
  r : ∀ v ∈ x.comp.ofK.results, ∀ k ∈ visV v, 0 ≤ k
  f : ∀ v ∈ x.comp.ofK.fields, ∀ k ∈ visV v.ty, 0 ≤ k
theorem seeN {x : SB} {e : Int} (h : fineP x e = true) : SeeN x := by
  have hn := fineP_num h
  unfold seenL at hn
  refine ⟨fun k hk => (hn k (by simp [hk])).1, fun v hv k hk => (hn k ?_).1, fun v hv k hk => (hn k ?_).1, fun v hv k hk => (hn k ?_).1⟩
  · have := List.mem_flatMap.2 ⟨v, hv, hk⟩; simp [this]
  · have := List.mem_flatMap.2 ⟨v, hv, hk⟩; simp [this]
  · have := List.mem_flatMap.2 ⟨v.ty, List.mem_map.2 ⟨v, hv, rfl⟩, hk⟩
    rw [List.mem_append]; exact Or.inr this
theorem map_c {α β : Type} {f g : α → β} {l : List α} (h : ∀ a ∈ l, f a = g a) : l.map f = l.map g := List.map_congr_left h
theorem un_sw {x : SB} {e n : Int} {f f' : Int → Int} (hx : fineP x e = true) (hn : 0 ≤ n) (hf : ∀ k, 0 ≤ k → f (n + k) = f' k) : (unS n x).sw f = x.sw f' := by
  obtain ⟨h1, h2, h3, h4⟩ := seeN hx
  have es : (unS n x).supers.map f = x.supers.map f' := by
    rw [unS_sup, List.map_map, List.map_map]
    refine map_c (fun k hk => ?_)
    have := h1 k hk
    simp only [Function.comp]
    rw [roll0 this, unroll0 this, hf k this]
  have ec : (unS n x).comp.sw f = x.comp.sw f' := by
    unfold CT.sw
    rw [unS_kind, unS_par, unS_res, unS_fld]
    by_cases k1 : x.comp.kind = 1
    · rw [if_pos k1, if_pos k1]
      have ep : x.comp.ofK.params = x.comp.params := by unfold CT.ofK; rw [if_pos k1]
      have er : x.comp.ofK.results = x.comp.results := by unfold CT.ofK; rw [if_pos k1]
      rw [ep] at h2 ⊢
      rw [er] at h3 ⊢
      have q1 : x.comp.params.map (VT.sw f ∘ unV n) = x.comp.params.map (VT.sw f') := List.map_congr_left (fun v hv => unV_sw hn hf (h2 v hv))
      have q2 : x.comp.results.map (VT.sw f ∘ unV n) = x.comp.results.map (VT.sw f') := List.map_congr_left (fun v hv => unV_sw hn hf (h3 v hv))
      rw [List.map_map, List.map_map, q1, q2]
    · rw [if_neg k1, if_neg k1]
      by_cases k2 : x.comp.kind = 2 ∨ x.comp.kind = 3
      · rw [if_pos k2, if_pos k2]
        have ef : x.comp.ofK.fields = x.comp.fields := by unfold CT.ofK; rw [if_neg k1, if_pos k2]
        rw [ef] at h4 ⊢
        have q1 : x.comp.fields.map (FT.sw f ∘ unF n) = x.comp.fields.map (FT.sw f') := List.map_congr_left (fun v hv => by
          show (⟨(unV n v.ty).sw f, v.mut_⟩ : FT) = ⟨v.ty.sw f', v.mut_⟩
          rw [unV_sw hn hf (h4 v hv)])
        rw [List.map_map, q1]
      · rw [if_neg k2, if_neg k2]
  show (⟨(unS n x).final_, (unS n x).supers.map f, (unS n x).comp.sw f⟩ : SB) = ⟨x.final_, x.supers.map f', x.comp.sw f'⟩
  rw [es, ec, unS_fin]
theorem unS_kin (n : Int) (x : SB) : Kin (unS n x).comp := by rw [unS_eq]; exact (Cnt.mpcp (rollN 0) x).1.mp _
theorem un_fine {x : SB} {e n : Int} (hx : fineP x e = true) (hn : 0 ≤ n) : fineP (unS n x) (n + e) = true := by
  obtain ⟨h1, h2, h3, h4⟩ := seeN hx
  have hs := fineP_num hx
  have key : ∀ k ∈ seenL (unS n x), ∃ j ∈ seenL x, k = n + j := by
    intro k hk
    unfold seenL at hk ⊢
    rw [ofK_kin (unS_kin n x), unS_sup, unS_par, unS_res, unS_fld] at hk
    rcases List.mem_append.1 hk with hk | hk
    · rcases List.mem_append.1 hk with hk | hk
      · rcases List.mem_append.1 hk with hk | hk
        · rw [List.map_map] at hk
          obtain ⟨j, hj, rfl⟩ := List.mem_map.1 hk
          have := h1 j hj
          refine ⟨j, by simp [hj], ?_⟩
          simp only [Function.comp]
          rw [roll0 this, unroll0 this]
        · obtain ⟨u, hu, hk⟩ := List.mem_flatMap.1 hk
          obtain ⟨v, hv, rfl⟩ := List.mem_map.1 hu
          obtain ⟨j, hj, e⟩ := unV_see hn (h2 v hv) k hk
          have := List.mem_flatMap.2 ⟨v, hv, hj⟩
          exact ⟨j, by simp [this], e⟩
      · obtain ⟨u, hu, hk⟩ := List.mem_flatMap.1 hk
        obtain ⟨v, hv, rfl⟩ := List.mem_map.1 hu
        obtain ⟨j, hj, e⟩ := unV_see hn (h3 v hv) k hk
        have := List.mem_flatMap.2 ⟨v, hv, hj⟩
        exact ⟨j, by simp [this], e⟩
    · obtain ⟨u, hu, hk⟩ := List.mem_flatMap.1 hk
      rw [List.map_map] at hu
      obtain ⟨v, hv, rfl⟩ := List.mem_map.1 hu
      obtain ⟨j, hj, e⟩ := unV_see hn (h4 v hv) k hk
      have := List.mem_flatMap.2 ⟨v.ty, List.mem_map.2 ⟨v, hv, rfl⟩, hj⟩
      exact ⟨j, by rw [List.mem_append]; exact Or.inr this, e⟩
  unfold fineP
  rw [List.all_eq_true]
  intro k hk
  obtain ⟨j, hj, rfl⟩ := key k hk
  have := hs j hj
  exact okS_iff.2 (by omega)
end Go.Proofs.YthchhehmbldmdaaDoor
