/-
  What a draft keeps, and what its place answers, as plain data; no statement is proved here.
-/
import Derived.Test.YtojkonoffdlbpaaDoorNbrC
import Derived.Test.YtojkonoffdlbpaaDoorCMap
namespace Go.Proofs.YtojkonoffdlbpaaDoor
open Go.RowKit
set_option linter.unusedVariables false
set_option linter.unusedSimpArgs false

structure Dr where
  f0 : FM
  f1 : FM
  groups : List (List SB)
  count : Int
  most : Int
  base : Int
def stepD (s : Dr) (m : List SB) : Option (Int × Dr) :=
  match s.f0 (txt m) with
  | some v => some (v, s)
  | none => match s.f1 (txt m) with
    | some v => some (v, s)
    | none => if s.most - s.count < (m.length : Int) then none else some (s.count, ⟨s.f0, putF s.f1 (txt m) s.count, s.groups ++ [m], s.count + (m.length : Int), s.most, s.base⟩)
structure GoodD (s : Dr) (k c : Nat) : Prop where
  c0 : 0 ≤ s.count
  c1 : s.count ≤ 10000 + (k : Int)
  m0 : 0 ≤ s.most
  m1 : s.most ≤ 9223372036854775807
  cm : s.count ≤ s.most
  gl : s.groups.length ≤ c
  gok : ∀ m ∈ s.groups, Ok m
  gs : s.count = s.base + ((s.groups.map List.length).sum : Nat)
  f : ∀ m v, s.f0 (txt m) = some v ∨ s.f1 (txt m) = some v → 0 ≤ v ∧ v + (m.length : Int) ≤ s.count
theorem good_step {s : Dr} {k c : Nat} {m : List SB} {n : Int} {s' : Dr} (h : GoodD s k c) (hok : Ok m) (hk : k + m.length ≤ 2097152) (hs : stepD s m = some (n, s')) : 0 ≤ n ∧ n + (m.length : Int) ≤ 4194304 ∧ GoodD s' (k + m.length) (c + 1) := by
  have h1 := h.c1
  have mono : GoodD s (k + m.length) (c + 1) := ⟨h.c0, by have := h.c1; omega, h.m0, h.m1, h.cm, by have := h.gl; omega, h.gok, h.gs, h.f⟩
  unfold stepD at hs
  cases e0 : s.f0 (txt m) with
  | some v =>
    rw [e0] at hs
    simp only [Option.some.injEq, Prod.mk.injEq] at hs
    obtain ⟨rfl, rfl⟩ := hs
    have := h.f m v (Or.inl e0)
    exact ⟨this.1, by omega, mono⟩
  | none =>
    rw [e0] at hs
    cases e1 : s.f1 (txt m) with
    | some v =>
      rw [e1] at hs
      simp only [Option.some.injEq, Prod.mk.injEq] at hs
      obtain ⟨rfl, rfl⟩ := hs
      have := h.f m v (Or.inr e1)
      exact ⟨this.1, by omega, mono⟩
    | none =>
      rw [e1] at hs
      simp only at hs
      split at hs
      · cases hs
      · simp only [Option.some.injEq, Prod.mk.injEq] at hs
        obtain ⟨rfl, rfl⟩ := hs
        have hc := h.c0
        refine ⟨h.c0, by omega, ⟨by simp only; omega, by simp only; omega, h.m0, h.m1, by simp only; omega, by have := h.gl; simp; omega, fun m' hm' => ?_, ?_, fun m' v hv => ?_⟩⟩
        · rcases List.mem_append.1 hm' with h' | h'
          · exact h.gok m' h'
          · rw [List.mem_singleton] at h'; subst h'; exact hok
        · have := h.gs
          simp only [List.map_append, List.map_cons, List.map_nil, List.sum_append, List.sum_cons, List.sum_nil]
          omega
        simp only at hv ⊢
        rcases hv with hv | hv
        · have := h.f m' v (Or.inl hv); omega
        · unfold putF at hv
          split at hv
          · rename_i he
            have := txt_inj he
            subst this
            injection hv with hv
            subst hv
            omega
          · have := h.f m' v (Or.inr hv); omega
def g2 (g : Value × List (SB × Q4)) : List Value := [g.1, .bool false]
/- The blocks of F hold these rows. -/
def InF (F : Nat → Prop) (v : Value) : Prop := ∀ g, v.ownBlock = some g → F g
def SubF (F : Nat → Prop) (q : Q4) : Prop := InF F q.s ∧ InF F q.p ∧ InF F q.r ∧ InF F q.f
def GrpF (F : Nat → Prop) (g : Value × List (SB × Q4)) : Prop := InF F g.1 ∧ ∀ y ∈ g.2, SubF F y.2
theorem row_F {F : Nat → Prop} {W W' : World} {B : Nat} {e : TypeId} {k : Nat} {v : Value} {n : Nat} {cs : List Value} (h : W.ownsRow B e k v n cs) (hF : InF F v) (hk : ∀ x, F x → W'.heap[x]? = W.heap[x]?) : W'.ownsRow B e k v n cs := row_same h (fun g hg => hk g (hF g hg))
theorem subs_F {F : Nat → Prop} {W W' : World} {B : Nat} {v : Value} {l : List (SB × Q4)} (h : SubsT B W v l) (hF : GrpF F (v, l)) (hk : ∀ x, F x → W'.heap[x]? = W.heap[x]?) : SubsT B W' v l :=
  ⟨row_F h.1 hF.1 hk, fun y hy => ⟨row_F (h.2 y hy).1 (hF.2 y hy).1 hk, row_F (h.2 y hy).2.1 (hF.2 y hy).2.1 hk, row_F (h.2 y hy).2.2.1 (hF.2 y hy).2.2.1 hk, row_F (h.2 y hy).2.2.2 (hF.2 y hy).2.2.2 hk⟩⟩
theorem infoR : (Tryd.prog.info? 47).map (fun i => (i.zero, i.size, i.bytes)) = some (some (.agg #[.slice none 0 0, .bool false]), 2, 32) := by kernel_rfl
theorem subs_in {B : Nat} {W : World} {v : Value} {l : List (SB × Q4)} (h : SubsT B W v l) : GrpF (fun x => B ≤ x) (v, l) :=
  ⟨fun g hg => (h.1.lt g hg).1, fun y hy => ⟨fun g hg => (World.ownsRow.lt (h.2 y hy).1 g hg).1, fun g hg => (World.ownsRow.lt (h.2 y hy).2.1 g hg).1, fun g hg => (World.ownsRow.lt (h.2 y hy).2.2.1 g hg).1, fun g hg => (World.ownsRow.lt (h.2 y hy).2.2.2 g hg).1⟩⟩
theorem InF.mono {F F' : Nat → Prop} {v : Value} (h : InF F v) (hf : ∀ g, v.ownBlock = some g → F g → F' g) : InF F' v := fun g hg => hf g hg (h g hg)
theorem GrpF.mono {F F' : Nat → Prop} {g : Value × List (SB × Q4)} (h : GrpF F g) (hf : ∀ x, F x → F' x) : GrpF F' g :=
  ⟨h.1.mono (fun x _ => hf x), fun y hy => ⟨(h.2 y hy).1.mono (fun x _ => hf x), (h.2 y hy).2.1.mono (fun x _ => hf x), (h.2 y hy).2.2.1.mono (fun x _ => hf x), (h.2 y hy).2.2.2.mono (fun x _ => hf x)⟩⟩
end Go.Proofs.YtojkonoffdlbpaaDoor
