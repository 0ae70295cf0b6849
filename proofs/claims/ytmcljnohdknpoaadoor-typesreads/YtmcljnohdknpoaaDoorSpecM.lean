/-
  Plain: what the reader reads of fields, composite types, types and groups; no statement is proved here.
-/
import Derived.Test.YtmcljnohdknpoaaDoorVal
namespace Go.Proofs.YtmcljnohdknpoaaDoor
set_option linter.unusedVariables false
set_option linter.unusedSimpArgs false
set_option linter.constructorNameAsVariable false

structure FT where
  ty : VT
  mut_ : Bool
structure CT where
  kind : Int
  params : List VT
  results : List VT
  fields : List FT
structure SB where
  final_ : Bool
  supers : List Int
  comp : CT
structure RT where
  types : List SB
  explicit : Bool
def VT.c (x : VT) : List Value := [.int .i64 x.num, .bool x.null, .int .i64 x.heap]
def FT.c (x : FT) : List Value := [.int .i64 x.ty.num, .bool x.ty.null, .int .i64 x.ty.heap, .bool x.mut_]
def ic1 (n : Int) : List Value := [.int .i64 n]
/- A loop over a text: a step goes on, or ends. -/
def loopN {σ β : Type} (step : σ → Nat → Except Nat (Sum (σ × Nat) (β × Nat))) : Nat → σ → Nat → Except Nat (β × Nat)
  | 0, _, p => .error p
  | g + 1, st, p => match step st p with
    | .error f => .error f
    | .ok (.inr r) => .ok r
    | .ok (.inl (st', q)) => loopN step g st' q
def loopS {σ β : Type} (s : ByteArray) (step : σ → Nat → Except Nat (Sum (σ × Nat) (β × Nat))) (st : σ) (p : Nat) : Except Nat (β × Nat) := loopN step (s.size + 1 - p) st p
/- Each reading goes on, within the text. -/
def Adv {α : Type} (s : ByteArray) (rd : Nat → Except Nat (α × Nat)) : Prop := ∀ p a q, p ≤ s.size → rd p = .ok (a, q) → p < q ∧ q ≤ s.size
def AdvL {σ β : Type} (s : ByteArray) (step : σ → Nat → Except Nat (Sum (σ × Nat) (β × Nat))) : Prop :=
  (∀ st p st' q, p ≤ s.size → step st p = .ok (.inl (st', q)) → p < q ∧ q ≤ s.size) ∧ (∀ st p r q, p ≤ s.size → step st p = .ok (.inr (r, q)) → p < q ∧ q ≤ s.size)
theorem loopN_fuel {σ β : Type} {s : ByteArray} {step : σ → Nat → Except Nat (Sum (σ × Nat) (β × Nat))} (h : AdvL s step) : ∀ (g g' : Nat) (st : σ) (p : Nat), p ≤ s.size → s.size + 1 - p ≤ g → s.size + 1 - p ≤ g' → loopN step g st p = loopN step g' st p := by
  intro g
  induction g with
  | zero => intro g' st p hp hg; exact absurd hg (by omega)
  | succ g ih =>
    intro g' st p hp hg hg'
    obtain ⟨k, rfl⟩ : ∃ k, g' = k + 1 := ⟨g' - 1, by omega⟩
    rw [loopN, loopN]
    cases hs : step st p with
    | error f => rfl
    | ok x =>
      cases x with
      | inr r => rfl
      | inl y =>
        obtain ⟨st', q⟩ := y
        have ha := h.1 st p st' q hp hs
        exact ih k st' q ha.2 (by omega) (by omega)
theorem loopS_eq {σ β : Type} {s : ByteArray} {step : σ → Nat → Except Nat (Sum (σ × Nat) (β × Nat))} (h : AdvL s step) (st : σ) (p : Nat) (hp : p ≤ s.size) : loopS s step st p = match step st p with
    | .error f => .error f
    | .ok (.inr r) => .ok r
    | .ok (.inl (st', q)) => loopS s step st' q := by
  unfold loopS
  rw [show s.size + 1 - p = (s.size - p) + 1 by omega, loopN]
  cases hs : step st p with
  | error f => rfl
  | ok x =>
    cases x with
    | inr r => rfl
    | inl y =>
      obtain ⟨st', q⟩ := y
      have ha := h.1 st p st' q hp hs
      exact loopN_fuel h _ _ st' q ha.2 (by omega) (by omega)
theorem loopN_adv {σ β : Type} {s : ByteArray} {step : σ → Nat → Except Nat (Sum (σ × Nat) (β × Nat))} (h : AdvL s step) : ∀ (g : Nat) (st : σ) (p : Nat) (r : β) (q : Nat), p ≤ s.size → loopN step g st p = .ok (r, q) → p < q ∧ q ≤ s.size := by
  intro g
  induction g with
  | zero => intro st p r q hp hh; cases hh
  | succ g ih =>
    intro st p r q hp hh
    rw [loopN] at hh
    cases hs : step st p with
    | error f => rw [hs] at hh; cases hh
    | ok x =>
      rw [hs] at hh
      cases x with
      | inr y =>
        simp only [Except.ok.injEq] at hh
        subst hh
        exact h.2 st p _ _ hp hs
      | inl y =>
        obtain ⟨st', q'⟩ := y
        have ha := h.1 st p st' q' hp hs
        have := ih st' q' r q ha.2 hh
        omega
theorem loopS_adv {σ β : Type} {s : ByteArray} {step : σ → Nat → Except Nat (Sum (σ × Nat) (β × Nat))} (h : AdvL s step) (st : σ) : Adv s (loopS s step st) := fun p r q hp hh => loopN_adv h _ st p r q hp hh
theorem nx_lt' {s : ByteArray} {p : Nat} (hp : p ≤ s.size) (h : (tk s p).size ≠ 0) : p < nx s p ∧ nx s p ≤ s.size := by
  rw [tk_size s p hp] at h
  have h1 := skp_le s (tend s p)
  have h2 := nx_size s p hp
  unfold nx at h2 ⊢
  omega
theorem nx_of {s x : ByteArray} {p : Nat} (hp : p ≤ s.size) (h : tk s p = x) (h0 : x.size ≠ 0) : p < nx s p ∧ nx s p ≤ s.size := nx_lt' hp (by rw [h]; exact h0)
/- Up to a closing bracket. -/
def upStep {α : Type} (s : ByteArray) (rd : Nat → Except Nat (α × Nat)) (l : List α) (p : Nat) : Except Nat (Sum (List α × Nat) (List α × Nat)) :=
  if tk s p = RP then .ok (.inr (l, nx s p)) else match rd p with
    | .error f => .error f
    | .ok (a, q) => .ok (.inl (l ++ [a], q))
def uptoS {α : Type} (s : ByteArray) (rd : Nat → Except Nat (α × Nat)) : List α → Nat → Except Nat (List α × Nat) := loopS s (upStep s rd)
theorem up_adv {α : Type} {s : ByteArray} {rd : Nat → Except Nat (α × Nat)} (h : Adv s rd) : AdvL s (upStep s rd) := by
  constructor
  · intro st p st' q hp hh
    unfold upStep at hh
    split at hh
    · cases hh
    · split at hh
      · cases hh
      · rename_i a q' hr
        cases hh
        exact h p a q hp hr
  · intro st p r q hp hh
    unfold upStep at hh
    split at hh
    · rename_i hx
      cases hh
      exact nx_of hp hx (by decide)
    · split at hh <;> cases hh
theorem upto_pre {α : Type} {s : ByteArray} {rd : Nat → Except Nat (α × Nat)} (a : List α) : ∀ (g : Nat) (l : List α) (p : Nat), loopN (upStep s rd) g (a ++ l) p = match loopN (upStep s rd) g l p with
    | .error f => .error f
    | .ok (r, q) => .ok (a ++ r, q) := by
  intro g
  induction g with
  | zero => intro l p; rfl
  | succ g ih =>
    intro l p
    rw [loopN, loopN]
    unfold upStep
    by_cases hx : tk s p = RP
    · simp only [if_pos hx]
    · simp only [if_neg hx]
      cases hr : rd p with
      | error f => rfl
      | ok x =>
        obtain ⟨b, q⟩ := x
        simp only
        have := ih (l ++ [b]) q
        rw [← List.append_assoc] at this
        exact this
theorem uptoS_pre {α : Type} {s : ByteArray} {rd : Nat → Except Nat (α × Nat)} (a : List α) (p : Nat) : uptoS s rd a p = match uptoS s rd [] p with
    | .error f => .error f
    | .ok (r, q) => .ok (a ++ r, q) := by
  have := upto_pre (s := s) (rd := rd) a (s.size + 1 - p) [] p
  rw [List.append_nil] at this
  exact this
theorem numIdx_size {x : ByteArray} {m : Nat} (h : numIdx x = some m) : x.size ≠ 0 := by
  obtain ⟨_, h0, hx, _⟩ := numIdx_some h
  intro hz
  exact h0 (hx.trans (ByteArray.ext (Array.eq_empty_of_size_eq_zero hz)))
theorem numAt_size {x : ByteArray} {n : Int} (h : numAt x = some n) : x.size ≠ 0 := by
  intro hz
  have : x = ⟨#[]⟩ := ByteArray.ext (Array.eq_empty_of_size_eq_zero hz)
  subst this
  have : numAt ⟨#[]⟩ = none := by decide +kernel
  rw [this] at h
  cases h
theorem heapOf_size {x : ByteArray} {n : Int} (h : heapOf x = some n) : x.size ≠ 0 := by
  intro hz
  have : x = ⟨#[]⟩ := ByteArray.ext (Array.eq_empty_of_size_eq_zero hz)
  subst this
  have : heapOf ⟨#[]⟩ = none := by decide +kernel
  rw [this] at h
  cases h
theorem num_adv (s : ByteArray) : Adv s (numS s) := by
  intro p a q hp hh
  unfold numS at hh
  split at hh
  · rename_i m hm
    cases hh
    exact nx_lt' hp (numIdx_size hm)
  · cases hh
theorem ref_adv (s : ByteArray) : Adv s (refS s) := by
  intro p a q hp hh
  unfold refS at hh
  split at hh
  · rename_i h1
    have e1 := nx_of hp h1 (by decide)
    split at hh
    · cases hh
    · rename_i h q' he
      have e2 : nx s p ≤ nullS s (nx s p) ∧ nullS s (nx s p) ≤ s.size := by
        unfold nullS
        split
        · rename_i hn
          have := nx_of e1.2 hn (by decide)
          omega
        · omega
      have e3 : nullS s (nx s p) < q' ∧ q' ≤ s.size := by
        unfold heapS at he
        split at he
        · rename_i n hn
          cases he
          exact nx_lt' e2.2 (heapOf_size hn)
        · cases he
      split at hh
      · rename_i hq
        cases hh
        have := nx_of e3.2 hq (by decide)
        omega
      · cases hh
  · cases hh
theorem val_adv (s : ByteArray) : Adv s (valS s) := by
  intro p a q hp hh
  unfold valS at hh
  split at hh
  · rename_i h1
    have e1 := nx_of hp h1 (by decide)
    have := ref_adv s _ a q e1.2 hh
    omega
  · exact num_adv s p a q hp hh
def WMUT : ByteArray := ⟨#[109, 117, 116]⟩
def WPARAM : ByteArray := ⟨#[112, 97, 114, 97, 109]⟩
def WRESULT : ByteArray := ⟨#[114, 101, 115, 117, 108, 116]⟩
def WFIELD : ByteArray := ⟨#[102, 105, 101, 108, 100]⟩
def WFUNC : ByteArray := ⟨#[102, 117, 110, 99]⟩
def WSTRUCT : ByteArray := ⟨#[115, 116, 114, 117, 99, 116]⟩
def WARRAY : ByteArray := ⟨#[97, 114, 114, 97, 121]⟩
def WSUB : ByteArray := ⟨#[115, 117, 98]⟩
def WFINAL : ByteArray := ⟨#[102, 105, 110, 97, 108]⟩
def WREC : ByteArray := ⟨#[114, 101, 99]⟩
/- Behind a value a closing bracket must stand. -/
def closeS {α β : Type} (s : ByteArray) (f : α → β) : Except Nat (α × Nat) → Except Nat (β × Nat)
  | .error e => .error e
  | .ok (a, q) => if tk s q = RP then .ok (f a, nx s q) else .error q
def mapS {α β : Type} (f : α → β) : Except Nat (α × Nat) → Except Nat (β × Nat)
  | .error e => .error e
  | .ok (a, q) => .ok (f a, q)
def fieldS (s : ByteArray) (p : Nat) : Except Nat (FT × Nat) :=
  if tk s p = LP then
    if tk s (nx s p) = WMUT then closeS s (fun v => (⟨v, true⟩ : FT)) (valS s (nx s (nx s p)))
    else mapS (fun v => (⟨v, false⟩ : FT)) (refS s (nx s p))
  else mapS (fun v => (⟨v, false⟩ : FT)) (numS s p)
theorem close_adv {α β : Type} {s : ByteArray} {f : α → β} {r : Except Nat (α × Nat)} {p : Nat} {b : β} {q : Nat} (hr : ∀ a q, r = .ok (a, q) → p < q ∧ q ≤ s.size) (h : closeS s f r = .ok (b, q)) : p < q ∧ q ≤ s.size := by
  cases r with
  | error e => cases h
  | ok x =>
    obtain ⟨a, q'⟩ := x
    have e := hr a q' rfl
    simp only [closeS] at h
    split at h
    · rename_i hx
      cases h
      have := nx_of e.2 hx (by decide)
      omega
    · cases h
theorem map_adv {α β : Type} {s : ByteArray} {f : α → β} {r : Except Nat (α × Nat)} {p : Nat} {b : β} {q : Nat} (hr : ∀ a q, r = .ok (a, q) → p < q ∧ q ≤ s.size) (h : mapS f r = .ok (b, q)) : p < q ∧ q ≤ s.size := by
  cases r with
  | error e => cases h
  | ok x =>
    obtain ⟨a, q'⟩ := x
    simp only [mapS] at h
    cases h
    exact hr a q rfl
theorem field_adv (s : ByteArray) : Adv s (fieldS s) := by
  intro p a q hp hh
  unfold fieldS at hh
  split at hh
  · rename_i h1
    have e1 := nx_of hp h1 (by decide)
    split at hh
    · rename_i h2
      have e2 := nx_of e1.2 h2 (by decide)
      refine close_adv (fun a q h => ?_) hh
      have := val_adv s _ a q e2.2 h
      omega
    · refine map_adv (fun a q h => ?_) hh
      have := ref_adv s _ a q e1.2 h
      omega
  · exact map_adv (fun a q h => num_adv s p a q hp h) hh
/- What stands behind the word func. -/
structure FnSt where
  res : Bool
  ps : List VT
  rs : List VT
def funStep (s : ByteArray) (st : FnSt) (p : Nat) : Except Nat (Sum (FnSt × Nat) (CT × Nat)) :=
  if tk s p = LP then
    if st.res = false ∧ tk s (nx s p) = WPARAM then match uptoS s (valS s) st.ps (nx s (nx s p)) with
      | .error f => .error f
      | .ok (l, q) => .ok (.inl (⟨false, l, st.rs⟩, q))
    else if tk s (nx s p) = WRESULT then match uptoS s (valS s) st.rs (nx s (nx s p)) with
      | .error f => .error f
      | .ok (l, q) => .ok (.inl (⟨true, st.ps, l⟩, q))
    else .error (nx s p)
  else if tk s p = RP then .ok (.inr (⟨1, st.ps, st.rs, []⟩, nx s p)) else .error p
def strStep (s : ByteArray) (fs : List FT) (p : Nat) : Except Nat (Sum (List FT × Nat) (CT × Nat)) :=
  if tk s p = LP then
    if tk s (nx s p) = WFIELD then match uptoS s (fieldS s) fs (nx s (nx s p)) with
      | .error f => .error f
      | .ok (l, q) => .ok (.inl (l, q))
    else .error (nx s p)
  else if tk s p = RP then .ok (.inr (⟨2, [], [], fs⟩, nx s p)) else .error p
def compS (s : ByteArray) (p : Nat) : Except Nat (CT × Nat) :=
  if tk s p = WFUNC then loopS s (funStep s) ⟨false, [], []⟩ (nx s p)
  else if tk s p = WSTRUCT then loopS s (strStep s) [] (nx s p)
  else if tk s p = WARRAY then closeS s (fun f => (⟨3, [], [], [f]⟩ : CT)) (fieldS s (nx s p))
  else .error p
theorem upto_val (s : ByteArray) (l : List VT) : Adv s (uptoS s (valS s) l) := loopS_adv (up_adv (val_adv s)) l
theorem upto_field (s : ByteArray) (l : List FT) : Adv s (uptoS s (fieldS s) l) := loopS_adv (up_adv (field_adv s)) l
theorem fun_adv (s : ByteArray) : AdvL s (funStep s) := by
  constructor
  · intro st p st' q hp hh
    unfold funStep at hh
    split at hh
    · rename_i h1
      have e1 := nx_of hp h1 (by decide)
      split at hh
      · rename_i h2
        have e2 := nx_of e1.2 h2.2 (by decide)
        split at hh
        · cases hh
        · rename_i l q' hu
          cases hh
          have := upto_val s _ _ l q e2.2 hu
          omega
      · split at hh
        · rename_i h2
          have e2 := nx_of e1.2 h2 (by decide)
          split at hh
          · cases hh
          · rename_i l q' hu
            cases hh
            have := upto_val s _ _ l q e2.2 hu
            omega
        · cases hh
    · split at hh <;> cases hh
  · intro st p r q hp hh
    unfold funStep at hh
    split at hh
    · split at hh
      · split at hh <;> cases hh
      · split at hh
        · split at hh <;> cases hh
        · cases hh
    · split at hh
      · rename_i hx
        cases hh
        exact nx_of hp hx (by decide)
      · cases hh
theorem str_adv (s : ByteArray) : AdvL s (strStep s) := by
  constructor
  · intro st p st' q hp hh
    unfold strStep at hh
    split at hh
    · rename_i h1
      have e1 := nx_of hp h1 (by decide)
      split at hh
      · rename_i h2
        have e2 := nx_of e1.2 h2 (by decide)
        split at hh
        · cases hh
        · rename_i l q' hu
          cases hh
          have := upto_field s _ _ _ _ e2.2 hu
          omega
      · cases hh
    · split at hh <;> cases hh
  · intro st p r q hp hh
    unfold strStep at hh
    split at hh
    · split at hh
      · split at hh <;> cases hh
      · cases hh
    · split at hh
      · rename_i hx
        cases hh
        exact nx_of hp hx (by decide)
      · cases hh
theorem comp_adv (s : ByteArray) : Adv s (compS s) := by
  intro p a q hp hh
  unfold compS at hh
  split at hh
  · rename_i h1
    have e1 := nx_of hp h1 (by decide)
    have := loopS_adv (fun_adv s) _ _ _ _ e1.2 hh
    omega
  · split at hh
    · rename_i h1
      have e1 := nx_of hp h1 (by decide)
      have := loopS_adv (str_adv s) _ _ _ _ e1.2 hh
      omega
    · split at hh
      · rename_i h1
        have e1 := nx_of hp h1 (by decide)
        refine close_adv (fun a q h => ?_) hh
        have := field_adv s _ a q e1.2 h
        omega
      · cases hh
/- The numbers above a type, up to an opening bracket. -/
def supStep (s : ByteArray) (l : List Int) (p : Nat) : Except Nat (Sum (List Int × Nat) (List Int × Nat)) :=
  if tk s p = LP then .ok (.inr (l, nx s p)) else match numberS s p with
    | .error f => .error f
    | .ok (n, q) => .ok (.inl (l ++ [n], q))
theorem number_adv (s : ByteArray) : Adv s (numberS s) := by
  intro p a q hp hh
  unfold numberS at hh
  split at hh
  · rename_i n hn
    cases hh
    exact nx_lt' hp (numAt_size hn)
  · cases hh
theorem sup_adv (s : ByteArray) : AdvL s (supStep s) := by
  constructor
  · intro st p st' q hp hh
    unfold supStep at hh
    split at hh
    · cases hh
    · split at hh
      · cases hh
      · rename_i n q' hr
        cases hh
        exact number_adv s p n q hp hr
  · intro st p r q hp hh
    unfold supStep at hh
    split at hh
    · rename_i hx
      cases hh
      exact nx_of hp hx (by decide)
    · split at hh <;> cases hh
def supS (s : ByteArray) : List Int → Nat → Except Nat (List Int × Nat) := loopS s (supStep s)
/- Behind the numbers: a composite type and a closing bracket. -/
def tailS (s : ByteArray) (fin : Bool) : Except Nat (List Int × Nat) → Except Nat (SB × Nat)
  | .error f => .error f
  | .ok (l, q) => closeS s (fun c => (⟨fin, l, c⟩ : SB)) (compS s q)
def finS (s : ByteArray) (p : Nat) : Except Nat (List Int × Nat) := match numberS s p with
  | .error f => .error f
  | .ok (n, q) => supS s [n] q
def subS (s : ByteArray) (p : Nat) : Except Nat (SB × Nat) :=
  if tk s p = WSUB then
    if tk s (nx s p) = WFINAL then tailS s true (finS s (nx s (nx s p)))
    else tailS s false (supS s [] (nx s p))
  else mapS (fun c => (⟨true, [], c⟩ : SB)) (compS s p)
theorem tail_adv {s : ByteArray} {fin : Bool} {r : Except Nat (List Int × Nat)} {p : Nat} {b : SB} {q : Nat} (hr : ∀ a q, r = .ok (a, q) → p < q ∧ q ≤ s.size) (h : tailS s fin r = .ok (b, q)) : p < q ∧ q ≤ s.size := by
  cases r with
  | error e => cases h
  | ok x =>
    obtain ⟨a, q'⟩ := x
    have e := hr a q' rfl
    refine close_adv (fun a q h => ?_) h
    have := comp_adv s _ a q e.2 h
    omega
theorem sub_adv (s : ByteArray) : Adv s (subS s) := by
  intro p a q hp hh
  unfold subS at hh
  split at hh
  · rename_i h1
    have e1 := nx_of hp h1 (by decide)
    split at hh
    · rename_i h2
      have e2 := nx_of e1.2 h2 (by decide)
      refine tail_adv (fun a q h => ?_) hh
      unfold finS at h
      split at h
      · cases h
      · rename_i n q' hn
        have e3 := number_adv s _ n q' e2.2 hn
        have := loopS_adv (sup_adv s) _ _ _ _ e3.2 h
        omega
    · refine tail_adv (fun a q h => ?_) hh
      have := loopS_adv (sup_adv s) _ _ _ _ e1.2 h
      omega
  · exact map_adv (fun a q h => comp_adv s p a q hp h) hh
/- A type of a group, with its opening bracket. -/
def memS (s : ByteArray) (p : Nat) : Except Nat (SB × Nat) := if tk s p = LP then subS s (nx s p) else .error p
theorem mem_adv (s : ByteArray) : Adv s (memS s) := by
  intro p a q hp hh
  unfold memS at hh
  split at hh
  · rename_i h1
    have e1 := nx_of hp h1 (by decide)
    have := sub_adv s _ a q e1.2 hh
    omega
  · cases hh
def recS (s : ByteArray) (p : Nat) : Except Nat (RT × Nat) :=
  if tk s p = LP then
    if tk s (nx s p) = WREC then mapS (fun l => (⟨l, true⟩ : RT)) (uptoS s (memS s) [] (nx s (nx s p)))
    else mapS (fun x => (⟨[x], false⟩ : RT)) (subS s (nx s p))
  else .error p
end Go.Proofs.YtmcljnohdknpoaaDoor
