/-
  Plain: how the document's loops of comp go along the plain reading; no statement is proved here.
-/
import Derived.Test.YtmcljnohdknpoaaDoorDField
namespace Go.Proofs.YtmcljnohdknpoaaDoor
set_option linter.unusedVariables false
set_option linter.unusedSimpArgs false
set_option linter.constructorNameAsVariable false

theorem tied_eq {α : Type} {f g : Nat → Except Nat (α × Nat)} {p p' : Nat} (h : f p = g p') {x : α} {st' : Except Nat Nat} (ht : Tied g (.ok p') x st') : Tied f (.ok p) x st' := by
  unfold Tied at ht ⊢
  simp only [h]
  exact ht
/- A reading whose answer is handed on: on a fault the fault stays. -/
theorem tied_on {α β : Type} {f : Nat → Except Nat (α × Nat)} {g : Nat → Except Nat (β × Nat)} {k : α → Nat → Except Nat (β × Nat)} {p p' : Nat} {a : α} {st1 : Except Nat Nat} (hg : g p = match f p' with
      | .error e => .error e
      | .ok (a, q) => k a q) (h : Tied f (.ok p') a st1) (x : β) (st' : Except Nat Nat) (ht : Tied (k a) st1 x st') : Tied g (.ok p) x st' := by
  cases hf : f p' with
  | error e =>
    rw [hf] at hg
    have := h.er hf
    subst this
    have ht' : st' = .error e := ht
    subst ht'
    exact Tied.bad hg
  | ok y =>
    obtain ⟨a', q⟩ := y
    rw [hf] at hg
    obtain ⟨rfl, rfl⟩ := h.ok hf
    exact tied_eq hg ht
theorem fun_par {s : ByteArray} {ps rs : List VT} {q : Nat} (hq : q ≤ s.size) (h1 : tk s q = LP) (h2 : tk s (nx s q) = WPARAM) {l : List VT} {st1 : Except Nat Nat} (h : Tied (uptoS s (valS s) []) (.ok (nx s (nx s q))) l st1) (x : CT) (st' : Except Nat Nat) (ht : Tied (loopS s (funStep s) ⟨false, ps ++ l, rs⟩) st1 x st') : Tied (loopS s (funStep s) ⟨false, ps, rs⟩) (.ok q) x st' := by
  refine tied_on (k := fun a => loopS s (funStep s) ⟨false, ps ++ a, rs⟩) ?_ h x st' ht
  rw [loopS_eq (fun_adv s) _ _ hq]
  unfold funStep
  rw [if_pos h1, if_pos ⟨rfl, h2⟩, uptoS_pre ps]
  cases uptoS s (valS s) [] (nx s (nx s q)) with
  | error e => rfl
  | ok y => rfl
theorem fun_res {s : ByteArray} {res : Bool} {ps rs : List VT} {q : Nat} (hq : q ≤ s.size) (h1 : tk s q = LP) (h2 : tk s (nx s q) = WRESULT) {l : List VT} {st1 : Except Nat Nat} (h : Tied (uptoS s (valS s) []) (.ok (nx s (nx s q))) l st1) (x : CT) (st' : Except Nat Nat) (ht : Tied (loopS s (funStep s) ⟨true, ps, rs ++ l⟩) st1 x st') : Tied (loopS s (funStep s) ⟨res, ps, rs⟩) (.ok q) x st' := by
  refine tied_on (k := fun a => loopS s (funStep s) ⟨true, ps, rs ++ a⟩) ?_ h x st' ht
  rw [loopS_eq (fun_adv s) _ _ hq]
  unfold funStep
  rw [if_pos h1, if_neg (fun hh => by rw [h2] at hh; exact absurd hh.2 (by decide)), if_pos h2, uptoS_pre rs]
  cases uptoS s (valS s) [] (nx s (nx s q)) with
  | error e => rfl
  | ok y => rfl
theorem fun_end {s : ByteArray} {res : Bool} {ps rs : List VT} {q : Nat} (hq : q ≤ s.size) (h1 : tk s q ≠ LP) : Tied (loopS s (funStep s) ⟨res, ps, rs⟩) (.ok q) ⟨1, ps, rs, []⟩ (mustS s RP (.ok q)) := by
  by_cases h2 : tk s q = RP
  · rw [must_ok h2 (by decide)]
    apply Tied.mk
    rw [loopS_eq (fun_adv s) _ _ hq]
    unfold funStep
    rw [if_neg h1, if_pos h2]
  · rw [must_er h2]
    apply Tied.bad
    rw [loopS_eq (fun_adv s) _ _ hq]
    unfold funStep
    rw [if_neg h1, if_neg h2]
theorem fun_no {s : ByteArray} {res : Bool} {ps rs : List VT} {q : Nat} (hq : q ≤ s.size) (h1 : tk s q = LP) (h2 : res = true ∨ tk s (nx s q) ≠ WPARAM) (h3 : tk s (nx s q) ≠ WRESULT) (x : CT) : Tied (loopS s (funStep s) ⟨res, ps, rs⟩) (.ok q) x (.error (nx s q)) := by
  apply Tied.bad
  rw [loopS_eq (fun_adv s) _ _ hq]
  unfold funStep
  rw [if_pos h1, if_neg (fun hh => by rcases h2 with h | h; · exact absurd (h.symm.trans hh.1) (by decide)
                                      · exact h hh.2), if_neg h3]
theorem str_in {s : ByteArray} {fs : List FT} {q : Nat} (hq : q ≤ s.size) (h1 : tk s q = LP) (h2 : tk s (nx s q) = WFIELD) {l : List FT} {st1 : Except Nat Nat} (h : Tied (uptoS s (fieldS s) fs) (.ok (nx s (nx s q))) l st1) (x : CT) (st' : Except Nat Nat) (ht : Tied (loopS s (strStep s) l) st1 x st') : Tied (loopS s (strStep s) fs) (.ok q) x st' := by
  refine tied_on (k := fun a => loopS s (strStep s) a) ?_ h x st' ht
  rw [loopS_eq (str_adv s) _ _ hq]
  unfold strStep
  rw [if_pos h1, if_pos h2]
  cases uptoS s (fieldS s) fs (nx s (nx s q)) with
  | error e => rfl
  | ok y => rfl
theorem str_no {s : ByteArray} {fs : List FT} {q : Nat} (hq : q ≤ s.size) (h1 : tk s q = LP) (h2 : tk s (nx s q) ≠ WFIELD) (x : CT) : Tied (loopS s (strStep s) fs) (.ok q) x (.error (nx s q)) := by
  apply Tied.bad
  rw [loopS_eq (str_adv s) _ _ hq]
  unfold strStep
  rw [if_pos h1, if_neg h2]
theorem str_end {s : ByteArray} {fs : List FT} {q : Nat} (hq : q ≤ s.size) (h1 : tk s q ≠ LP) : Tied (loopS s (strStep s) fs) (.ok q) ⟨2, [], [], fs⟩ (mustS s RP (.ok q)) := by
  by_cases h2 : tk s q = RP
  · rw [must_ok h2 (by decide)]
    apply Tied.mk
    rw [loopS_eq (str_adv s) _ _ hq]
    unfold strStep
    rw [if_neg h1, if_pos h2]
  · rw [must_er h2]
    apply Tied.bad
    rw [loopS_eq (str_adv s) _ _ hq]
    unfold strStep
    rw [if_neg h1, if_neg h2]
theorem comp_fun {s : ByteArray} {p : Nat} (h : tk s p = WFUNC) {x : CT} {st' : Except Nat Nat} (ht : Tied (loopS s (funStep s) ⟨false, [], []⟩) (.ok (nx s p)) x st') : Tied (compS s) (.ok p) x st' := tied_eq (by unfold compS; rw [if_pos h]) ht
theorem comp_str {s : ByteArray} {p : Nat} (h : tk s p = WSTRUCT) {x : CT} {st' : Except Nat Nat} (ht : Tied (loopS s (strStep s) []) (.ok (nx s p)) x st') : Tied (compS s) (.ok p) x st' := tied_eq (by unfold compS; rw [if_neg (fun h' => by rw [h] at h'; exact absurd h' (by decide)), if_pos h]) ht
theorem comp_arr {s : ByteArray} {p : Nat} (h : tk s p = WARRAY) {f : FT} {st1 : Except Nat Nat} (ht : Tied (fieldS s) (.ok (nx s p)) f st1) : Tied (compS s) (.ok p) (⟨3, [], [], [f]⟩ : CT) (mustS s RP st1) :=
  close_tied (u := fun f => (⟨3, [], [], [f]⟩ : CT)) (by unfold compS; rw [if_neg (fun h' => by rw [h] at h'; exact absurd h' (by decide)), if_neg (fun h' => by rw [h] at h'; exact absurd h' (by decide)), if_pos h]) ht
theorem comp_no {s : ByteArray} {p : Nat} (h1 : tk s p ≠ WFUNC) (h2 : tk s p ≠ WSTRUCT) (h3 : tk s p ≠ WARRAY) (x : CT) : Tied (compS s) (.ok p) x (.error p) := Tied.bad (by unfold compS; rw [if_neg h1, if_neg h2, if_neg h3])
end Go.Proofs.YtmcljnohdknpoaaDoor
