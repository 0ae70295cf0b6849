/-
  Plain mathematics: runs of locals that bytes tell, and their types one by one; nothing of the program.
-/
import Derived.Test.YtfedijclhlchbaaGreatDoorEMR
namespace Go.Proofs.YtfedijclhlchbaaGreatDoor
set_option linter.unusedVariables false
set_option linter.unusedSimpArgs false

/- A run: how many, and of which type. -/
structure LC where
  count : Int
  ty : VT
/- So many runs, one behind another, with at most so many locals. -/
def runsR (l : List Int) : Nat → Int → List LC → Nat → RS (List LC)
  | 0, _, acc, p => .ok (acc, p)
  | n + 1, left, acc, p => thenR (limR p left (numR 32 false l p)) fun c q => thenR (valR l q) fun v r => runsR l n (left - c) (acc ++ [⟨c, v⟩]) r
def localsR (l : List Int) (p : Nat) : RS (List LC) := thenR (limR p 50000 (numR 32 false l p)) fun n q => runsR l n.toNat 50000 [] q
/- How many there are. -/
def sumL : List LC → Int
  | [] => 0
  | x :: r => x.count + sumL r
theorem sumL_app (a b : List LC) : sumL (a ++ b) = sumL a + sumL b := by
  induction a with
  | nil => simp [sumL]
  | cons x r ih => simp only [List.cons_append, sumL, ih]; omega
/- Runs that a reading tells. -/
def Runs (x : List LC) : Prop := (∀ y ∈ x, 0 ≤ y.count) ∧ sumL x ≤ 50000 ∧ x.length ≤ 50000
theorem limR_ok {p : Nat} {m : Int} {r : RS Int} {n : Int} {q : Nat} (h : limR p m r = .ok (n, q)) : r = .ok (n, q) ∧ n ≤ m := by
  cases r with
  | error e => cases h
  | ok x =>
    obtain ⟨a, q'⟩ := x
    simp only [limR] at h
    split at h
    · cases h
    · simp only [Except.ok.injEq, Prod.mk.injEq] at h
      obtain ⟨rfl, rfl⟩ := h
      exact ⟨rfl, by omega⟩
theorem thenR_ok {α β : Type} {r : RS α} {k : α → Nat → RS β} {b : β} {q : Nat} (h : thenR r k = .ok (b, q)) : ∃ a s, r = .ok (a, s) ∧ k a s = .ok (b, q) := by
  cases r with
  | error e => cases h
  | ok x => exact ⟨x.1, x.2, rfl, h⟩
theorem numR_32 {l : List Int} (hb : ∀ j, 0 ≤ l.getD j 0 ∧ l.getD j 0 ≤ 255) {p : Nat} (hp : p ≤ l.length) {n : Int} {q : Nat} (h : numR 32 false l p = .ok (n, q)) : 0 ≤ n ∧ n < 4294967296 := by
  rcases numR_ways (b := 32) (sg := false) hp with ⟨n', q', hr, h1, h2, h3⟩ | ⟨n', f, e, hr, h1, h2, h3, h4⟩
  · rw [h3] at h
    simp only [Except.ok.injEq, Prod.mk.injEq] at h
    obtain ⟨rfl, rfl⟩ := h
    exact rd_32 hb hr
  · rw [h4] at h; cases h
theorem runsR_runs {l : List Int} (hb : ∀ j, 0 ≤ l.getD j 0 ∧ l.getD j 0 ≤ 255) : ∀ (n : Nat) (left : Int) (acc : List LC) (p : Nat) (x : List LC) (q : Nat), p ≤ l.length → runsR l n left acc p = .ok (x, q) →
    (∀ y ∈ acc, 0 ≤ y.count) → sumL acc + left = 50000 → 0 ≤ left → (∀ y ∈ x, 0 ≤ y.count) ∧ sumL x ≤ 50000 ∧ x.length = acc.length + n ∧ q ≤ l.length
  | 0, left, acc, p, x, q, hp, h, h1, h2, h3 => by
    simp only [runsR, Except.ok.injEq, Prod.mk.injEq] at h
    obtain ⟨rfl, rfl⟩ := h
    exact ⟨h1, by omega, by simp, hp⟩
  | n + 1, left, acc, p, x, q, hp, h, h1, h2, h3 => by
    rw [runsR] at h
    obtain ⟨c, s, e1, h⟩ := thenR_ok h
    obtain ⟨v, r, e2, h⟩ := thenR_ok h
    obtain ⟨e1, hc⟩ := limR_ok e1
    have hn := numR_32 hb hp e1
    have hs := (num_adv 32 false l p hp).1 _ _ e1
    have hr := (val_adv l s hs.2).1 _ _ e2
    obtain ⟨g1, g2, g3, g4⟩ := runsR_runs hb n (left - c) (acc ++ [⟨c, v⟩]) r x q hr.2 h (by
      intro y hy
      rcases List.mem_append.1 hy with hy | hy
      · exact h1 y hy
      · simp at hy; subst hy; exact hn.1) (by rw [sumL_app]; simp [sumL]; omega) (by omega)
    exact ⟨g1, g2, by rw [g3]; simp; omega, g4⟩
theorem localsR_runs {l : List Int} (hb : ∀ j, 0 ≤ l.getD j 0 ∧ l.getD j 0 ≤ 255) {p : Nat} (hp : p ≤ l.length) {x : List LC} {q : Nat} (h : localsR l p = .ok (x, q)) : Runs x ∧ q ≤ l.length := by
  obtain ⟨n, s, e1, h⟩ := thenR_ok h
  obtain ⟨e1, hc⟩ := limR_ok e1
  have hn := numR_32 hb hp e1
  have hs := (num_adv 32 false l p hp).1 _ _ e1
  obtain ⟨g1, g2, g3, g4⟩ := runsR_runs hb n.toNat 50000 [] s x q hs.2 h (by intro y hy; cases hy) (by simp [sumL]) (by omega)
  exact ⟨⟨g1, g2, by rw [g3]; simp; omega⟩, g4⟩
/- The type of each. -/
def expL (x : List LC) : List VT := x.flatMap fun y => List.replicate y.count.toNat y.ty
theorem expL_snoc (x : List LC) (y : LC) : expL (x ++ [y]) = expL x ++ List.replicate y.count.toNat y.ty := by simp [expL]
theorem sumL_nonneg : ∀ (x : List LC), (∀ y ∈ x, 0 ≤ y.count) → 0 ≤ sumL x
  | [], _ => by simp [sumL]
  | y :: r, h => by
    have h1 := h y (by simp)
    have h2 := sumL_nonneg r (fun z hz => h z (by simp [hz]))
    simp only [sumL]; omega
theorem expL_len : ∀ (x : List LC), (∀ y ∈ x, 0 ≤ y.count) → ((expL x).length : Int) = sumL x
  | [], _ => by simp [expL, sumL]
  | y :: r, h => by
    have h1 := h y (by simp)
    have h2 := expL_len r (fun z hz => h z (by simp [hz]))
    unfold expL at h2 ⊢
    simp only [List.flatMap_cons, List.length_append, List.length_replicate, sumL]
    omega
theorem sumL_take {x : List LC} (h : ∀ y ∈ x, 0 ≤ y.count) (i : Nat) : 0 ≤ sumL (x.take i) ∧ sumL (x.take i) ≤ sumL x := by
  refine ⟨sumL_nonneg _ fun y hy => h y (List.mem_of_mem_take hy), ?_⟩
  have e : sumL x = sumL (x.take i) + sumL (x.drop i) := by rw [← sumL_app, List.take_append_drop]
  have := sumL_nonneg (x.drop i) fun y hy => h y (List.mem_of_mem_drop hy)
  omega
end Go.Proofs.YtfedijclhlchbaaGreatDoor
