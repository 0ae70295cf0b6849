/-
  Plain mathematics: a module that is cut off: fewer sections, or bytes end early; nothing of the program.
-/
import Derived.Test.YtclamdpbdafmcaaSplitM
namespace Go.Proofs.Ytclamdpbdafmcaa
set_option linter.unusedVariables false

theorem scan_front (m : Nat) (ok : Int → Bool) (sg : Bool) : ∀ (x : List Int) (i : Nat) (A n q : Int) (k : Nat), scan m ok sg x i A = (n, q, 0) → k ≤ x.length →
    (q ≤ ((i + k : Nat) : Int) → scan m ok sg (x.take k) i A = (n, q, 0)) ∧ (((i + k : Nat) : Int) < q → scan m ok sg (x.take k) i A = (0, ((i + k : Nat) : Int), 3)) := by
  intro x
  induction x with
  | nil => intro i A n q k h; simp [scan] at h
  | cons c r ih =>
    intro i A n q k h hk
    have hq : ((i : Nat) : Int) < q := by
      have hs : ∀ (x : List Int) (i : Nat) (A n q : Int), scan m ok sg x i A = (n, q, 0) → (i : Int) < q := by
        intro x
        induction x with
        | nil => intro i A n q h; simp [scan] at h
        | cons c r ih =>
          intro i A n q h
          rw [scan] at h
          split at h
          · simp at h
          · split at h
            · simp at h; omega
            · have := ih _ _ _ _ h; omega
      exact hs _ _ _ _ _ h
    cases k with
    | zero =>
      refine ⟨fun h0 => by omega, fun _ => ?_⟩
      rw [List.take_zero, scan]
      rfl
    | succ k =>
      rw [scan] at h
      rw [List.take_succ_cons, scan]
      split at h
      · simp at h
      · rename_i h1
        rw [if_neg h1]
        split at h
        · rename_i h2
          rw [if_pos h2]
          simp only [Prod.mk.injEq] at h
          refine ⟨fun _ => by rw [h.1, h.2.1], fun h0 => by omega⟩
        · rename_i h2
          rw [if_neg h2]
          have := ih (i + 1) _ n q k h (by simpa using hk)
          rw [show i + (k + 1) = i + 1 + k from by omega]
          exact this
theorem rd_front {l : List Int} {a N : Nat} {n : Int} {Q : Nat} (h : rd 32 false l (a : Nat) l.length = (n, (Q : Int), 0)) (ha : a ≤ N) (hN : N ≤ l.length) :
    (Q ≤ N → rd 32 false (l.take N) (a : Nat) (l.take N).length = (n, (Q : Int), 0)) ∧ (N < Q → rd 32 false (l.take N) (a : Nat) (l.take N).length = (0, (N : Int), 3)) := by
  have hl : (l.take N).length = N := by simp; omega
  rw [hl, rd_take 32 false l a N hN]
  unfold rd at h
  rw [if_pos (by omega), Int.toNat_natCast, Int.toNat_natCast] at h
  have hs : seg l a N = (seg l a l.length).take (N - a) := by
    unfold seg
    rw [List.take_length, List.take_drop]
    congr 2
    omega
  obtain ⟨n', q', e', hsc⟩ : ∃ n' q' e', scan ((32 + 6) / 7 - 1) (okB (32 - 7 * ((32 + 6) / 7 - 1)) false) false (seg l a l.length) 0 0 = (n', q', e') := ⟨_, _, _, rfl⟩
  rw [hsc] at h
  simp only [Prod.mk.injEq] at h
  obtain ⟨rfl, h2, rfl⟩ := h
  have hk : N - a ≤ (seg l a l.length).length := by unfold seg; simp; omega
  obtain ⟨f1, f2⟩ := scan_front _ _ _ _ _ _ _ _ (N - a) hsc hk
  rw [← hs] at f1 f2
  constructor
  · intro h
    rw [rd_in ha hN (f1 (by omega))]
    simp only [Prod.mk.injEq]
    exact ⟨trivial, by omega, trivial⟩
  · intro h
    rw [rd_in ha hN (f2 (by omega))]
    simp only [Prod.mk.injEq]
    exact ⟨trivial, by omega, trivial⟩
theorem getD_take {l : List Int} {a N : Nat} (h : a < N) (hN : N ≤ l.length) : (l.take N).getD a 0 = l.getD a 0 := by
  simp [List.getD, h]
theorem sec_front {l : List Int} {a N : Nat} {last : Int} {s : Sec} {a' : Nat} {last' : Int} (hb : Byt l) (ha : a < N) (hN : N < l.length) (h : secAt l a last = .ok (s, a', last')) :
    (a' ≤ N → secAt (l.take N) a last = .ok (s, a', last')) ∧ (N < a' → secAt (l.take N) a last = .error ((N : Int), 3)) := by
  have hl : (l.take N).length = N := by simp; omega
  have hg := getD_take ha (Nat.le_of_lt hN)
  rcases sec_cases l a last (by omega) hb with ⟨_, h2⟩ | ⟨h0, ⟨n, q, e, _, _, h2⟩ | ⟨n, M, Q, hrd, hM, _, hQ, hQ', ⟨_, h2⟩ | ⟨hs, ⟨_, _, h2⟩ | ⟨hr, hl', hi, h2⟩ | ⟨hr, hi, ⟨s, p, e, _, _, h2⟩ | ⟨t, P, hn, hP, hP', h2⟩⟩⟩⟩⟩ <;> rw [h2] at h
  all_goals first
    | (exfalso; cases h; done)
    | skip
  all_goals
    simp only [Except.ok.injEq, Prod.mk.injEq] at h
    obtain ⟨rfl, rfl, rfl⟩ := h
    obtain ⟨f1, f2⟩ := rd_front (N := N) hrd (by omega) (by omega)
    rw [hl] at f1 f2
    have htt : Q + M ≤ N → (l.take N).take (Q + M) = l.take (Q + M) := fun h => by rw [List.take_take, Nat.min_eq_left h]
  · constructor
    · intro hle
      rw [sec_plain (l := l.take N) (by rw [hg]; omega) (by rw [hl]; exact f1 (by omega)) hM (by rw [hl]; exact hle) (by rw [hg]; exact fun h => hl' h.2) (by rw [hg]; exact hi), hg, htt hle]
    · intro hlt
      by_cases hq : Q ≤ N
      · rw [sec_short (l := l.take N) (by rw [hg]; omega) (by rw [hl]; exact f1 hq) hM (by rw [hl]; omega), hl]
      · rw [sec_rd (l := l.take N) (n := 0) (q := N) (e := 3) (by rw [hg]; omega) (by rw [hl]; exact f2 (by omega)) (by decide)]
  · constructor
    · intro hle
      rw [sec_custom (l := l.take N) (by rw [hl]; exact f1 (by omega)) hM (by rw [hl]; exact hle) (by rw [hg]; exact hi) (by rw [htt hle]; exact hn), htt hle]
    · intro hlt
      by_cases hq : Q ≤ N
      · rw [sec_short (l := l.take N) (by rw [hg]; omega) (by rw [hl]; exact f1 hq) hM (by rw [hl]; omega), hl]
      · rw [sec_rd (l := l.take N) (n := 0) (q := N) (e := 3) (by rw [hg]; omega) (by rw [hl]; exact f2 (by omega)) (by decide)]
theorem sec_fail {l : List Int} {a : Nat} {last p e : Int} (ha : a < l.length) (hb : Byt l) (h : secAt l a last = .error (p, e)) : e ≠ 0 := by
  rcases sec_cases l a last ha hb with ⟨_, h2⟩ | ⟨_, ⟨n, q, e, _, _, h2⟩ | ⟨n, N, Q, _, _, _, hQ, hQ', ⟨_, h2⟩ | ⟨hs, ⟨_, _, h2⟩ | ⟨_, _, _, h2⟩ | ⟨_, _, ⟨s, p, e, _, _, h2⟩ | ⟨s, P, _, _, _, h2⟩⟩⟩⟩⟩ <;> rw [h2] at h
  all_goals first
    | (exfalso; cases h; done)
    | (simp only [Except.error.injEq, Prod.mk.injEq] at h; obtain ⟨_, rfl⟩ := h; first | assumption | decide)
/- What sections came stay in front. -/
theorem sat_more {l : List Int} (hb : Byt l) : ∀ (g a : Nat) (last : Int) (acc S : List Sec) (p : Int), l.length - a ≤ g → sat l a last acc = (S, p, 0) → p = 0 ∧ ∃ M, S = acc ++ M ∧ (a < l.length → M ≠ []) := by
  intro g
  induction g with
  | zero =>
    intro a last acc S p hg h
    rw [sat_end (by omega)] at h
    simp only [Prod.mk.injEq] at h
    exact ⟨h.2.1.symm, [], by simp [h.1], fun h => by omega⟩
  | succ g ih =>
    intro a last acc S p hg h
    by_cases ha : a < l.length
    · cases hs : secAt l a last with
      | error x =>
        obtain ⟨p', e'⟩ := x
        rw [sat_bad ha hs] at h
        simp only [Prod.mk.injEq] at h
        exact absurd h.2.2 (sec_fail ha hb hs)
      | ok x =>
        obtain ⟨s, a', last'⟩ := x
        have hn := sec_next ha hb hs
        rw [sat_ok hb ha hs] at h
        obtain ⟨h0, M, hM, _⟩ := ih a' last' _ S p (by omega) h
        exact ⟨h0, s :: M, by simp [hM], fun _ => by simp⟩
    · rw [sat_end (by omega)] at h
      simp only [Prod.mk.injEq] at h
      exact ⟨h.2.1.symm, [], by simp [h.1], fun h => by omega⟩
theorem byt_take {l : List Int} (hb : Byt l) (N : Nat) : Byt (l.take N) := hb.take N
theorem sat_front {l : List Int} (hb : Byt l) {N : Nat} (hN : N < l.length) : ∀ (g a : Nat) (last : Int) (acc S : List Sec), l.length - a ≤ g → a ≤ N → sat l a last acc = (S, 0, 0) →
    sat (l.take N) a last acc = ([], (N : Int), 3) ∨ ∃ j, j < S.length ∧ sat (l.take N) a last acc = (S.take j, 0, 0) := by
  have hl : (l.take N).length = N := by simp; omega
  intro g
  induction g with
  | zero => intro a last acc S hg ha h; omega
  | succ g ih =>
    intro a last acc S hg ha h
    by_cases haN : a = N
    · right
      obtain ⟨_, M, hM, hne⟩ := sat_more hb _ a last acc S 0 (Nat.le_refl _) h
      have := hne (by omega)
      refine ⟨acc.length, ?_, ?_⟩
      · rw [hM, List.length_append]
        have := List.length_pos_iff.2 this
        omega
      · rw [sat_end (by omega), hM, List.take_left' rfl]
    · have hal : a < l.length := by omega
      cases hs : secAt l a last with
      | error x =>
        obtain ⟨p', e'⟩ := x
        rw [sat_bad hal hs] at h
        simp only [Prod.mk.injEq] at h
        exact absurd h.2.2 (sec_fail hal hb hs)
      | ok x =>
        obtain ⟨s, a', last'⟩ := x
        have hn := sec_next hal hb hs
        rw [sat_ok hb hal hs] at h
        obtain ⟨f1, f2⟩ := sec_front hb (show a < N by omega) hN hs
        by_cases hle : a' ≤ N
        · rw [sat_ok (hb.take N) (by omega) (f1 hle)]
          exact ih a' last' _ S (by omega) hle h
        · left
          exact sat_bad (by omega) (f2 (by omega))
theorem pr_front {l : List Int} {N : Nat} (hN : N < l.length) : ∀ (r : List Int) (k : Nat), k ≤ N → pr l k r = none → pr (l.take N) k r = if N < k + r.length then some ((N : Int), 3) else none := by
  have hl : (l.take N).length = N := by simp; omega
  intro r
  induction r with
  | nil => intro k hk h; rw [pr, if_neg (by simp; omega)]
  | cons c r ih =>
    intro k hk h
    rw [pr] at h ⊢
    rw [hl]
    by_cases hkN : N ≤ k
    · rw [if_pos hkN, if_pos (by simp; omega)]
    · rw [if_neg hkN, getD_take (by omega) (by omega)]
      rw [if_neg (by omega)] at h
      by_cases hc : l.getD k 0 ≠ c
      · rw [if_pos hc] at h; cases h
      · rw [if_neg hc] at h ⊢
        rw [ih (k + 1) (by omega) h]
        simp only [List.length_cons]
        congr 1
        simp
        omega
/- A module cut off. -/
theorem split_front {l : List Int} (hb : Byt l) {N : Nat} (hN : N < l.length) {S : List Sec} {p : Int} (h : split l = (S, p, 0)) :
    split (l.take N) = ([], (N : Int), 3) ∨ ∃ j, j < S.length ∧ split (l.take N) = (S.take j, 0, 0) := by
  have hl : (l.take N).length = N := by simp; omega
  unfold split at h ⊢
  split at h
  · simp at h
  · rw [if_neg (by omega)]
    cases hp : pr l 0 hd with
    | some x =>
      rw [hp] at h
      obtain ⟨p', e'⟩ := x
      exfalso
      simp only [Prod.mk.injEq] at h
      have hne : ∀ (r : List Int) (k : Nat), pr l k r = some (p', e') → e' ≠ 0 := by
        intro r
        induction r with
        | nil => intro k h; simp [pr] at h
        | cons c r ih =>
          intro k h
          rw [pr] at h
          split at h
          · simp only [Option.some.injEq, Prod.mk.injEq] at h; omega
          · split at h
            · simp only [Option.some.injEq, Prod.mk.injEq] at h; omega
            · exact ih _ h
      exact hne _ _ hp h.2.2
    | none =>
      rw [hp] at h
      simp only at h
      rw [pr_front hN hd 0 (by omega) hp]
      by_cases h8 : N < 0 + hd.length
      · rw [if_pos h8]; exact Or.inl rfl
      · rw [if_neg h8]
        simp only
        obtain ⟨rfl, _⟩ := sat_more hb _ _ _ _ _ _ (Nat.le_refl _) h
        exact sat_front hb hN _ 8 0 [] S (Nat.le_refl _) (by simpa [hd] using h8) h
theorem sat_count {l : List Int} (hb : Byt l) : ∀ (g a : Nat) (last : Int) (acc S : List Sec) (p e : Int), l.length - a ≤ g → sat l a last acc = (S, p, e) → S.length ≤ acc.length + (l.length - a) := by
  intro g
  induction g with
  | zero =>
    intro a last acc S p e hg h
    rw [sat_end (by omega)] at h
    simp only [Prod.mk.injEq] at h
    rw [← h.1]; omega
  | succ g ih =>
    intro a last acc S p e hg h
    by_cases ha : a < l.length
    · cases hs : secAt l a last with
      | error x =>
        obtain ⟨p', e'⟩ := x
        rw [sat_bad ha hs] at h
        simp only [Prod.mk.injEq] at h
        rw [← h.1]; simp
      | ok x =>
        obtain ⟨s, a', last'⟩ := x
        have hn := sec_next ha hb hs
        rw [sat_ok hb ha hs] at h
        have := ih a' last' _ S p e (by omega) h
        simp at this
        omega
    · rw [sat_end (by omega)] at h
      simp only [Prod.mk.injEq] at h
      rw [← h.1]; omega
theorem split_count {l : List Int} (hb : Byt l) : (split l).1.length ≤ 1048576 := by
  unfold split
  split
  · simp
  · split
    · simp
    · have := sat_count hb _ 8 0 [] (sat l 8 0 []).1 (sat l 8 0 []).2.1 (sat l 8 0 []).2.2 (Nat.le_refl _) rfl
      simp at this
      omega
end Go.Proofs.Ytclamdpbdafmcaa
