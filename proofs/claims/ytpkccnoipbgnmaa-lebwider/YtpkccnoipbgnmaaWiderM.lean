/-
  Plain mathematics: what is a number of few bits is the same number of more bits; nothing of the program.
-/
import Derived.Test.YtpkccnoipbgnmaaScan
namespace Go.Proofs.Ytpkccnoipbgnmaa

theorem i4 {k : Nat} (h : k ≤ 4) : k = 0 ∨ k = 1 ∨ k = 2 ∨ k = 3 ∨ k = 4 := by omega
theorem okB4 {c : Int} (h : okB 4 false c = true) : c / 16 = 0 := by unfold okB at h; simp at h; exact h.2
theorem okB4s {c : Int} (h : okB 4 true c = true) : c / 8 = 0 ∨ c / 8 = 15 := by unfold okB at h; simp at h; exact h.2
theorem okB5s {c : Int} (h : okB 4 true c = true) : okB 5 true c = true := by
  have h1 := okB_lt h
  have h2 := okB4s h
  unfold okB; simp; omega

theorem widerU (l : List Int) (i : Nat) (X n p : Int) (hi : i ≤ 4) (h0 : 0 ≤ X) (hX : X < 2 ^ (7 * i)) (hl : ∀ c ∈ l, 0 ≤ c ∧ c ≤ 255)
    (h : scan 4 (okB 4 false) false l i X = (n, p, 0)) : scan 9 (okB 1 false) false l i X = (n, p, 0) ∧ 0 ≤ n ∧ n < 4294967296 := by
  induction l generalizing i X with
  | nil => simp [scan] at h
  | cons c r ih =>
    obtain ⟨c0, c1⟩ := hl c (by simp)
    rw [scan] at h ⊢
    rw [if_neg (by omega)]
    by_cases hbad : i = 4 ∧ okB 4 false c = false
    · rw [if_pos hbad] at h; simp at h
    · rw [if_neg hbad] at h
      by_cases hc : c < 128
      · rw [if_pos hc] at h ⊢
        refine ⟨h, ?_⟩
        simp only [Prod.mk.injEq] at h
        obtain ⟨hn, _, _⟩ := h
        rw [← hn]
        have h4 : i = 4 → c / 16 = 0 := by
          intro e
          cases ho : okB 4 false c with
          | false => exact absurd ⟨e, ho⟩ hbad
          | true => exact okB4 ho
        simp only [ws, addAt]
        rcases i4 hi with rfl | rfl | rfl | rfl | rfl <;> simp at hX h4 ⊢ <;> omega
      · rw [if_neg hc] at h ⊢
        have h3 : i ≤ 3 := by
          by_cases e : i = 4
          · cases ho : okB 4 false c with
            | false => exact absurd ⟨e, ho⟩ hbad
            | true => exact absurd (okB_lt ho) hc
          · omega
        exact ih (i + 1) _ (by omega) (addAt_lo i h0) (addAt_hi hX (by omega)) (fun c hc => hl c (by simp [hc])) h

theorem widerS (l : List Int) (i : Nat) (X n p : Int) (hi : i ≤ 4) (h0 : 0 ≤ X) (hX : X < 2 ^ (7 * i)) (hl : ∀ c ∈ l, 0 ≤ c ∧ c ≤ 255)
    (h : scan 4 (okB 4 true) true l i X = (n, p, 0)) :
    scan 4 (okB 5 true) true l i X = (n, p, 0) ∧ scan 9 (okB 1 true) true l i X = (n, p, 0) ∧ ((0 ≤ n ∧ n < 2147483648) ∨ (18446744071562067968 ≤ n ∧ n < 18446744073709551616)) := by
  induction l generalizing i X with
  | nil => simp [scan] at h
  | cons c r ih =>
    obtain ⟨c0, c1⟩ := hl c (by simp)
    rw [scan] at h
    rw [scan, scan, if_neg (show ¬ (i = 9 ∧ okB 1 true c = false) by omega)]
    by_cases hbad : i = 4 ∧ okB 4 true c = false
    · rw [if_pos hbad] at h; simp at h
    · rw [if_neg hbad] at h
      have hok : i = 4 → okB 4 true c = true := by
        intro e
        cases ho : okB 4 true c with
        | false => exact absurd ⟨e, ho⟩ hbad
        | true => rfl
      rw [if_neg (show ¬ (i = 4 ∧ okB 5 true c = false) by rintro ⟨e, hf⟩; rw [okB5s (hok e)] at hf; cases hf)]
      by_cases hc : c < 128
      · rw [if_pos hc] at h
        rw [if_pos hc, if_pos hc]
        refine ⟨h, h, ?_⟩
        simp only [Prod.mk.injEq] at h
        obtain ⟨hn, _, _⟩ := h
        rw [← hn]
        have h4 : i = 4 → c / 8 = 0 ∨ c / 8 = 15 := fun e => okB4s (hok e)
        simp only [ws, addAt]
        rcases i4 hi with rfl | rfl | rfl | rfl | rfl <;> simp at hX h4 ⊢ <;> split <;> omega
      · rw [if_neg hc] at h
        rw [if_neg hc, if_neg hc]
        have h3 : i ≤ 3 := by
          by_cases e : i = 4
          · exact absurd (okB_lt (hok e)) hc
          · omega
        exact ih (i + 1) _ (by omega) (addAt_lo i h0) (addAt_hi hX (by omega)) (fun c hc => hl c (by simp [hc])) h

theorem byt_mem {l : List Int} (h : ∀ j, 0 ≤ l.getD j 0 ∧ l.getD j 0 ≤ 255) : ∀ c ∈ l, 0 ≤ c ∧ c ≤ 255 := by
  intro c hc
  obtain ⟨j, hj, rfl⟩ := List.getElem_of_mem hc
  have := h j
  simpa [List.getD, List.getElem?_eq_getElem hj] using this
theorem seg_all (l : List Int) : seg l 0 l.length = l := by simp [seg]
theorem rd_all {b : Nat} {sg : Bool} {l : List Int} {n p q : Int} (h : scan ((b + 6) / 7 - 1) (okB (b - 7 * ((b + 6) / 7 - 1)) sg) sg l 0 0 = (n, p, q)) : rd b sg l 0 (l.length : Int) = (n, p, q) := by
  have := rd_in (b := b) (sg := sg) (l := l) (a := 0) (e := l.length) (n := n) (p := p) (q := q) (by omega) (by omega) (by rw [seg_all]; exact h)
  simpa using this
theorem rd_all' {b : Nat} {sg : Bool} {l : List Int} : rd b sg l 0 (l.length : Int) = scan ((b + 6) / 7 - 1) (okB (b - 7 * ((b + 6) / 7 - 1)) sg) sg l 0 0 := by
  rcases h : scan ((b + 6) / 7 - 1) (okB (b - 7 * ((b + 6) / 7 - 1)) sg) sg l 0 0 with ⟨n, p, q⟩
  exact rd_all h
theorem wider_u {l : List Int} (hl : ∀ j, 0 ≤ l.getD j 0 ∧ l.getD j 0 ≤ 255) (h : (rd 32 false l 0 (l.length : Int)).2.2 = 0) :
    rd 64 false l 0 (l.length : Int) = rd 32 false l 0 (l.length : Int) ∧ 0 ≤ (rd 32 false l 0 (l.length : Int)).1 ∧ (rd 32 false l 0 (l.length : Int)).1 < 4294967296 := by
  rw [rd_all' (b := 32)] at h ⊢
  rcases hs : scan ((32 + 6) / 7 - 1) (okB (32 - 7 * ((32 + 6) / 7 - 1)) false) false l 0 0 with ⟨n, p, q⟩
  rw [hs] at h
  simp only at h
  subst h
  obtain ⟨h1, h2, h3⟩ := widerU l 0 0 n p (by omega) (by omega) (by decide) (byt_mem hl) hs
  exact ⟨rd_all h1, h2, h3⟩
theorem wider_s {l : List Int} (hl : ∀ j, 0 ≤ l.getD j 0 ∧ l.getD j 0 ≤ 255) (h : (rd 32 true l 0 (l.length : Int)).2.2 = 0) :
    rd 33 true l 0 (l.length : Int) = rd 32 true l 0 (l.length : Int) ∧ rd 64 true l 0 (l.length : Int) = rd 32 true l 0 (l.length : Int) ∧
    ((0 ≤ (rd 32 true l 0 (l.length : Int)).1 ∧ (rd 32 true l 0 (l.length : Int)).1 < 2147483648) ∨ (18446744071562067968 ≤ (rd 32 true l 0 (l.length : Int)).1 ∧ (rd 32 true l 0 (l.length : Int)).1 < 18446744073709551616)) := by
  rw [rd_all' (b := 32)] at h ⊢
  rcases hs : scan ((32 + 6) / 7 - 1) (okB (32 - 7 * ((32 + 6) / 7 - 1)) true) true l 0 0 with ⟨n, p, q⟩
  rw [hs] at h
  simp only at h
  subst h
  obtain ⟨h1, h2, h3⟩ := widerS l 0 0 n p (by omega) (by omega) (by decide) (byt_mem hl) hs
  exact ⟨rd_all h1, rd_all h2, h3⟩
end Go.Proofs.Ytpkccnoipbgnmaa
