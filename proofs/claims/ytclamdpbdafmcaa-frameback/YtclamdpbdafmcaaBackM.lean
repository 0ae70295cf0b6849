/-
  Plain mathematics: what is joined is split into the same sections; nothing of the program.
-/
import Derived.Test.YtclamdpbdafmcaaBackN
namespace Go.Proofs.Ytclamdpbdafmcaa
set_option linter.unusedVariables false

/- The same sections, their places aside. -/
def like (s t : Sec) : Prop := s.id = t.id ∧ s.name = t.name ∧ s.data = t.data
def likes : List Sec → List Sec → Prop
  | [], [] => True
  | s :: r, t :: q => like s t ∧ likes r q
  | _, _ => False
theorem likes_len : ∀ (L M : List Sec), likes L M → L.length = M.length := by
  intro L
  induction L with
  | nil => intro M h; cases M with | nil => rfl | cons _ _ => exact absurd h (by simp [likes])
  | cons s r ih =>
    intro M h
    cases M with
    | nil => exact absurd h (by simp [likes])
    | cons t q => simp [ih q h.2]
theorem likes_at : ∀ (L M : List Sec), likes L M → ∀ (i : Nat) (s t : Sec), L[i]? = some s → M[i]? = some t → like s t := by
  intro L
  induction L with
  | nil => intro M h i s t hs; simp at hs
  | cons s r ih =>
    intro M h i s' t' hs ht
    cases M with
    | nil => simp at ht
    | cons t q =>
      cases i with
      | zero => simp at hs ht; subst hs; subst ht; exact h.1
      | succ i => exact ih q h.2 i s' t' (by simpa using hs) (by simpa using ht)
theorem getD_at (f r : List Int) (x : Int) : (f ++ (x :: r)).getD f.length 0 = x := by
  simp [List.getD]
theorem take_mid (f u r : List Int) (n : Nat) (h : n = f.length + u.length) : (f ++ (u ++ r)).take n = f ++ u := by
  rw [← List.append_assoc, h, ← List.length_append, List.take_left' rfl]
theorem drop_mid (f u : List Int) (n : Nat) (h : n = f.length) : (f ++ u).drop n = u := List.drop_left' h.symm
theorem sec_back (P r : List Int) (s : Sec) (last : Int) (hf : ff s last = 0) (hl : (P ++ (sb s ++ r)).length ≤ 1048576) :
    ∃ t, like s t ∧ secAt (P ++ (sb s ++ r)) P.length last = .ok (t, P.length + (sb s).length, nl s last) := by
  obtain ⟨id, name, data, at_⟩ := s
  unfold ff at hf
  simp only at hf
  have hrc := rank_cases id
  by_cases h1 : rank id < 0 ∨ (id ≠ 0 ∧ name ≠ [])
  · rw [if_pos h1] at hf; omega
  · rw [if_neg h1] at hf
    by_cases h2 : rank id ≠ 0 ∧ rank id ≤ last
    · rw [if_pos h2] at hf; omega
    · rw [if_neg h2] at hf
      have hnn : ¬ rank id < 0 := fun h => h1 (Or.inl h)
      obtain ⟨B, hB⟩ : ∃ B, B = bdy ⟨id, name, data, at_⟩ := ⟨_, rfl⟩
      have hsb : sb ⟨id, name, data, at_⟩ = id :: (PU ((B.length + data.length : Nat) : Int) ++ (B ++ data)) := by
        unfold sb hdS
        rw [← hB]
        simp [List.append_assoc]
      rw [hsb] at hl ⊢
      obtain ⟨U, hU⟩ : ∃ U, U = PU ((B.length + data.length : Nat) : Int) := ⟨_, rfl⟩
      have hlen : (P ++ ((id :: (U ++ (B ++ data))) ++ r)).length = P.length + 1 + U.length + (B.length + data.length) + r.length := by simp; omega
      rw [← hU] at hl ⊢
      rw [hlen] at hl
      have hg : (P ++ ((id :: (U ++ (B ++ data))) ++ r)).getD P.length 0 = id := by rw [List.cons_append]; exact getD_at _ _ _
      have hrd : rd 32 false (P ++ ((id :: (U ++ (B ++ data))) ++ r)) (P.length + 1 : Nat) (P ++ ((id :: (U ++ (B ++ data))) ++ r)).length = (((B.length + data.length : Nat) : Int), ((P.length + 1 + U.length : Nat) : Int), 0) := by
        have := rd32_back (n := ((B.length + data.length : Nat) : Int)) (P ++ [id]) (B ++ data ++ r) (by omega) (by omega)
        rw [← hU] at this
        have e : P ++ [id] ++ U ++ (B ++ data ++ r) = P ++ ((id :: (U ++ (B ++ data))) ++ r) := by simp [List.append_assoc]
        rw [e] at this
        simpa using this
      have hN : ((B.length + data.length : Nat) : Int) % 4294967296 = ((B.length + data.length : Nat) : Int) := by omega
      have hs : (P.length + 1 + U.length) + (B.length + data.length) ≤ (P ++ ((id :: (U ++ (B ++ data))) ++ r)).length := by rw [hlen]; omega
      have htake : (P ++ ((id :: (U ++ (B ++ data))) ++ r)).take ((P.length + 1 + U.length) + (B.length + data.length)) = (P ++ [id] ++ U) ++ B ++ data := by
        have := take_mid P (id :: (U ++ (B ++ data))) r ((P.length + 1 + U.length) + (B.length + data.length)) (by simp; omega)
        rw [this]
        simp [List.append_assoc]
      have hend : P.length + (id :: (U ++ (B ++ data))).length = (P.length + 1 + U.length) + (B.length + data.length) := by simp; omega
      rw [hend]
      by_cases h3 : id = 0
      · subst h3
        have hBn : B = nb name := by rw [hB]; rfl
        have hnm : nm ((P ++ [0] ++ U) ++ B ++ data) ((P.length + 1 + U.length : Nat) : Int) = (name, ((P.length + 1 + U.length + B.length : Nat) : Int), 0) := by
          have := nm_back (P ++ [0] ++ U) name data hf
          have hlf : (P ++ [0] ++ U).length = P.length + 1 + U.length := by simp; omega
          rw [hlf] at this
          rw [hBn]
          exact this
        refine ⟨⟨0, name, data, ((P.length + 1 + U.length + B.length : Nat) : Int)⟩, ⟨rfl, rfl, rfl⟩, ?_⟩
        have := sec_custom (last := last) (P := P.length + 1 + U.length + B.length) hrd hN hs hg (by rw [htake]; exact hnm)
        rw [this, htake]
        have hd' : ((P ++ [0] ++ U) ++ B ++ data).drop (P.length + 1 + U.length + B.length) = data := drop_mid _ _ _ (by simp; omega)
        rw [hd']
        unfold nl
        simp only
        rw [if_pos (by decide)]
      · have hname : name = [] := by
          by_cases h : name = []
          · exact h
          · exact absurd (Or.inr ⟨h3, h⟩) h1
        have hBn : B = [] := by rw [hB]; unfold bdy; simp only; rw [if_neg h3]
        refine ⟨⟨id, [], data, ((P.length + 1 + U.length : Nat) : Int)⟩, ⟨rfl, hname, rfl⟩, ?_⟩
        have := sec_plain (last := last) (by rw [hg]; exact hnn) hrd hN hs (by rw [hg]; exact h2) (by rw [hg]; exact h3)
        rw [this, htake, hg]
        have hd' : ((P ++ [id] ++ U) ++ B ++ data).drop (P.length + 1 + U.length) = data := by
          rw [hBn, List.append_nil]
          exact drop_mid _ _ _ (by simp; omega)
        rw [hd']
        unfold nl
        simp only
        rw [if_neg (by omega)]
theorem sat_back : ∀ (R : List Sec) (P : List Int) (last : Int) (acc : List Sec), jf R last = 0 → (P ++ R.flatMap sb).length ≤ 1048576 → Byt (P ++ R.flatMap sb) →
    ∃ M, likes R M ∧ sat (P ++ R.flatMap sb) P.length last acc = (acc ++ M, 0, 0) := by
  intro R
  induction R with
  | nil =>
    intro P last acc _ _ _
    exact ⟨[], trivial, by rw [sat_end (by simp)]; simp⟩
  | cons s r ih =>
    intro P last acc hj hl hb
    rw [jf] at hj
    by_cases h0 : ff s last = 0
    · rw [if_neg (by simpa using h0)] at hj
      rw [List.flatMap_cons] at hl hb ⊢
      obtain ⟨t, ht, hs⟩ := sec_back P (r.flatMap sb) s last h0 hl
      have hpos : 1 ≤ (sb s).length := by unfold sb hdS; simp
      rw [sat_ok hb (by simp; omega) hs]
      have e : P ++ (sb s ++ r.flatMap sb) = (P ++ sb s) ++ r.flatMap sb := by rw [List.append_assoc]
      rw [e] at hl hb ⊢
      obtain ⟨M, hM, hsat⟩ := ih (P ++ sb s) (nl s last) (acc ++ [t]) hj hl hb
      rw [List.length_append] at hsat
      exact ⟨t :: M, ⟨ht, hM⟩, by rw [hsat]; simp⟩
    · rw [if_pos h0] at hj; exact absurd hj h0
theorem pr_hd (r : List Int) : pr (hd ++ r) 0 hd = none := by
  have h : ∀ (u f r : List Int), pr (f ++ (u ++ r)) f.length u = none := by
    intro u
    induction u with
    | nil => intro f r; rfl
    | cons c u ih =>
      intro f r
      rw [pr, if_neg (by simp), List.cons_append, getD_at, if_neg (by simp)]
      have := ih (f ++ [c]) r
      simpa [List.append_assoc] using this
  exact h hd [] r
/- What is joined is split into the same sections. -/
theorem split_join {L : List Sec} (hj : jf L 0 = 0) (hl : (jb L).length ≤ 1048576) (hb : Byt (jb L)) : ∃ M, likes L M ∧ split (jb L) = (M, 0, 0) := by
  obtain ⟨M, hM, hs⟩ := sat_back L hd 0 [] hj hl hb
  refine ⟨M, hM, ?_⟩
  unfold split
  rw [if_neg (by omega)]
  have : pr (jb L) 0 hd = none := pr_hd _
  rw [this]
  simpa [jb, hd] using hs
end Go.Proofs.Ytclamdpbdafmcaa
