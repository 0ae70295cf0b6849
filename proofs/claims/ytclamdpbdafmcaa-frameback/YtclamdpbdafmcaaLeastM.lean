/-
  Plain mathematics: what is split and joined is no longer than it was, and the same if as long; nothing of the program.
-/
import Derived.Test.YtclamdpbdafmcaaBackM
namespace Go.Proofs.Ytclamdpbdafmcaa
set_option linter.unusedVariables false

theorem byte_cases {c : Int} (h : 0 ≤ c ∧ c ≤ 255) (h1 : ¬ c < 128) : c % 128 = c - 128 := by omega
/- Bytes that are read as a number are no fewer than those that are written, and the same if as many. -/
theorem scan_least : ∀ (x : List Int) (i : Nat) (A n q : Int), (∀ c ∈ x, 0 ≤ c ∧ c ≤ 255) → i ≤ 4 → 0 ≤ A → scan 4 (okB 4 false) false x i A = (n, q, 0) →
    ∃ (X : Int) (k : Nat), 0 ≤ X ∧ X < 2 ^ (32 - 7 * i) ∧ n = A + X * 2 ^ (7 * i) ∧ q = ((i + k : Nat) : Int) ∧ k ≤ x.length ∧ (putU (10 - i) X).length ≤ k ∧ ((putU (10 - i) X).length = k → x.take k = putU (10 - i) X) := by
  intro x
  induction x with
  | nil => intro i A n q _ _ _ h; simp [scan] at h
  | cons c r ih =>
    intro i A n q hb hi hA h
    have hc := hb c (by simp)
    obtain ⟨g, hg⟩ : ∃ g, 10 - i = g + 1 := ⟨9 - i, by omega⟩
    rw [scan] at h
    split at h
    · simp at h
    · rename_i h1
      split at h
      · rename_i h2
        simp only [Prod.mk.injEq, ws, and_true] at h
        refine ⟨c, 1, hc.1, ?_, ?_, ?_, by simp, ?_, ?_⟩
        · have h4 : i = 0 ∨ i = 1 ∨ i = 2 ∨ i = 3 ∨ i = 4 := by omega
          rcases h4 with rfl | rfl | rfl | rfl | rfl <;> simp <;> try omega
          have : okB 4 false c = true := by
            by_cases ho : okB 4 false c = true
            · exact ho
            · exact absurd ⟨rfl, by simpa using ho⟩ h1
          unfold okB at this
          simp at this
          omega
        · have := addAt_is (A := A) (X := c) hA hi hc.1 c (by omega)
          have h' := h.1
          simp at h'
          rw [← h', this]
        · omega
        · rw [hg, putU, if_neg (by omega)]; simp
        · intro _
          rw [hg, putU, if_neg (by omega)]; simp
      · rename_i h2
        have hi4 : i < 4 := by
          rcases Nat.lt_or_ge i 4 with h | h
          · exact h
          · exfalso
            obtain rfl : i = 4 := by omega
            by_cases ho : okB 4 false c = true
            · have := okB_lt ho; omega
            · exact h1 ⟨rfl, by simpa using ho⟩
        have hA2 : addAt A c i = A + (c - 128) * 2 ^ (7 * i) := addAt_is hA hi (by omega) c (by omega)
        have hp : (0 : Int) < 2 ^ (7 * i) := pow_pos7 i
        have hm : 0 ≤ (c - 128) * 2 ^ (7 * i) := Int.mul_nonneg (by omega) (by omega)
        obtain ⟨X, k, hX0, hX1, hn, hq, hk, hl, he⟩ := ih (i + 1) (addAt A c i) n q (fun d hd => hb d (by simp [hd])) (by omega) (by rw [hA2]; omega) h
        have hg' : 10 - (i + 1) = g := by omega
        rw [hg'] at hl he
        refine ⟨X * 128 + (c - 128), k + 1, by omega, ?_, ?_, by omega, by simp; omega, ?_, ?_⟩
        · have e : (2 : Int) ^ (32 - 7 * i) = 2 ^ (32 - 7 * (i + 1)) * 128 := by
            rw [show 32 - 7 * i = (32 - 7 * (i + 1)) + 7 from by omega, Int.pow_add]; rfl
          rw [e]
          omega
        · rw [hn, hA2, pow7 i, Int.add_mul, Int.mul_assoc, Int.mul_comm 128 (2 ^ (7 * i))]
          omega
        · rw [hg, putU]
          split
          · have e1 : (X * 128 + (c - 128)) / 128 = X := by omega
            rw [e1]; simp; omega
          · simp
        · rw [hg, putU]
          split
          · have e1 : (X * 128 + (c - 128)) / 128 = X := by omega
            rw [e1]
            intro hh
            simp at hh
            rw [List.take_succ_cons, he (by omega)]
            congr 1
            omega
          · intro hh
            simp at hh
            have : (putU g X).length ≠ 0 := by
              cases g with
              | zero => simp [putU]
              | succ g => simp only [putU]; split <;> simp
            omega
theorem rd_least {l : List Int} (hb : Byt l) {a : Nat} {n : Int} {Q : Nat} (h : rd 32 false l (a : Nat) l.length = (n, (Q : Int), 0)) :
    0 ≤ n ∧ n < 4294967296 ∧ a + (PU n).length ≤ Q ∧ (a + (PU n).length = Q → (l.take Q).drop a = PU n) := by
  obtain ⟨h1, h2, h3, h4, h5⟩ := rd_ok h
  unfold rd at h
  rw [if_pos (by omega), Int.toNat_natCast, Int.toNat_natCast] at h
  obtain ⟨n', q', e', hsc⟩ : ∃ n' q' e', scan ((32 + 6) / 7 - 1) (okB (32 - 7 * ((32 + 6) / 7 - 1)) false) false (seg l a l.length) 0 0 = (n', q', e') := ⟨_, _, _, rfl⟩
  rw [hsc] at h
  simp only [Prod.mk.injEq] at h
  obtain ⟨rfl, h7, rfl⟩ := h
  have hby : ∀ c ∈ seg l a l.length, 0 ≤ c ∧ c ≤ 255 := by
    intro c hc
    unfold seg at hc
    exact hb.mem c (List.mem_of_mem_take (List.mem_of_mem_drop hc))
  obtain ⟨X, k, hX0, hX1, hn, hq, hk, hl, he⟩ := scan_least _ 0 0 n' q' hby (by omega) (by omega) hsc
  rw [show 10 - 0 = 10 from rfl] at hl he
  simp at hX1 hn hq
  subst hn
  have hkQ : a + k = Q := by omega
  refine ⟨hX0, by omega, by unfold PU; omega, fun hh => ?_⟩
  have := he (by unfold PU at hh; omega)
  unfold PU
  rw [← this]
  unfold seg
  rw [List.take_length, List.take_drop, hkQ]
theorem putU_mono : ∀ (f : Nat) (m n : Int), 0 ≤ m → m ≤ n → (putU f m).length ≤ (putU f n).length := by
  intro f
  induction f with
  | zero => intro m n _ _; simp [putU]
  | succ f ih =>
    intro m n h0 h
    simp only [putU]
    split
    · rw [if_pos (by omega)]
      have := ih (m / 128) (n / 128) (by omega) (by omega)
      simp; omega
    · split <;> simp
theorem PU_mono {m n : Int} (h0 : 0 ≤ m) (h : m ≤ n) : (PU m).length ≤ (PU n).length := putU_mono 10 m n h0 h
theorem cut3 (l : List Int) {a b c : Nat} (h1 : a ≤ b) (h2 : b ≤ c) (h3 : c ≤ l.length) : (l.take c).drop a = (l.take b).drop a ++ (l.take c).drop b := by
  have e : l.take c = l.take b ++ (l.take c).drop b := by
    have := List.take_append_drop b (l.take c)
    rw [List.take_take, Nat.min_eq_left h2] at this
    exact this.symm
  conv => lhs; rw [e]
  rw [List.drop_append_of_le_length (by simp; omega)]
theorem cut1 (l : List Int) {a b : Nat} (h1 : a < b) (h3 : b ≤ l.length) : (l.take b).drop a = l.getD a 0 :: (l.take b).drop (a + 1) := by
  rw [List.drop_eq_getElem_cons (by simp; omega)]
  congr 1
  have : a < l.length := by omega
  simp [List.getD, this]
theorem sec_least {l : List Int} {a : Nat} {last : Int} {s : Sec} {a' : Nat} {last' : Int} (hb : Byt l) (ha : a < l.length) (h : secAt l a last = .ok (s, a', last')) :
    ff s last = 0 ∧ nl s last = last' ∧ a' ≤ l.length ∧ a + (sb s).length ≤ a' ∧ (a + (sb s).length = a' → (l.take a').drop a = sb s) := by
  rcases sec_cases l a last ha hb with ⟨_, h2⟩ | ⟨h0, ⟨n, q, e, _, _, h2⟩ | ⟨n, N, Q, hrd, hM, _, hQ, hQ', ⟨_, h2⟩ | ⟨hs, ⟨_, _, h2⟩ | ⟨hr, hl', hi, h2⟩ | ⟨hr, hi, ⟨s, p, e, _, _, h2⟩ | ⟨t, P, hn, hP, hP', h2⟩⟩⟩⟩⟩ <;> rw [h2] at h
  all_goals first
    | (exfalso; cases h; done)
    | skip
  all_goals
    simp only [Except.ok.injEq, Prod.mk.injEq] at h
    obtain ⟨rfl, rfl, rfl⟩ := h
    obtain ⟨n0, n1, hle, heq⟩ := rd_least hb hrd
    obtain rfl : n = (N : Int) := by omega
    have hc := cut1 l (show a < Q by omega) hQ'
    have hc3 := cut3 l (show a ≤ Q by omega) (show Q ≤ Q + N by omega) hs
    have hdl : ((l.take (Q + N)).drop Q).length = N := by simp; omega
  · have hsb : sb ⟨l.getD a 0, [], (l.take (Q + N)).drop Q, (Q : Int)⟩ = l.getD a 0 :: (PU (N : Int) ++ (l.take (Q + N)).drop Q) := by
      unfold sb hdS bdy
      simp only
      rw [if_neg hi, hdl]
      simp
    rw [hsb]
    refine ⟨?_, ?_, hs, ?_, ?_⟩
    · unfold ff
      simp only
      rw [if_neg (by rintro (h | h); omega; exact h.2 rfl), if_neg (fun h => hl' h.2)]
      decide
    · unfold nl; simp only; rw [if_neg hr]
    · simp only [List.length_cons, List.length_append, hdl]; omega
    · intro hh
      simp only [List.length_cons, List.length_append, hdl] at hh
      rw [hc3, hc, heq (by omega)]
      simp
  · obtain ⟨Q2, N2, _, hQ2, hs2, hN2, hPe, hte, hu, n2, hrd2, hM2⟩ := nm_ok hn
    have hlt : (l.take (Q + N)).length = Q + N := by simp; omega
    obtain ⟨m0, m1, hle2, heq2⟩ := rd_least (hb.take (Q + N)) hrd2
    obtain rfl : n2 = (N2 : Int) := by omega
    rw [hlt] at hs2
    have htl : t.length = N2 := by rw [hte]; simp; omega
    have hPn : P = Q2 + N2 := by omega
    subst hPn
    have hdl2 : ((l.take (Q + N)).drop (Q2 + N2)).length = Q + N - (Q2 + N2) := by simp; omega
    have hnb : nb t = PU (N2 : Int) ++ t := by unfold nb; rw [htl]
    have hnbl : (nb t).length = (PU (N2 : Int)).length + N2 := by rw [hnb, List.length_append, htl]
    obtain ⟨m, hm⟩ : ∃ m, m = (nb t).length + (Q + N - (Q2 + N2)) := ⟨_, rfl⟩
    have hsb : sb ⟨0, t, (l.take (Q + N)).drop (Q2 + N2), ((Q2 + N2 : Nat) : Int)⟩ = 0 :: (PU (m : Int) ++ (nb t ++ (l.take (Q + N)).drop (Q2 + N2))) := by
      unfold sb hdS bdy
      simp only
      rw [if_pos trivial, hdl2, ← hm]
      simp
    rw [hsb]
    have hmN : m ≤ N := by omega
    have hpm := PU_mono (m := (m : Int)) (n := (N : Int)) (by omega) (by omega)
    refine ⟨?_, ?_, hs, ?_, ?_⟩
    · unfold ff
      simp only
      have hr0 : rank 0 = 0 := by decide
      rw [if_neg (by rw [hr0]; simp), if_neg (by rw [hr0]; simp)]
      unfold nf
      rw [if_neg (by omega), if_pos hu]
    · unfold nl; simp only; rw [if_pos (by decide)]
    · simp only [List.length_cons, List.length_append, hdl2]; omega
    · intro hh
      simp only [List.length_cons, List.length_append, hdl2] at hh
      obtain rfl : m = N := by omega
      have q1 := heq (by omega)
      have q2 := heq2 (by omega)
      rw [List.take_take, Nat.min_eq_left (by omega)] at q2
      have hd1 := cut3 l (show Q ≤ Q2 by omega) (show Q2 ≤ Q + m by omega) hs
      have hd2 := cut3 l (show Q2 ≤ Q2 + N2 by omega) (show Q2 + N2 ≤ Q + m by omega) hs
      rw [List.take_take, Nat.min_eq_left (by omega)] at hte
      rw [hc3, hc, q1, hi, hd1, hd2, q2, ← hte, hnb]
      simp [List.append_assoc]
theorem sec_bad {l : List Int} {a : Nat} {last p e : Int} (ha : a < l.length) (hb : Byt l) (h : secAt l a last = .error (p, e)) : e ≠ 0 := by
  rcases sec_cases l a last ha hb with ⟨_, h2⟩ | ⟨_, ⟨n, q, e, _, _, h2⟩ | ⟨n, N, Q, _, _, _, hQ, hQ', ⟨_, h2⟩ | ⟨hs, ⟨_, _, h2⟩ | ⟨_, _, _, h2⟩ | ⟨_, _, ⟨s, p, e, _, _, h2⟩ | ⟨s, P, _, _, _, h2⟩⟩⟩⟩⟩ <;> rw [h2] at h
  all_goals first
    | (exfalso; cases h; done)
    | (simp only [Except.error.injEq, Prod.mk.injEq] at h; obtain ⟨_, rfl⟩ := h; first | assumption | decide)
theorem sat_least {l : List Int} (hb : Byt l) : ∀ (g a : Nat) (last : Int) (acc S : List Sec) (p : Int), l.length - a ≤ g → a ≤ l.length → sat l a last acc = (S, p, 0) →
    p = 0 ∧ ∃ M, S = acc ++ M ∧ jf M last = 0 ∧ a + (M.flatMap sb).length ≤ l.length ∧ (a + (M.flatMap sb).length = l.length → l.drop a = M.flatMap sb) := by
  intro g
  induction g with
  | zero =>
    intro a last acc S p hg hal h
    rw [sat_end (by omega)] at h
    simp only [Prod.mk.injEq] at h
    exact ⟨h.2.1.symm, [], by simp [h.1], rfl, by simpa using hal, fun _ => by simp; omega⟩
  | succ g ih =>
    intro a last acc S p hg hal h
    by_cases ha : a < l.length
    · cases hs : secAt l a last with
      | error x =>
        obtain ⟨p', e'⟩ := x
        rw [sat_bad ha hs] at h
        simp only [Prod.mk.injEq] at h
        exact absurd h.2.2 (sec_bad ha hb hs)
      | ok x =>
        obtain ⟨s, a', last'⟩ := x
        have hn := sec_next ha hb hs
        rw [sat_ok hb ha hs] at h
        obtain ⟨f1, f2, f3, f4, f5⟩ := sec_least hb ha hs
        obtain ⟨h0, M, hM, hj, hle, heq⟩ := ih a' last' _ S p (by omega) f3 h
        refine ⟨h0, s :: M, by simp [hM], ?_, ?_, ?_⟩
        · rw [jf, if_neg (by simpa using f1), f2]; exact hj
        · rw [List.flatMap_cons, List.length_append]; omega
        · rw [List.flatMap_cons, List.length_append]
          intro hh
          rw [← f5 (by omega), ← heq (by omega)]
          have := cut3 l (show a ≤ a' by omega) f3 (Nat.le_refl _)
          rw [List.take_length] at this
          exact this
    · rw [sat_end (by omega)] at h
      simp only [Prod.mk.injEq] at h
      exact ⟨h.2.1.symm, [], by simp [h.1], rfl, by simpa using hal, fun _ => by simp; omega⟩
/- What is split is joined again: no longer, and the same if as long. -/
theorem split_least {l : List Int} (hb : Byt l) {M : List Sec} {p : Int} (h : split l = (M, p, 0)) :
    jf M 0 = 0 ∧ (jb M).length ≤ l.length ∧ l.length ≤ 1048576 ∧ ((jb M).length = l.length → jb M = l) := by
  unfold split at h
  split at h
  · simp at h
  · rename_i hl
    cases hp : pr l 0 hd with
    | some x =>
      rw [hp] at h
      obtain ⟨p', e'⟩ := x
      exfalso
      simp only [Prod.mk.injEq] at h
      have hne : ∀ (r : List Int) (k : Nat), pr l k r = some (p', e') → e' ≠ 0 := by
        intro r
        induction r with
        | nil => intro k h; simp [pr] at h
        | cons c r ih =>
          intro k h
          rw [pr] at h
          split at h
          · simp only [Option.some.injEq, Prod.mk.injEq] at h; omega
          · split at h
            · simp only [Option.some.injEq, Prod.mk.injEq] at h; omega
            · exact ih _ h
      exact hne _ _ hp h.2.2
    | none =>
      rw [hp] at h
      simp only at h
      have hhd : ∀ (r : List Int) (k : Nat), k ≤ l.length → pr l k r = none → k + r.length ≤ l.length ∧ (l.take (k + r.length)).drop k = r := by
        intro r
        induction r with
        | nil => intro k hk _; exact ⟨by simpa using hk, by simp⟩
        | cons c r ih =>
          intro k hk h
          rw [pr] at h
          split at h
          · cases h
          · rename_i h1
            split at h
            · cases h
            · rename_i h2
              obtain ⟨i1, i2⟩ := ih (k + 1) (by omega) h
              have e : k + (c :: r).length = k + 1 + r.length := by simp; omega
              rw [e]
              refine ⟨i1, ?_⟩
              rw [cut1 l (by omega) i1, i2]
              simp at h2
              rw [← h2]; simp
      obtain ⟨i1, i2⟩ := hhd hd 0 (by omega) hp
      rw [show 0 + hd.length = 8 from rfl] at i1 i2
      obtain ⟨_, M', hM, hj, hle, heq⟩ := sat_least hb _ 8 0 [] M p (Nat.le_refl _) i1 h
      simp at hM
      subst hM
      have hjl : (jb M).length = 8 + (M.flatMap sb).length := by unfold jb; rw [List.length_append]; rfl
      refine ⟨hj, by omega, by omega, fun hh => ?_⟩
      unfold jb
      rw [← heq (by omega)]
      simp at i2
      rw [← i2, List.take_append_drop]
end Go.Proofs.Ytclamdpbdafmcaa
