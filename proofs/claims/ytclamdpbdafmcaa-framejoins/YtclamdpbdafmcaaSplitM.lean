/-
  Plain mathematics: a module's bytes as sections; nothing of the program.
-/
import Derived.Test.YtclamdpbdafmcaaNameM
namespace Go.Proofs.Ytclamdpbdafmcaa
set_option linter.unusedVariables false

def ranks : List Int := [0, 1, 2, 3, 4, 5, 7, 8, 9, 10, 12, 13, 11, 6]
def rank (id : Int) : Int := if 0 ≤ id ∧ id < 14 then ranks.getD id.toNat 0 else -1
theorem rank_nat (k : Nat) (h : k < 14) : rank k = ranks.getD k 0 := by unfold rank; rw [if_pos (by omega), Int.toNat_natCast]
theorem rank_no {id : Int} (h : ¬ (0 ≤ id ∧ id < 14)) : rank id = -1 := by unfold rank; rw [if_neg h]
theorem rank_cases (id : Int) : (¬ (0 ≤ id ∧ id < 14) ∧ rank id = -1) ∨ (id = 0 ∧ rank id = 0) ∨ (0 < id ∧ id < 14 ∧ 1 ≤ rank id ∧ rank id ≤ 13) := by
  by_cases h : 0 ≤ id ∧ id < 14
  · right
    obtain ⟨k, rfl⟩ : ∃ k : Nat, id = k := ⟨id.toNat, by omega⟩
    have hk : k < 14 := by omega
    rw [rank_nat k hk]
    have : ∀ k < 14, (k = 0 ∧ ranks.getD k 0 = 0) ∨ (0 < k ∧ 1 ≤ ranks.getD k 0 ∧ ranks.getD k 0 ≤ 13) := by decide
    rcases this k hk with ⟨rfl, h⟩ | ⟨h1, h2, h3⟩
    · exact Or.inl ⟨rfl, h⟩
    · exact Or.inr ⟨by omega, by omega, h2, h3⟩
  · exact Or.inl ⟨h, rank_no h⟩

structure Sec where
  id : Int
  name : List Int
  data : List Int
  at_ : Int

/- One section at a, the highest rank that came being last: the section, the place behind it, the highest rank; or the fault. -/
def secAt (l : List Int) (a : Nat) (last : Int) : Except (Int × Int) (Sec × Nat × Int) :=
  if rank (l.getD a 0) < 0 then .error (a, 4)
  else if (rd 32 false l (a + 1 : Nat) l.length).2.2 ≠ 0 then .error ((rd 32 false l (a + 1 : Nat) l.length).2.1, (rd 32 false l (a + 1 : Nat) l.length).2.2)
  else
    if l.length < (rd 32 false l (a + 1 : Nat) l.length).2.1.toNat + ((rd 32 false l (a + 1 : Nat) l.length).1 % 4294967296).toNat then .error (l.length, 3)
    else if rank (l.getD a 0) ≠ 0 ∧ rank (l.getD a 0) ≤ last then .error (a, 20)
    else if l.getD a 0 = 0 then
      (if (nm (l.take ((rd 32 false l (a + 1 : Nat) l.length).2.1.toNat + ((rd 32 false l (a + 1 : Nat) l.length).1 % 4294967296).toNat)) (rd 32 false l (a + 1 : Nat) l.length).2.1).2.2 ≠ 0 then
        .error ((nm (l.take ((rd 32 false l (a + 1 : Nat) l.length).2.1.toNat + ((rd 32 false l (a + 1 : Nat) l.length).1 % 4294967296).toNat)) (rd 32 false l (a + 1 : Nat) l.length).2.1).2.1, (nm (l.take ((rd 32 false l (a + 1 : Nat) l.length).2.1.toNat + ((rd 32 false l (a + 1 : Nat) l.length).1 % 4294967296).toNat)) (rd 32 false l (a + 1 : Nat) l.length).2.1).2.2)
      else .ok (⟨0, (nm (l.take ((rd 32 false l (a + 1 : Nat) l.length).2.1.toNat + ((rd 32 false l (a + 1 : Nat) l.length).1 % 4294967296).toNat)) (rd 32 false l (a + 1 : Nat) l.length).2.1).1,
          (l.take ((rd 32 false l (a + 1 : Nat) l.length).2.1.toNat + ((rd 32 false l (a + 1 : Nat) l.length).1 % 4294967296).toNat)).drop (nm (l.take ((rd 32 false l (a + 1 : Nat) l.length).2.1.toNat + ((rd 32 false l (a + 1 : Nat) l.length).1 % 4294967296).toNat)) (rd 32 false l (a + 1 : Nat) l.length).2.1).2.1.toNat,
          (nm (l.take ((rd 32 false l (a + 1 : Nat) l.length).2.1.toNat + ((rd 32 false l (a + 1 : Nat) l.length).1 % 4294967296).toNat)) (rd 32 false l (a + 1 : Nat) l.length).2.1).2.1⟩,
          (rd 32 false l (a + 1 : Nat) l.length).2.1.toNat + ((rd 32 false l (a + 1 : Nat) l.length).1 % 4294967296).toNat, last))
    else .ok (⟨l.getD a 0, [], (l.take ((rd 32 false l (a + 1 : Nat) l.length).2.1.toNat + ((rd 32 false l (a + 1 : Nat) l.length).1 % 4294967296).toNat)).drop (rd 32 false l (a + 1 : Nat) l.length).2.1.toNat, (rd 32 false l (a + 1 : Nat) l.length).2.1⟩,
        (rd 32 false l (a + 1 : Nat) l.length).2.1.toNat + ((rd 32 false l (a + 1 : Nat) l.length).1 % 4294967296).toNat, rank (l.getD a 0))

section
variable {l : List Int} {a : Nat} {last : Int} {n : Int} {N Q : Nat}
theorem sec_id (h : rank (l.getD a 0) < 0) : secAt l a last = .error ((a : Int), 4) := by unfold secAt; rw [if_pos h]
theorem sec_rd {q e : Int} (h0 : ¬ rank (l.getD a 0) < 0) (h : rd 32 false l (a + 1 : Nat) l.length = (n, q, e)) (he : e ≠ 0) : secAt l a last = .error (q, e) := by
  unfold secAt; rw [if_neg h0, h]; simp only; rw [if_pos he]
theorem sec_short (h0 : ¬ rank (l.getD a 0) < 0) (h : rd 32 false l (a + 1 : Nat) l.length = (n, (Q : Int), 0)) (hN : n % 4294967296 = N) (hs : ¬ Q + N ≤ l.length) : secAt l a last = .error ((l.length : Int), 3) := by
  unfold secAt; rw [if_neg h0, h]; simp only; rw [if_neg (by simp), hN, Int.toNat_natCast, Int.toNat_natCast, if_pos (by omega)]
theorem sec_order (h0 : ¬ rank (l.getD a 0) < 0) (h : rd 32 false l (a + 1 : Nat) l.length = (n, (Q : Int), 0)) (hN : n % 4294967296 = N) (hs : Q + N ≤ l.length) (ho : rank (l.getD a 0) ≠ 0 ∧ rank (l.getD a 0) ≤ last) : secAt l a last = .error ((a : Int), 20) := by
  unfold secAt; rw [if_neg h0, h]; simp only; rw [if_neg (by simp), hN, Int.toNat_natCast, Int.toNat_natCast, if_neg (by omega), if_pos ho]
theorem sec_plain (h0 : ¬ rank (l.getD a 0) < 0) (h : rd 32 false l (a + 1 : Nat) l.length = (n, (Q : Int), 0)) (hN : n % 4294967296 = N) (hs : Q + N ≤ l.length) (ho : ¬ (rank (l.getD a 0) ≠ 0 ∧ rank (l.getD a 0) ≤ last)) (hi : l.getD a 0 ≠ 0) :
    secAt l a last = .ok (⟨l.getD a 0, [], (l.take (Q + N)).drop Q, Q⟩, Q + N, rank (l.getD a 0)) := by
  unfold secAt; rw [if_neg h0, h]; simp only; rw [if_neg (by simp), hN, Int.toNat_natCast, Int.toNat_natCast, if_neg (by omega), if_neg ho, if_neg hi]
theorem sec_name {s : List Int} {p e : Int} (h : rd 32 false l (a + 1 : Nat) l.length = (n, (Q : Int), 0)) (hN : n % 4294967296 = N) (hs : Q + N ≤ l.length) (hi : l.getD a 0 = 0) (hn : nm (l.take (Q + N)) Q = (s, p, e)) (he : e ≠ 0) :
    secAt l a last = .error (p, e) := by
  have h0 : rank (l.getD a 0) = 0 := by rw [hi]; rfl
  unfold secAt; rw [if_neg (by omega), h]; simp only; rw [if_neg (by simp), hN, Int.toNat_natCast, Int.toNat_natCast, if_neg (by omega), if_neg (by omega), if_pos hi, hn]; simp only; rw [if_pos he]
theorem sec_custom {s : List Int} {P : Nat} (h : rd 32 false l (a + 1 : Nat) l.length = (n, (Q : Int), 0)) (hN : n % 4294967296 = N) (hs : Q + N ≤ l.length) (hi : l.getD a 0 = 0) (hn : nm (l.take (Q + N)) Q = (s, (P : Int), 0)) :
    secAt l a last = .ok (⟨0, s, (l.take (Q + N)).drop P, P⟩, Q + N, last) := by
  have h0 : rank (l.getD a 0) = 0 := by rw [hi]; rfl
  unfold secAt; rw [if_neg (by omega), h]; simp only; rw [if_neg (by simp), hN, Int.toNat_natCast, Int.toNat_natCast, if_neg (by omega), if_neg (by omega), if_pos hi, hn]; simp only; rw [if_neg (by simp), Int.toNat_natCast]
end

/- A name that is read lies between its place and the end. -/
theorem nm_ok {l s : List Int} {p q : Int} (h : nm l p = (s, q, 0)) : ∃ Q N : Nat, 0 ≤ p ∧ p < Q ∧ Q + N ≤ l.length ∧ N ≤ 65536 ∧ q = ((Q + N : Nat) : Int) ∧ s = (l.take (Q + N)).drop Q ∧ (U s).2 = true ∧ ∃ n, rd 32 false l p l.length = (n, (Q : Int), 0) ∧ n % 4294967296 = N := by
  rcases nm_cases l p with ⟨n, q', e', h1, he', h2⟩ | ⟨n, N, Q, h1, hN, hp0, hp, hQ, ⟨hN1, hN2, h2⟩ | ⟨hN', hs, h2⟩ | ⟨hN', hs, i, ⟨hu, h2⟩ | ⟨hu, h2⟩⟩⟩ <;> rw [h2] at h <;> simp only [Prod.mk.injEq] at h
  · exact absurd h.2.2 he'
  · omega
  · omega
  · omega
  · obtain ⟨rfl, rfl, _⟩ := h
    exact ⟨Q, N, hp0, hp, hs, hN', rfl, rfl, by rw [hu], n, h1, hN⟩

/- The ways of a section, one by one. -/
theorem sec_cases (l : List Int) (a : Nat) (last : Int) (ha : a < l.length) (hb : Byt l) :
    (rank (l.getD a 0) = -1 ∧ secAt l a last = .error ((a : Int), 4)) ∨
    (0 ≤ rank (l.getD a 0) ∧
      ((∃ n q e, rd 32 false l (a + 1 : Nat) l.length = (n, q, e) ∧ e ≠ 0 ∧ secAt l a last = .error (q, e)) ∨
       (∃ (n : Int) (N Q : Nat), rd 32 false l (a + 1 : Nat) l.length = (n, (Q : Int), 0) ∧ n % 4294967296 = N ∧ N ≤ 4294967295 ∧ a + 1 < Q ∧ Q ≤ l.length ∧
         ((¬ Q + N ≤ l.length ∧ secAt l a last = .error ((l.length : Int), 3)) ∨
          (Q + N ≤ l.length ∧
            ((rank (l.getD a 0) ≠ 0 ∧ rank (l.getD a 0) ≤ last ∧ secAt l a last = .error ((a : Int), 20)) ∨
             (rank (l.getD a 0) ≠ 0 ∧ ¬ rank (l.getD a 0) ≤ last ∧ l.getD a 0 ≠ 0 ∧ secAt l a last = .ok (⟨l.getD a 0, [], (l.take (Q + N)).drop Q, Q⟩, Q + N, rank (l.getD a 0))) ∨
             (rank (l.getD a 0) = 0 ∧ l.getD a 0 = 0 ∧
               ((∃ s p e, nm (l.take (Q + N)) Q = (s, p, e) ∧ e ≠ 0 ∧ secAt l a last = .error (p, e)) ∨
                (∃ (s : List Int) (P : Nat), nm (l.take (Q + N)) Q = (s, (P : Int), 0) ∧ Q < P ∧ P ≤ Q + N ∧ secAt l a last = .ok (⟨0, s, (l.take (Q + N)).drop P, P⟩, Q + N, last)))))))))) := by
  have hrk := rank_cases (l.getD a 0)
  by_cases h0 : rank (l.getD a 0) < 0
  · exact Or.inl ⟨by omega, sec_id h0⟩
  · refine Or.inr ⟨by omega, ?_⟩
    obtain ⟨n, q, e, h⟩ : ∃ n q e, rd 32 false l (a + 1 : Nat) l.length = (n, q, e) := ⟨_, _, _, rfl⟩
    by_cases he : e = 0
    · subst he
      right
      obtain ⟨h1, h2, h3, h4, h5⟩ := rd_ok h
      obtain ⟨Q, rfl⟩ : ∃ Q : Nat, q = Q := ⟨q.toNat, by omega⟩
      obtain ⟨N, hN⟩ : ∃ N : Nat, n % 4294967296 = N := ⟨(n % 4294967296).toNat, by omega⟩
      refine ⟨n, N, Q, h, hN, by omega, by omega, by omega, ?_⟩
      by_cases hs : Q + N ≤ l.length
      · refine Or.inr ⟨hs, ?_⟩
        by_cases hr : rank (l.getD a 0) = 0
        · have hi : l.getD a 0 = 0 := by omega
          refine Or.inr (Or.inr ⟨hr, hi, ?_⟩)
          obtain ⟨s, p, e, hn⟩ : ∃ s p e, nm (l.take (Q + N)) Q = (s, p, e) := ⟨_, _, _, rfl⟩
          by_cases he : e = 0
          · subst he
            obtain ⟨Q', N', hp0, hp, hs', hN', rfl, hss, _⟩ := nm_ok hn
            have hl : (l.take (Q + N)).length = Q + N := by simp; omega
            exact Or.inr ⟨s, Q' + N', hn, by omega, by omega, sec_custom h hN hs hi hn⟩
          · exact Or.inl ⟨s, p, e, hn, he, sec_name h hN hs hi hn he⟩
        · by_cases ho : rank (l.getD a 0) ≤ last
          · exact Or.inl ⟨hr, ho, sec_order h0 h hN hs ⟨hr, ho⟩⟩
          · exact Or.inr (Or.inl ⟨hr, ho, by omega, sec_plain h0 h hN hs (fun h => ho h.2) (by omega)⟩)
      · exact Or.inl ⟨hs, sec_short h0 h hN hs⟩
    · exact Or.inl ⟨n, q, e, h, he, sec_rd h0 h he⟩
theorem sec_next {l : List Int} {a : Nat} {last : Int} {s : Sec} {a' : Nat} {last' : Int} (ha : a < l.length) (hb : Byt l) (h : secAt l a last = .ok (s, a', last')) : a < a' ∧ a' ≤ l.length := by
  rcases sec_cases l a last ha hb with ⟨_, h2⟩ | ⟨_, ⟨n, q, e, _, _, h2⟩ | ⟨n, N, Q, _, _, _, hQ, hQ', ⟨_, h2⟩ | ⟨hs, ⟨_, _, h2⟩ | ⟨_, _, _, h2⟩ | ⟨_, _, ⟨s, p, e, _, _, h2⟩ | ⟨s, P, _, _, _, h2⟩⟩⟩⟩⟩ <;> rw [h2] at h
  all_goals first
    | (simp only [Except.ok.injEq, Prod.mk.injEq] at h; obtain ⟨_, rfl, _⟩ := h; omega)
    | (cases h)

/- Sections from a on, behind acc. -/
def sgo (l : List Int) : Nat → Nat → Int → List Sec → List Sec × Int × Int
  | 0, _, _, acc => (acc, 0, 0)
  | g + 1, a, last, acc => if a < l.length then (match secAt l a last with
      | .error (p, e) => ([], p, e)
      | .ok (s, a', last') => sgo l g a' last' (acc ++ [s])) else (acc, 0, 0)
theorem sgo_fuel (l : List Int) (hb : Byt l) : ∀ (g a : Nat) (last : Int) (acc : List Sec), l.length - a ≤ g → sgo l g a last acc = sgo l (l.length - a) a last acc := by
  intro g
  induction g using Nat.strongRecOn with
  | _ g ih =>
    intro a last acc h
    by_cases ha : a < l.length
    · obtain ⟨d, hd⟩ : ∃ d, l.length - a = d + 1 := ⟨l.length - a - 1, by omega⟩
      obtain ⟨g', rfl⟩ : ∃ g', g = g' + 1 := ⟨g - 1, by omega⟩
      rw [hd]
      simp only [sgo, if_pos ha]
      cases hs : secAt l a last with
      | error x => rfl
      | ok x =>
        obtain ⟨s, a', last'⟩ := x
        have := sec_next ha hb hs
        simp only
        rw [ih g' (by omega) a' last' _ (by omega), ih d (by omega) a' last' _ (by omega)]
    · rw [show l.length - a = 0 from by omega]
      cases g with
      | zero => rfl
      | succ g => simp only [sgo, if_neg ha]
def sat (l : List Int) (a : Nat) (last : Int) (acc : List Sec) : List Sec × Int × Int := sgo l (l.length - a) a last acc
theorem sat_end {l : List Int} {a : Nat} {last : Int} {acc : List Sec} (h : l.length ≤ a) : sat l a last acc = (acc, 0, 0) := by
  unfold sat; rw [show l.length - a = 0 from by omega]; rfl
theorem sat_bad {l : List Int} {a : Nat} {last : Int} {acc : List Sec} {p e : Int} (h : a < l.length) (hs : secAt l a last = .error (p, e)) : sat l a last acc = ([], p, e) := by
  unfold sat
  obtain ⟨d, hd⟩ : ∃ d, l.length - a = d + 1 := ⟨l.length - a - 1, by omega⟩
  rw [hd, sgo, if_pos h, hs]
theorem sat_ok {l : List Int} {a : Nat} {last : Int} {acc : List Sec} {s : Sec} {a' : Nat} {last' : Int} (hb : Byt l) (h : a < l.length) (hs : secAt l a last = .ok (s, a', last')) : sat l a last acc = sat l a' last' (acc ++ [s]) := by
  have := sec_next h hb hs
  unfold sat
  obtain ⟨d, hd⟩ : ∃ d, l.length - a = d + 1 := ⟨l.length - a - 1, by omega⟩
  rw [hd, sgo, if_pos h, hs]
  simp only
  rw [sgo_fuel l hb d _ _ _ (by omega)]

/- Magic and version. -/
def hd : List Int := [0, 97, 115, 109, 1, 0, 0, 0]
def pr (l : List Int) : Nat → List Int → Option (Int × Int)
  | _, [] => none
  | k, c :: r => if l.length ≤ k then some ((l.length : Int), 3) else if l.getD k 0 ≠ c then some ((k : Int), 4) else pr l (k + 1) r
def split (l : List Int) : List Sec × Int × Int :=
  if 1048576 < l.length then ([], 0, 2) else match pr l 0 hd with
    | some (p, e) => ([], p, e)
    | none => sat l 8 0 []
end Go.Proofs.Ytclamdpbdafmcaa
