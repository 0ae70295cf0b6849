/-
  Plain mathematics: what bytes tell of types, lists of them, limits; nothing of the program.
-/

namespace Go.Proofs.YtchehejjdinifaaGreatDoor

/- The bytes ahead of e, from a on. -/
def seg (l : List Int) (a e : Nat) : List Int := (l.take e).drop a
theorem seg_step {l : List Int} {a e k : Nat} (h : a + k < e) (he : e ≤ l.length) : (seg l a e).drop k = l.getD (a + k) 0 :: (seg l a e).drop (k + 1) := by
  unfold seg
  rw [List.drop_drop, List.drop_drop]
  have h1 : a + k < (l.take e).length := by simp; omega
  rw [List.drop_eq_getElem_cons h1, Nat.add_assoc]
  congr 1
  have h2 : a + k < l.length := by omega
  simp [List.getElem_take, List.getD, h2]
theorem seg_end {l : List Int} {a e k : Nat} (h : e ≤ a + k) : (seg l a e).drop k = [] := by
  unfold seg
  rw [List.drop_drop]
  apply List.drop_eq_nil_of_le
  simp; omega

/- May c be the last byte that may come, where so many bits are left? -/
def okB (left : Nat) (sg : Bool) (c : Int) : Bool :=
  decide (c < 128) && (if sg then decide (c / 2 ^ (left - 1) = 0) || decide (c / 2 ^ (left - 1) = 127 / 2 ^ (left - 1)) else decide (c / 2 ^ left = 0))
theorem okB_lt {left : Nat} {sg : Bool} {c : Int} (h : okB left sg c = true) : c < 128 := by
  unfold okB at h; simp at h; exact h.1

/- X with the seven bits of c laid above 7k bits, in 64 bits. -/
def addAt (X c : Int) (k : Nat) : Int := X + (c % 128) * 2 ^ (7 * k) % 18446744073709551616
/- The sign repeated above the width, in 64 bits. -/
def ws (n : Int) (width : Nat) (sg : Bool) : Int := if sg = true ∧ n / 2 ^ (width - 1) % 2 = 1 ∧ width < 64 then n + (18446744073709551616 - 2 ^ width) else n

/- m: the number of the last byte that may come. -/
def scan (m : Nat) (ok : Int → Bool) (sg : Bool) : List Int → Nat → Int → Int × Int × Int
  | [], i, _ => (0, i, 3)
  | c :: r, i, X => if i = m ∧ ok c = false then (0, i, 4) else if c < 128 then (ws (addAt X c i) (7 * i + 7) sg, i + 1, 0) else scan m ok sg r (i + 1) (addAt X c i)

def St (m : Nat) (ok : Int → Bool) (sg : Bool) (l : List Int) (a e : Nat) (k : Nat) (X : Int) : Prop :=
  scan m ok sg (seg l a e) 0 0 = scan m ok sg ((seg l a e).drop k) k X
section
variable {m : Nat} {ok : Int → Bool} {sg : Bool} {l : List Int} {a e k : Nat} {X c : Int}
theorem St.start : St m ok sg l a e 0 0 := rfl
theorem St.short (h : St m ok sg l a e k X) (hk : e ≤ a + k) : scan m ok sg (seg l a e) 0 0 = (0, (k : Int), 3) := by
  rw [h, seg_end hk]; rfl
theorem St.form (h : St m ok sg l a e k X) (hk : a + k < e) (he : e ≤ l.length) (hc : c = l.getD (a + k) 0) (hm : k = m) (ho : ok c = false) : scan m ok sg (seg l a e) 0 0 = (0, (k : Int), 4) := by
  rw [h, seg_step hk he, ← hc]; simp [scan, hm, ho]
theorem St.done (h : St m ok sg l a e k X) (hk : a + k < e) (he : e ≤ l.length) (hc : c = l.getD (a + k) 0) (hm : k = m → ok c = true) (ho : c < 128) :
    scan m ok sg (seg l a e) 0 0 = (ws (addAt X c k) (7 * k + 7) sg, (k : Int) + 1, 0) := by
  rw [h, seg_step hk he, ← hc, scan, if_neg (by rintro ⟨h1, h2⟩; rw [hm h1] at h2; cases h2), if_pos ho]
theorem St.next (h : St m ok sg l a e k X) (hk : a + k < e) (he : e ≤ l.length) (hc : c = l.getD (a + k) 0) (hm : k = m → ok c = true) (ho : ¬ c < 128) :
    St m ok sg l a e (k + 1) (addAt X c k) := by
  unfold St
  rw [h, seg_step hk he, ← hc, scan, if_neg (by rintro ⟨h1, h2⟩; rw [hm h1] at h2; cases h2), if_neg ho]
end

/- Reading a number of so many bits, signed or not, from at on, ahead of end: its 64 bits, the place behind it (or of the fault), the fault. -/
def rd (b : Nat) (sg : Bool) (l : List Int) (at_ end_ : Int) : Int × Int × Int :=
  if 0 ≤ at_ ∧ at_ ≤ end_ ∧ end_ ≤ l.length then
    ((scan ((b + 6) / 7 - 1) (okB (b - 7 * ((b + 6) / 7 - 1)) sg) sg (seg l at_.toNat end_.toNat) 0 0).1,
      at_ + (scan ((b + 6) / 7 - 1) (okB (b - 7 * ((b + 6) / 7 - 1)) sg) sg (seg l at_.toNat end_.toNat) 0 0).2.1,
      (scan ((b + 6) / 7 - 1) (okB (b - 7 * ((b + 6) / 7 - 1)) sg) sg (seg l at_.toNat end_.toNat) 0 0).2.2)
  else (0, 0, 1)
theorem rd_in {b : Nat} {sg : Bool} {l : List Int} {a e : Nat} {n p q : Int} (h1 : a ≤ e) (h2 : e ≤ l.length)
    (h : scan ((b + 6) / 7 - 1) (okB (b - 7 * ((b + 6) / 7 - 1)) sg) sg (seg l a e) 0 0 = (n, p, q)) : rd b sg l a e = (n, a + p, q) := by
  unfold rd
  rw [if_pos (by omega), Int.toNat_natCast, Int.toNat_natCast, h]
theorem rd_out {b : Nat} {sg : Bool} {l : List Int} {at_ end_ : Int} (h : ¬ (0 ≤ at_ ∧ at_ ≤ end_ ∧ end_ ≤ l.length)) : rd b sg l at_ end_ = (0, 0, 1) := by
  unfold rd; rw [if_neg h]

/- Ranges. -/
theorem pow7 (k : Nat) : (2 : Int) ^ (7 * (k + 1)) = 2 ^ (7 * k) * 128 := by
  rw [show 7 * (k + 1) = 7 * k + 7 from by omega, Int.pow_add]; rfl
theorem pow_pos7 (k : Nat) : (0 : Int) < 2 ^ (7 * k) := by
  induction k with
  | zero => decide
  | succ k ih => rw [pow7]; omega
theorem addAt_lo {X c : Int} (k : Nat) (h : 0 ≤ X) : 0 ≤ addAt X c k := by unfold addAt; omega
theorem addAt_hi {X c : Int} {k : Nat} (hX : X < 2 ^ (7 * k)) (hk : k ≤ 8) : addAt X c k < 2 ^ (7 * (k + 1)) := by
  have h : ∀ j : Nat, j ≤ 8 → k = j → addAt X c k < 2 ^ (7 * (k + 1)) := by
    intro j hj e; subst e; rw [pow7]; unfold addAt
    have hp := pow_pos7 k
    have hm : (c % 128) * 2 ^ (7 * k) ≤ 127 * 2 ^ (7 * k) := Int.mul_le_mul_of_nonneg_right (by omega) (by omega)
    have hn : 0 ≤ (c % 128) * 2 ^ (7 * k) := Int.mul_nonneg (by omega) (by omega)
    generalize (c % 128) * 2 ^ (7 * k) = t at *
    omega
  exact h k hk rfl
theorem addAt_64 {X c : Int} {k : Nat} (h0 : 0 ≤ X) (hX : X < 2 ^ (7 * k)) (hk : k ≤ 9) : addAt X c k < 18446744073709551616 := by
  have hk' : k = 0 ∨ k = 1 ∨ k = 2 ∨ k = 3 ∨ k = 4 ∨ k = 5 ∨ k = 6 ∨ k = 7 ∨ k = 8 ∨ k = 9 := by omega
  unfold addAt
  rcases hk' with rfl | rfl | rfl | rfl | rfl | rfl | rfl | rfl | rfl | rfl <;> simp at hX ⊢ <;> omega
end Go.Proofs.YtchehejjdinifaaGreatDoor

namespace Go.Proofs.YtchehejjdinifaaGreatDoor
set_option linter.unusedVariables false
set_option linter.unusedSimpArgs false

/- A reading: what is read and the place behind it; or the place of the fault and the fault. -/
abbrev RS (α : Type) : Type := Except (Nat × Nat) (α × Nat)
structure VT where
  num : Int
  null : Bool
  heap : Int
structure FT where
  ty : VT
  mut_ : Bool
structure CT where
  kind : Int
  params : List VT
  results : List VT
  fields : List FT
structure SB where
  final_ : Bool
  supers : List Int
  comp : CT
structure RT where
  types : List SB
  explicit : Bool
structure BK where
  type_ : Int
  result : VT

theorem scan_in (m : Nat) (ok : Int → Bool) (sg : Bool) : ∀ (l : List Int) (i : Nat) (X n k e : Int), scan m ok sg l i X = (n, k, e) → (i : Int) ≤ k ∧ k ≤ i + l.length ∧ (e = 0 ∨ e = 3 ∨ e = 4) ∧ (e = 0 → (i : Int) < k)
  | [], i, X, n, k, e, h => by
    simp only [scan, Prod.mk.injEq] at h
    obtain ⟨_, rfl, rfl⟩ := h
    simp
  | c :: r, i, X, n, k, e, h => by
    rw [scan] at h
    split at h
    · simp only [Prod.mk.injEq] at h
      obtain ⟨_, rfl, rfl⟩ := h
      simp
      omega
    · split at h
      · simp only [Prod.mk.injEq] at h
        obtain ⟨_, rfl, rfl⟩ := h
        simp
        omega
      · obtain ⟨h1, h2, h3, h4⟩ := scan_in m ok sg r (i + 1) _ n k e h
        refine ⟨by omega, by simp; omega, h3, fun he => ?_⟩
        have := h4 he
        omega
theorem rd_ways {b : Nat} {sg : Bool} {l : List Int} {p : Nat} (hp : p ≤ l.length) :
    (∃ (n : Int) (q : Nat), rd b sg l p l.length = (n, (q : Int), 0) ∧ p < q ∧ q ≤ l.length) ∨
    (∃ (n : Int) (f e : Nat), rd b sg l p l.length = (n, (f : Int), (e : Int)) ∧ p ≤ f ∧ f ≤ l.length ∧ (e = 3 ∨ e = 4)) := by
  obtain ⟨n, k, e, h⟩ : ∃ n k e, scan ((b + 6) / 7 - 1) (okB (b - 7 * ((b + 6) / 7 - 1)) sg) sg (seg l p l.length) 0 0 = (n, k, e) := ⟨_, _, _, rfl⟩
  obtain ⟨h1, h2, h3, h4⟩ := scan_in _ _ _ _ 0 0 n k e h
  have hr := rd_in hp (Nat.le_refl _) h
  have hl : (seg l p l.length).length = l.length - p := by unfold seg; simp
  rw [hl] at h2
  rcases h3 with rfl | rfl | rfl
  · left
    have := h4 rfl
    exact ⟨n, (p + k).toNat, by rw [hr, Int.toNat_of_nonneg (by omega)], by omega, by omega⟩
  · right
    exact ⟨n, (p + k).toNat, 3, by rw [hr, Int.toNat_of_nonneg (by omega)]; rfl, by omega, by omega, Or.inl rfl⟩
  · right
    exact ⟨n, (p + k).toNat, 4, by rw [hr, Int.toNat_of_nonneg (by omega)]; rfl, by omega, by omega, Or.inr rfl⟩
/- A number of 32 bits is below 2^32. -/
theorem scan_32 : ∀ (l : List Int) (i : Nat) (X n k : Int), i ≤ 4 → 0 ≤ X → X < 2 ^ (7 * i) → (∀ c ∈ l, 0 ≤ c) → scan 4 (okB 4 false) false l i X = (n, k, 0) → 0 ≤ n ∧ n < 4294967296
  | [], i, X, n, k, hi, h0, hX, hl, h => by simp [scan] at h
  | c :: r, i, X, n, k, hi, h0, hX, hl, h => by
    have hc0 : 0 ≤ c := hl c (by simp)
    rw [scan] at h
    split at h
    · simp at h
    · rename_i h1
      split at h
      · rename_i h2
        simp only [Prod.mk.injEq] at h
        obtain ⟨rfl, _, _⟩ := h
        have hw : ws (addAt X c i) (7 * i + 7) false = addAt X c i := by simp [ws]
        rw [hw]
        refine ⟨addAt_lo i h0, ?_⟩
        rcases Nat.lt_or_ge i 4 with h3 | h3
        · have := addAt_hi (c := c) hX (show i ≤ 8 by omega)
          have hp : (2 : Int) ^ (7 * (i + 1)) ≤ 2 ^ 28 := by
            have : i = 0 ∨ i = 1 ∨ i = 2 ∨ i = 3 := by omega
            rcases this with rfl | rfl | rfl | rfl <;> decide
          have e28 : (2 : Int) ^ 28 = 268435456 := by decide
          omega
        · obtain rfl : i = 4 := by omega
          have hk : okB 4 false c = true := by
            cases ho : okB 4 false c with
            | true => rfl
            | false => exact absurd ⟨rfl, ho⟩ h1
          have hc : c < 16 := by
            unfold okB at hk
            simp at hk
            omega
          have e28 : (2 : Int) ^ (7 * 4) = 268435456 := by decide
          unfold addAt
          rw [e28] at hX ⊢
          omega
      · rename_i h2
        rcases Nat.lt_or_ge i 4 with h3 | h3
        · exact scan_32 r (i + 1) _ n k (by omega) (addAt_lo i h0) (addAt_hi hX (by omega)) (fun c hc => hl c (by simp [hc])) h
        · obtain rfl : i = 4 := by omega
          exfalso
          have hk : okB 4 false c = false := by
            cases ho : okB 4 false c with
            | false => rfl
            | true => exact absurd (okB_lt ho) h2
          exact h1 ⟨rfl, hk⟩
theorem rd_32 {l : List Int} (hb : ∀ j, 0 ≤ l.getD j 0 ∧ l.getD j 0 ≤ 255) {x y n q : Int} (h : rd 32 false l x y = (n, q, 0)) : 0 ≤ n ∧ n < 4294967296 := by
  by_cases hin : 0 ≤ x ∧ x ≤ y ∧ y ≤ l.length
  · unfold rd at h
    rw [if_pos hin] at h
    simp only [Prod.mk.injEq] at h
    obtain ⟨h1, h2, h3⟩ := h
    obtain ⟨a, k, e, hs⟩ : ∃ n k e, scan ((32 + 6) / 7 - 1) (okB (32 - 7 * ((32 + 6) / 7 - 1)) false) false (seg l x.toNat y.toNat) 0 0 = (n, k, e) := ⟨_, _, _, rfl⟩
    rw [hs] at h1 h3
    simp only at h1 h3
    subst h1
    subst h3
    refine scan_32 (seg l x.toNat y.toNat) 0 0 a k (by omega) (by omega) (by decide) ?_ hs
    intro c hc
    unfold seg at hc
    have hc' : c ∈ l := List.mem_of_mem_take (List.mem_of_mem_drop hc)
    obtain ⟨j, hj, rfl⟩ := List.getElem_of_mem hc'
    have := (hb j).1
    rwa [List.getD_eq_getElem?_getD, List.getElem?_eq_getElem hj] at this
  · rw [rd_out hin] at h; simp at h
end Go.Proofs.YtchehejjdinifaaGreatDoor

namespace Go.Proofs.YtchehejjdinifaaGreatDoor
set_option linter.unusedVariables false
set_option linter.unusedSimpArgs false

/- Bytes, each with the kind of what it stands for, and which of that kind it is. -/
def codeL : List (Int × Int × Int) := [(127, 1, 1), (126, 1, 2), (125, 1, 3), (124, 1, 4), (123, 2, 0), (120, 3, 6), (119, 3, 7), (116, 4, -12), (115, 4, -2), (114, 4, -4), (113, 4, -10), (112, 4, -1), (111, 4, -3), (110, 4, -5), (109, 4, -6), (108, 4, -7), (107, 4, -8), (106, 4, -9), (105, 4, -11), (100, 5, 0), (99, 5, 1), (96, 6, 1), (95, 6, 2), (94, 6, 3)]
def findC (c : Int) : List (Int × Int × Int) → Int × Int
  | [] => (0, 0)
  | x :: r => if x.1 = c then x.2 else findC c r
/- The kind of a byte, and which of that kind it is. -/
def mean (c : Int) : Int × Int := findC c codeL
def findW (k n : Int) : List (Int × Int × Int) → Option Int
  | [] => none
  | x :: r => if x.2.1 = k ∧ x.2.2 = n then some x.1 else findW k n r
def codeW (k n : Int) : Option Int := findW k n codeL

def mapR {α β : Type} (f : α → β) : RS α → RS β
  | .error e => .error e
  | .ok (a, q) => .ok (f a, q)
def thenR {α β : Type} (r : RS α) (k : α → Nat → RS β) : RS β := match r with
  | .error e => .error e
  | .ok (a, q) => k a q
/- A number. -/
def numR (b : Nat) (sg : Bool) (l : List Int) (p : Nat) : RS Int :=
  if (rd b sg l p l.length).2.2 = 0 then .ok ((rd b sg l p l.length).1, (rd b sg l p l.length).2.1.toNat)
  else .error ((rd b sg l p l.length).2.1.toNat, (rd b sg l p l.length).2.2.toNat)
/- A number of 64 bits, taken with its sign. -/
def sg64 (n : Int) : Int := (n + 9223372036854775808) % 18446744073709551616 - 9223372036854775808
/- A defined type's number, unsigned; signed. -/
def limR (p : Nat) (m : Int) (r : RS Int) : RS Int := match r with
  | .error e => .error e
  | .ok (n, q) => if m < n then .error (p, 2) else .ok (n, q)
def tyU (l : List Int) (p : Nat) : RS Int := limR p 2147483647 (numR 32 false l p)
def tyS (l : List Int) (p : Nat) : RS Int := match numR 33 true l p with
  | .error e => .error e
  | .ok (n, q) => if sg64 n < 0 then .error (p, 4) else if 2147483647 < sg64 n then .error (p, 2) else .ok (sg64 n, q)
/- A byte. -/
def atR {α : Type} (l : List Int) (p : Nat) (k : Int → RS α) : RS α := if p < l.length then k (l.getD p 0) else .error (p, 3)
def belowR (e : Int) (l : List Int) (p : Nat) : RS Int := atR l p fun c => if e ≤ c then .error (p, 4) else .ok (c, p + 1)
def flagR (l : List Int) (p : Nat) : RS Bool := mapR (fun c => decide (c = 1)) (belowR 2 l p)
def heapR (l : List Int) (p : Nat) : RS Int := atR l p fun c => if (mean c).1 = 4 then .ok ((mean c).2, p + 1) else tyS l p
def refR (l : List Int) (p : Nat) : RS VT := atR l p fun c =>
  if (mean c).1 = 4 then .ok (⟨5, true, (mean c).2⟩, p + 1)
  else if (mean c).1 = 5 then mapR (fun h => ⟨5, decide ((mean c).2 = 1), h⟩) (heapR l (p + 1))
  else .error (p, 4)
def valR (l : List Int) (p : Nat) : RS VT := atR l p fun c =>
  if (mean c).1 = 2 then .error (p, 8)
  else if (mean c).1 = 1 then .ok (⟨(mean c).2, false, 0⟩, p + 1)
  else refR l p
def storR (l : List Int) (p : Nat) : RS VT := atR l p fun c =>
  if (mean c).1 = 3 then .ok (⟨(mean c).2, false, 0⟩, p + 1) else valR l p
def blockR (l : List Int) (p : Nat) : RS BK := atR l p fun c =>
  if c = 64 then .ok (⟨-1, ⟨0, false, 0⟩⟩, p + 1)
  else if (mean c).1 = 1 ∨ (mean c).1 = 2 ∨ (mean c).1 = 4 ∨ (mean c).1 = 5 then mapR (fun v => ⟨-1, v⟩) (valR l p)
  else mapR (fun n => ⟨n, ⟨0, false, 0⟩⟩) (tyS l p)
def fieldR (l : List Int) (p : Nat) : RS FT := thenR (storR l p) fun v q => mapR (fun m => ⟨v, m⟩) (flagR l q)
/- So many, one behind another. -/
def manyR {α : Type} (rd : Nat → RS α) : Nat → List α → Nat → RS (List α)
  | 0, acc, p => .ok (acc, p)
  | n + 1, acc, p => thenR (rd p) fun a q => manyR rd n (acc ++ [a]) q
/- How many, and these. -/
def listR {α : Type} (lim : Int) (rd : Nat → RS α) (l : List Int) (p : Nat) : RS (List α) :=
  thenR (limR p lim (numR 32 false l p)) fun n q => manyR rd n.toNat [] q
def valsR (l : List Int) (p : Nat) : RS (List VT) := listR 1000 (valR l) l p
def compR (l : List Int) (p : Nat) : RS CT := atR l p fun c =>
  if (mean c).1 ≠ 6 then .error (p, 4)
  else if (mean c).2 = 1 then thenR (valsR l (p + 1)) fun ps q => mapR (fun rs => ⟨1, ps, rs, []⟩) (valsR l q)
  else if (mean c).2 = 2 then mapR (fun fs => ⟨2, [], [], fs⟩) (listR 10000 (fieldR l) l (p + 1))
  else mapR (fun f => ⟨3, [], [], [f]⟩) (fieldR l (p + 1))
def subR (l : List Int) (p : Nat) : RS SB := atR l p fun c =>
  if c = 80 ∨ c = 79 then thenR (listR 1000 (tyU l) l (p + 1)) fun ss q => mapR (fun t => ⟨decide (c = 79), ss, t⟩) (compR l q)
  else mapR (fun t => ⟨true, [], t⟩) (compR l p)
def recR (l : List Int) (p : Nat) : RS RT := atR l p fun c =>
  if c = 78 then mapR (fun ts => ⟨ts, true⟩) (listR 10000 (subR l) l (p + 1))
  else mapR (fun t => ⟨[t], false⟩) (subR l p)

/- Each reading goes on, within the bytes; its faults lie within. -/
def Adv {α : Type} (l : List Int) (rd : Nat → RS α) : Prop := ∀ p, p ≤ l.length → (∀ a q, rd p = .ok (a, q) → p < q ∧ q ≤ l.length) ∧ (∀ f e, rd p = .error (f, e) → f ≤ l.length ∧ 0 < e ∧ e ≤ 8)
theorem mapR_ok {α β : Type} {f : α → β} {r : RS α} {b : β} {q : Nat} (h : mapR f r = .ok (b, q)) : ∃ a, r = .ok (a, q) ∧ b = f a := by
  cases r with
  | error e => cases h
  | ok x =>
    obtain ⟨a, q'⟩ := x
    simp only [mapR, Except.ok.injEq, Prod.mk.injEq] at h
    exact ⟨a, by rw [h.2], h.1.symm⟩
theorem mapR_er {α β : Type} {f : α → β} {r : RS α} {e : Nat × Nat} (h : mapR f r = .error e) : r = .error e := by
  cases r with
  | error e' => simpa [mapR] using h
  | ok x => cases h
theorem numR_ways {b : Nat} {sg : Bool} {l : List Int} {p : Nat} (hp : p ≤ l.length) :
    (∃ (n : Int) (q : Nat), rd b sg l p l.length = (n, (q : Int), 0) ∧ p < q ∧ q ≤ l.length ∧ numR b sg l p = .ok (n, q)) ∨
    (∃ (n : Int) (f e : Nat), rd b sg l p l.length = (n, (f : Int), (e : Int)) ∧ p ≤ f ∧ f ≤ l.length ∧ (e = 3 ∨ e = 4) ∧ numR b sg l p = .error (f, e)) := by
  rcases rd_ways (b := b) (sg := sg) hp with ⟨n, q, h, h1, h2⟩ | ⟨n, f, e, h, h1, h2, h3⟩
  · refine Or.inl ⟨n, q, h, h1, h2, ?_⟩
    unfold numR
    rw [h]
    simp
  · refine Or.inr ⟨n, f, e, h, h1, h2, h3, ?_⟩
    unfold numR
    rw [h]
    have : ¬ (e = 0) := by omega
    simp [this]
theorem num_adv (b : Nat) (sg : Bool) (l : List Int) : Adv l (numR b sg l) := by
  intro p hp
  rcases numR_ways (b := b) (sg := sg) hp with ⟨n, q, h, h1, h2, h3⟩ | ⟨n, f, e, h, h1, h2, h3, h4⟩
  · rw [h3]
    exact ⟨fun a q' h => by simp only [Except.ok.injEq, Prod.mk.injEq] at h; omega, fun f e h => by cases h⟩
  · rw [h4]
    exact ⟨fun a q' h => (by cases h), fun f' e' h => by simp only [Except.error.injEq, Prod.mk.injEq] at h; omega⟩
theorem lim_adv {l : List Int} {m : Int} {rd : Nat → RS Int} (h : Adv l rd) : Adv l (fun p => limR p m (rd p)) := by
  intro p hp
  obtain ⟨h1, h2⟩ := h p hp
  refine ⟨fun a q hr => ?_, fun f e hr => ?_⟩
  · simp only at hr
    cases hx : rd p with
    | error e => rw [hx] at hr; cases hr
    | ok x =>
      obtain ⟨n, q'⟩ := x
      rw [hx] at hr
      simp only [limR] at hr
      split at hr
      · cases hr
      · simp only [Except.ok.injEq, Prod.mk.injEq] at hr
        exact hr.2 ▸ h1 n q' hx
  · simp only at hr
    cases hx : rd p with
    | error e' => rw [hx] at hr; simp only [limR, Except.error.injEq] at hr; subst hr; exact h2 f e hx
    | ok x =>
      obtain ⟨n, q'⟩ := x
      rw [hx] at hr
      simp only [limR] at hr
      split at hr
      · simp only [Except.error.injEq, Prod.mk.injEq] at hr
        omega
      · cases hr
theorem tyU_adv (l : List Int) : Adv l (tyU l) := lim_adv (num_adv 32 false l)
theorem tyS_adv (l : List Int) : Adv l (tyS l) := by
  intro p hp
  obtain ⟨h1, h2⟩ := num_adv 33 true l p hp
  unfold tyS
  cases hx : numR 33 true l p with
  | error e' => exact ⟨fun a q h => (by cases h), fun f e h => by simp only [Except.error.injEq] at h; subst h; exact h2 f e hx⟩
  | ok x =>
    obtain ⟨n, q'⟩ := x
    simp only
    split
    · exact ⟨fun a q h => (by cases h), fun f e h => by simp only [Except.error.injEq, Prod.mk.injEq] at h; omega⟩
    · split
      · exact ⟨fun a q h => (by cases h), fun f e h => by simp only [Except.error.injEq, Prod.mk.injEq] at h; omega⟩
      · exact ⟨fun a q h => by simp only [Except.ok.injEq, Prod.mk.injEq] at h; exact h.2 ▸ h1 n q' hx, fun f e h => by cases h⟩
def In {α : Type} (l : List Int) (p : Nat) (r : RS α) : Prop := (∀ a q, r = .ok (a, q) → p < q ∧ q ≤ l.length) ∧ (∀ f e, r = .error (f, e) → f ≤ l.length ∧ 0 < e ∧ e ≤ 8)
theorem In.er {α : Type} {l : List Int} {p f e : Nat} (hf : f ≤ l.length) (h0 : 0 < e) (h8 : e ≤ 8) : In (α := α) l p (.error (f, e)) :=
  ⟨fun a q h => (by cases h), fun f' e' h => by simp only [Except.error.injEq, Prod.mk.injEq] at h; omega⟩
theorem In.ok {α : Type} {l : List Int} {p q : Nat} {a : α} (h1 : p < q) (h2 : q ≤ l.length) : In l p (.ok (a, q)) :=
  ⟨fun a q' h => by simp only [Except.ok.injEq, Prod.mk.injEq] at h; omega, fun f' e' h => by cases h⟩
theorem In.map {α β : Type} {l : List Int} {p p' : Nat} {r : RS α} (h : In l p r) (hp : p' ≤ p) (f : α → β) : In l p' (mapR f r) := by
  cases r with
  | error e =>
    obtain ⟨x, e⟩ := e
    have := h.2 x e rfl
    exact In.er this.1 this.2.1 this.2.2
  | ok x =>
    obtain ⟨a, q⟩ := x
    have := h.1 a q rfl
    exact In.ok (by omega) this.2
theorem In.thn {α β : Type} {l : List Int} {p p' : Nat} {r : RS α} (h : In l p r) (hp : p' ≤ p) {k : α → Nat → RS β} (hk : ∀ a q, p < q → q ≤ l.length → In l q (k a q) ∨ In l p (k a q)) : In l p' (thenR r k) := by
  cases r with
  | error e =>
    obtain ⟨x, e⟩ := e
    have := h.2 x e rfl
    exact In.er this.1 this.2.1 this.2.2
  | ok x =>
    obtain ⟨a, q⟩ := x
    have hq := h.1 a q rfl
    rcases hk a q hq.1 hq.2 with h' | h'
    · exact ⟨fun b q' hb => by have := h'.1 b q' hb; omega, h'.2⟩
    · exact ⟨fun b q' hb => by have := h'.1 b q' hb; omega, h'.2⟩
theorem In.at_ {α : Type} {l : List Int} {p : Nat} {k : Int → RS α} (hp : p ≤ l.length) (h : ∀ c, p < l.length → In l p (k c)) : In l p (atR l p k) := by
  unfold atR
  split
  · exact h _ (by assumption)
  · exact In.er hp (by omega) (by omega)
theorem below_adv (e : Int) (l : List Int) : Adv l (belowR e l) := fun p hp => In.at_ hp fun c hc => by
  split
  · exact In.er hp (by omega) (by omega)
  · exact In.ok (by omega) (by omega)
theorem flag_adv (l : List Int) : Adv l (flagR l) := fun p hp => In.map (below_adv 2 l p hp) (Nat.le_refl _) _
theorem heap_adv (l : List Int) : Adv l (heapR l) := fun p hp => In.at_ hp fun c hc => by
  split
  · exact In.ok (by omega) (by omega)
  · exact tyS_adv l p hp
theorem ref_adv (l : List Int) : Adv l (refR l) := fun p hp => In.at_ hp fun c hc => by
  split
  · exact In.ok (by omega) (by omega)
  · split
    · exact In.map (heap_adv l (p + 1) (by omega)) (by omega) _
    · exact In.er hp (by omega) (by omega)
theorem val_adv (l : List Int) : Adv l (valR l) := fun p hp => In.at_ hp fun c hc => by
  split
  · exact In.er hp (by omega) (by omega)
  · split
    · exact In.ok (by omega) (by omega)
    · exact ref_adv l p hp
theorem stor_adv (l : List Int) : Adv l (storR l) := fun p hp => In.at_ hp fun c hc => by
  split
  · exact In.ok (by omega) (by omega)
  · exact val_adv l p hp
theorem block_adv (l : List Int) : Adv l (blockR l) := fun p hp => In.at_ hp fun c hc => by
  split
  · exact In.ok (by omega) (by omega)
  · split
    · exact In.map (val_adv l p hp) (Nat.le_refl _) _
    · exact In.map (tyS_adv l p hp) (Nat.le_refl _) _
theorem field_adv (l : List Int) : Adv l (fieldR l) := fun p hp => In.thn (stor_adv l p hp) (Nat.le_refl _) fun a q h1 h2 => Or.inl (In.map (flag_adv l q h2) (Nat.le_refl _) _)
theorem many_in {α : Type} {l : List Int} {rd : Nat → RS α} (h : Adv l rd) : ∀ (n : Nat) (acc : List α) (p p0 : Nat), p0 < p → p ≤ l.length → In l p0 (manyR rd n acc p)
  | 0, acc, p, p0, h0, hp => In.ok h0 hp
  | n + 1, acc, p, p0, h0, hp => by
    rw [manyR]
    have := h p hp
    cases hx : rd p with
    | error e =>
      obtain ⟨f, e⟩ := e
      have := this.2 f e hx
      exact In.er this.1 this.2.1 this.2.2
    | ok x =>
      obtain ⟨a, q⟩ := x
      have := this.1 a q hx
      exact many_in h n _ q p0 (by omega) this.2
theorem list_adv {α : Type} (lim : Int) {rd : Nat → RS α} (l : List Int) (h : Adv l rd) : Adv l (listR lim rd l) := fun p hp =>
  In.thn (lim_adv (num_adv 32 false l) p hp) (Nat.le_refl _) fun n q h1 h2 => Or.inr (many_in h _ _ q p h1 h2)
theorem vals_adv (l : List Int) : Adv l (valsR l) := list_adv 1000 l (val_adv l)
theorem comp_adv (l : List Int) : Adv l (compR l) := fun p hp => In.at_ hp fun c hc => by
  split
  · exact In.er hp (by omega) (by omega)
  · split
    · exact In.thn (vals_adv l (p + 1) (by omega)) (by omega) fun a q h1 h2 => Or.inl (In.map (vals_adv l q h2) (Nat.le_refl _) _)
    · split
      · exact In.map (list_adv 10000 l (field_adv l) (p + 1) (by omega)) (by omega) _
      · exact In.map (field_adv l (p + 1) (by omega)) (by omega) _
theorem sub_adv (l : List Int) : Adv l (subR l) := fun p hp => In.at_ hp fun c hc => by
  split
  · exact In.thn (list_adv 1000 l (tyU_adv l) (p + 1) (by omega)) (by omega) fun a q h1 h2 => Or.inl (In.map (comp_adv l q h2) (Nat.le_refl _) _)
  · exact In.map (comp_adv l p hp) (Nat.le_refl _) _
theorem rec_adv (l : List Int) : Adv l (recR l) := fun p hp => In.at_ hp fun c hc => by
  split
  · exact In.map (list_adv 10000 l (sub_adv l) (p + 1) (by omega)) (by omega) _
  · exact In.map (sub_adv l p hp) (Nat.le_refl _) _
end Go.Proofs.YtchehejjdinifaaGreatDoor
