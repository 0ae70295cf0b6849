/-
  Instructions read: the plain readings; no statement is proved here.
-/

namespace Go.Proofs.YtohapnninjdlfaaGreatDoor

/- The bytes ahead of e, from a on. -/
def seg (l : List Int) (a e : Nat) : List Int := (l.take e).drop a
theorem seg_step {l : List Int} {a e k : Nat} (h : a + k < e) (he : e ≤ l.length) : (seg l a e).drop k = l.getD (a + k) 0 :: (seg l a e).drop (k + 1) := by
  unfold seg
  rw [List.drop_drop, List.drop_drop]
  have h1 : a + k < (l.take e).length := by simp; omega
  rw [List.drop_eq_getElem_cons h1, Nat.add_assoc]
  congr 1
  have h2 : a + k < l.length := by omega
  simp [List.getElem_take, List.getD, h2]
theorem seg_end {l : List Int} {a e k : Nat} (h : e ≤ a + k) : (seg l a e).drop k = [] := by
  unfold seg
  rw [List.drop_drop]
  apply List.drop_eq_nil_of_le
  simp; omega

/- May c be the last byte that may come, where so many bits are left? -/
def okB (left : Nat) (sg : Bool) (c : Int) : Bool :=
  decide (c < 128) && (if sg then decide (c / 2 ^ (left - 1) = 0) || decide (c / 2 ^ (left - 1) = 127 / 2 ^ (left - 1)) else decide (c / 2 ^ left = 0))
theorem okB_lt {left : Nat} {sg : Bool} {c : Int} (h : okB left sg c = true) : c < 128 := by
  unfold okB at h; simp at h; exact h.1

/- X with the seven bits of c laid above 7k bits, in 64 bits. -/
def addAt (X c : Int) (k : Nat) : Int := X + (c % 128) * 2 ^ (7 * k) % 18446744073709551616
/- The sign repeated above the width, in 64 bits. -/
def ws (n : Int) (width : Nat) (sg : Bool) : Int := if sg = true ∧ n / 2 ^ (width - 1) % 2 = 1 ∧ width < 64 then n + (18446744073709551616 - 2 ^ width) else n

/- m: the number of the last byte that may come. -/
def scan (m : Nat) (ok : Int → Bool) (sg : Bool) : List Int → Nat → Int → Int × Int × Int
  | [], i, _ => (0, i, 3)
  | c :: r, i, X => if i = m ∧ ok c = false then (0, i, 4) else if c < 128 then (ws (addAt X c i) (7 * i + 7) sg, i + 1, 0) else scan m ok sg r (i + 1) (addAt X c i)

def St (m : Nat) (ok : Int → Bool) (sg : Bool) (l : List Int) (a e : Nat) (k : Nat) (X : Int) : Prop :=
  scan m ok sg (seg l a e) 0 0 = scan m ok sg ((seg l a e).drop k) k X
section
variable {m : Nat} {ok : Int → Bool} {sg : Bool} {l : List Int} {a e k : Nat} {X c : Int}
theorem St.start : St m ok sg l a e 0 0 := rfl
theorem St.short (h : St m ok sg l a e k X) (hk : e ≤ a + k) : scan m ok sg (seg l a e) 0 0 = (0, (k : Int), 3) := by
  rw [h, seg_end hk]; rfl
theorem St.form (h : St m ok sg l a e k X) (hk : a + k < e) (he : e ≤ l.length) (hc : c = l.getD (a + k) 0) (hm : k = m) (ho : ok c = false) : scan m ok sg (seg l a e) 0 0 = (0, (k : Int), 4) := by
  rw [h, seg_step hk he, ← hc]; simp [scan, hm, ho]
theorem St.done (h : St m ok sg l a e k X) (hk : a + k < e) (he : e ≤ l.length) (hc : c = l.getD (a + k) 0) (hm : k = m → ok c = true) (ho : c < 128) :
    scan m ok sg (seg l a e) 0 0 = (ws (addAt X c k) (7 * k + 7) sg, (k : Int) + 1, 0) := by
  rw [h, seg_step hk he, ← hc, scan, if_neg (by rintro ⟨h1, h2⟩; rw [hm h1] at h2; cases h2), if_pos ho]
theorem St.next (h : St m ok sg l a e k X) (hk : a + k < e) (he : e ≤ l.length) (hc : c = l.getD (a + k) 0) (hm : k = m → ok c = true) (ho : ¬ c < 128) :
    St m ok sg l a e (k + 1) (addAt X c k) := by
  unfold St
  rw [h, seg_step hk he, ← hc, scan, if_neg (by rintro ⟨h1, h2⟩; rw [hm h1] at h2; cases h2), if_neg ho]
end

/- Reading a number of so many bits, signed or not, from at on, ahead of end: its 64 bits, the place behind it (or of the fault), the fault. -/
def rd (b : Nat) (sg : Bool) (l : List Int) (at_ end_ : Int) : Int × Int × Int :=
  if 0 ≤ at_ ∧ at_ ≤ end_ ∧ end_ ≤ l.length then
    ((scan ((b + 6) / 7 - 1) (okB (b - 7 * ((b + 6) / 7 - 1)) sg) sg (seg l at_.toNat end_.toNat) 0 0).1,
      at_ + (scan ((b + 6) / 7 - 1) (okB (b - 7 * ((b + 6) / 7 - 1)) sg) sg (seg l at_.toNat end_.toNat) 0 0).2.1,
      (scan ((b + 6) / 7 - 1) (okB (b - 7 * ((b + 6) / 7 - 1)) sg) sg (seg l at_.toNat end_.toNat) 0 0).2.2)
  else (0, 0, 1)
theorem rd_in {b : Nat} {sg : Bool} {l : List Int} {a e : Nat} {n p q : Int} (h1 : a ≤ e) (h2 : e ≤ l.length)
    (h : scan ((b + 6) / 7 - 1) (okB (b - 7 * ((b + 6) / 7 - 1)) sg) sg (seg l a e) 0 0 = (n, p, q)) : rd b sg l a e = (n, a + p, q) := by
  unfold rd
  rw [if_pos (by omega), Int.toNat_natCast, Int.toNat_natCast, h]
theorem rd_out {b : Nat} {sg : Bool} {l : List Int} {at_ end_ : Int} (h : ¬ (0 ≤ at_ ∧ at_ ≤ end_ ∧ end_ ≤ l.length)) : rd b sg l at_ end_ = (0, 0, 1) := by
  unfold rd; rw [if_neg h]

/- Ranges. -/
theorem pow7 (k : Nat) : (2 : Int) ^ (7 * (k + 1)) = 2 ^ (7 * k) * 128 := by
  rw [show 7 * (k + 1) = 7 * k + 7 from by omega, Int.pow_add]; rfl
theorem pow_pos7 (k : Nat) : (0 : Int) < 2 ^ (7 * k) := by
  induction k with
  | zero => decide
  | succ k ih => rw [pow7]; omega
theorem addAt_lo {X c : Int} (k : Nat) (h : 0 ≤ X) : 0 ≤ addAt X c k := by unfold addAt; omega
theorem addAt_hi {X c : Int} {k : Nat} (hX : X < 2 ^ (7 * k)) (hk : k ≤ 8) : addAt X c k < 2 ^ (7 * (k + 1)) := by
  have h : ∀ j : Nat, j ≤ 8 → k = j → addAt X c k < 2 ^ (7 * (k + 1)) := by
    intro j hj e; subst e; rw [pow7]; unfold addAt
    have hp := pow_pos7 k
    have hm : (c % 128) * 2 ^ (7 * k) ≤ 127 * 2 ^ (7 * k) := Int.mul_le_mul_of_nonneg_right (by omega) (by omega)
    have hn : 0 ≤ (c % 128) * 2 ^ (7 * k) := Int.mul_nonneg (by omega) (by omega)
    generalize (c % 128) * 2 ^ (7 * k) = t at *
    omega
  exact h k hk rfl
theorem addAt_64 {X c : Int} {k : Nat} (h0 : 0 ≤ X) (hX : X < 2 ^ (7 * k)) (hk : k ≤ 9) : addAt X c k < 18446744073709551616 := by
  have hk' : k = 0 ∨ k = 1 ∨ k = 2 ∨ k = 3 ∨ k = 4 ∨ k = 5 ∨ k = 6 ∨ k = 7 ∨ k = 8 ∨ k = 9 := by omega
  unfold addAt
  rcases hk' with rfl | rfl | rfl | rfl | rfl | rfl | rfl | rfl | rfl | rfl <;> simp at hX ⊢ <;> omega
end Go.Proofs.YtohapnninjdlfaaGreatDoor

namespace Go.Proofs.YtohapnninjdlfaaGreatDoor
set_option linter.unusedVariables false
set_option linter.unusedSimpArgs false

/- A reading: what is read and the place behind it; or the place of the fault and the fault. -/
abbrev RS (α : Type) : Type := Except (Nat × Nat) (α × Nat)
structure VT where
  num : Int
  null : Bool
  heap : Int
structure FT where
  ty : VT
  mut_ : Bool
structure CT where
  kind : Int
  params : List VT
  results : List VT
  fields : List FT
structure SB where
  final_ : Bool
  supers : List Int
  comp : CT
structure RT where
  types : List SB
  explicit : Bool
structure BK where
  type_ : Int
  result : VT

theorem scan_in (m : Nat) (ok : Int → Bool) (sg : Bool) : ∀ (l : List Int) (i : Nat) (X n k e : Int), scan m ok sg l i X = (n, k, e) → (i : Int) ≤ k ∧ k ≤ i + l.length ∧ (e = 0 ∨ e = 3 ∨ e = 4) ∧ (e = 0 → (i : Int) < k)
  | [], i, X, n, k, e, h => by
    simp only [scan, Prod.mk.injEq] at h
    obtain ⟨_, rfl, rfl⟩ := h
    simp
  | c :: r, i, X, n, k, e, h => by
    rw [scan] at h
    split at h
    · simp only [Prod.mk.injEq] at h
      obtain ⟨_, rfl, rfl⟩ := h
      simp
      omega
    · split at h
      · simp only [Prod.mk.injEq] at h
        obtain ⟨_, rfl, rfl⟩ := h
        simp
        omega
      · obtain ⟨h1, h2, h3, h4⟩ := scan_in m ok sg r (i + 1) _ n k e h
        refine ⟨by omega, by simp; omega, h3, fun he => ?_⟩
        have := h4 he
        omega
theorem rd_ways {b : Nat} {sg : Bool} {l : List Int} {p : Nat} (hp : p ≤ l.length) :
    (∃ (n : Int) (q : Nat), rd b sg l p l.length = (n, (q : Int), 0) ∧ p < q ∧ q ≤ l.length) ∨
    (∃ (n : Int) (f e : Nat), rd b sg l p l.length = (n, (f : Int), (e : Int)) ∧ p ≤ f ∧ f ≤ l.length ∧ (e = 3 ∨ e = 4)) := by
  obtain ⟨n, k, e, h⟩ : ∃ n k e, scan ((b + 6) / 7 - 1) (okB (b - 7 * ((b + 6) / 7 - 1)) sg) sg (seg l p l.length) 0 0 = (n, k, e) := ⟨_, _, _, rfl⟩
  obtain ⟨h1, h2, h3, h4⟩ := scan_in _ _ _ _ 0 0 n k e h
  have hr := rd_in hp (Nat.le_refl _) h
  have hl : (seg l p l.length).length = l.length - p := by unfold seg; simp
  rw [hl] at h2
  rcases h3 with rfl | rfl | rfl
  · left
    have := h4 rfl
    exact ⟨n, (p + k).toNat, by rw [hr, Int.toNat_of_nonneg (by omega)], by omega, by omega⟩
  · right
    exact ⟨n, (p + k).toNat, 3, by rw [hr, Int.toNat_of_nonneg (by omega)]; rfl, by omega, by omega, Or.inl rfl⟩
  · right
    exact ⟨n, (p + k).toNat, 4, by rw [hr, Int.toNat_of_nonneg (by omega)]; rfl, by omega, by omega, Or.inr rfl⟩
/- A number of 32 bits is below 2^32. -/
theorem scan_32 : ∀ (l : List Int) (i : Nat) (X n k : Int), i ≤ 4 → 0 ≤ X → X < 2 ^ (7 * i) → (∀ c ∈ l, 0 ≤ c) → scan 4 (okB 4 false) false l i X = (n, k, 0) → 0 ≤ n ∧ n < 4294967296
  | [], i, X, n, k, hi, h0, hX, hl, h => by simp [scan] at h
  | c :: r, i, X, n, k, hi, h0, hX, hl, h => by
    have hc0 : 0 ≤ c := hl c (by simp)
    rw [scan] at h
    split at h
    · simp at h
    · rename_i h1
      split at h
      · rename_i h2
        simp only [Prod.mk.injEq] at h
        obtain ⟨rfl, _, _⟩ := h
        have hw : ws (addAt X c i) (7 * i + 7) false = addAt X c i := by simp [ws]
        rw [hw]
        refine ⟨addAt_lo i h0, ?_⟩
        rcases Nat.lt_or_ge i 4 with h3 | h3
        · have := addAt_hi (c := c) hX (show i ≤ 8 by omega)
          have hp : (2 : Int) ^ (7 * (i + 1)) ≤ 2 ^ 28 := by
            have : i = 0 ∨ i = 1 ∨ i = 2 ∨ i = 3 := by omega
            rcases this with rfl | rfl | rfl | rfl <;> decide
          have e28 : (2 : Int) ^ 28 = 268435456 := by decide
          omega
        · obtain rfl : i = 4 := by omega
          have hk : okB 4 false c = true := by
            cases ho : okB 4 false c with
            | true => rfl
            | false => exact absurd ⟨rfl, ho⟩ h1
          have hc : c < 16 := by
            unfold okB at hk
            simp at hk
            omega
          have e28 : (2 : Int) ^ (7 * 4) = 268435456 := by decide
          unfold addAt
          rw [e28] at hX ⊢
          omega
      · rename_i h2
        rcases Nat.lt_or_ge i 4 with h3 | h3
        · exact scan_32 r (i + 1) _ n k (by omega) (addAt_lo i h0) (addAt_hi hX (by omega)) (fun c hc => hl c (by simp [hc])) h
        · obtain rfl : i = 4 := by omega
          exfalso
          have hk : okB 4 false c = false := by
            cases ho : okB 4 false c with
            | false => rfl
            | true => exact absurd (okB_lt ho) h2
          exact h1 ⟨rfl, hk⟩
theorem rd_32 {l : List Int} (hb : ∀ j, 0 ≤ l.getD j 0 ∧ l.getD j 0 ≤ 255) {x y n q : Int} (h : rd 32 false l x y = (n, q, 0)) : 0 ≤ n ∧ n < 4294967296 := by
  by_cases hin : 0 ≤ x ∧ x ≤ y ∧ y ≤ l.length
  · unfold rd at h
    rw [if_pos hin] at h
    simp only [Prod.mk.injEq] at h
    obtain ⟨h1, h2, h3⟩ := h
    obtain ⟨a, k, e, hs⟩ : ∃ n k e, scan ((32 + 6) / 7 - 1) (okB (32 - 7 * ((32 + 6) / 7 - 1)) false) false (seg l x.toNat y.toNat) 0 0 = (n, k, e) := ⟨_, _, _, rfl⟩
    rw [hs] at h1 h3
    simp only at h1 h3
    subst h1
    subst h3
    refine scan_32 (seg l x.toNat y.toNat) 0 0 a k (by omega) (by omega) (by decide) ?_ hs
    intro c hc
    unfold seg at hc
    have hc' : c ∈ l := List.mem_of_mem_take (List.mem_of_mem_drop hc)
    obtain ⟨j, hj, rfl⟩ := List.getElem_of_mem hc'
    have := (hb j).1
    rwa [List.getD_eq_getElem?_getD, List.getElem?_eq_getElem hj] at this
  · rw [rd_out hin] at h; simp at h
end Go.Proofs.YtohapnninjdlfaaGreatDoor

namespace Go.Proofs.YtohapnninjdlfaaGreatDoor
set_option linter.unusedVariables false
set_option linter.unusedSimpArgs false

/- Bytes, each with the kind of what it stands for, and which of that kind it is. -/
def codeL : List (Int × Int × Int) := [(127, 1, 1), (126, 1, 2), (125, 1, 3), (124, 1, 4), (123, 2, 0), (120, 3, 6), (119, 3, 7), (116, 4, -12), (115, 4, -2), (114, 4, -4), (113, 4, -10), (112, 4, -1), (111, 4, -3), (110, 4, -5), (109, 4, -6), (108, 4, -7), (107, 4, -8), (106, 4, -9), (105, 4, -11), (100, 5, 0), (99, 5, 1), (96, 6, 1), (95, 6, 2), (94, 6, 3)]
def findC (c : Int) : List (Int × Int × Int) → Int × Int
  | [] => (0, 0)
  | x :: r => if x.1 = c then x.2 else findC c r
/- The kind of a byte, and which of that kind it is. -/
def mean (c : Int) : Int × Int := findC c codeL
def findW (k n : Int) : List (Int × Int × Int) → Option Int
  | [] => none
  | x :: r => if x.2.1 = k ∧ x.2.2 = n then some x.1 else findW k n r
def codeW (k n : Int) : Option Int := findW k n codeL

def mapR {α β : Type} (f : α → β) : RS α → RS β
  | .error e => .error e
  | .ok (a, q) => .ok (f a, q)
def thenR {α β : Type} (r : RS α) (k : α → Nat → RS β) : RS β := match r with
  | .error e => .error e
  | .ok (a, q) => k a q
/- A number. -/
def numR (b : Nat) (sg : Bool) (l : List Int) (p : Nat) : RS Int :=
  if (rd b sg l p l.length).2.2 = 0 then .ok ((rd b sg l p l.length).1, (rd b sg l p l.length).2.1.toNat)
  else .error ((rd b sg l p l.length).2.1.toNat, (rd b sg l p l.length).2.2.toNat)
/- A number of 64 bits, taken with its sign. -/
def sg64 (n : Int) : Int := (n + 9223372036854775808) % 18446744073709551616 - 9223372036854775808
/- A defined type's number, unsigned; signed. -/
def limR (p : Nat) (m : Int) (r : RS Int) : RS Int := match r with
  | .error e => .error e
  | .ok (n, q) => if m < n then .error (p, 2) else .ok (n, q)
def tyU (l : List Int) (p : Nat) : RS Int := limR p 2147483647 (numR 32 false l p)
def tyS (l : List Int) (p : Nat) : RS Int := match numR 33 true l p with
  | .error e => .error e
  | .ok (n, q) => if sg64 n < 0 then .error (p, 4) else if 2147483647 < sg64 n then .error (p, 2) else .ok (sg64 n, q)
/- A byte. -/
def atR {α : Type} (l : List Int) (p : Nat) (k : Int → RS α) : RS α := if p < l.length then k (l.getD p 0) else .error (p, 3)
def belowR (e : Int) (l : List Int) (p : Nat) : RS Int := atR l p fun c => if e ≤ c then .error (p, 4) else .ok (c, p + 1)
def flagR (l : List Int) (p : Nat) : RS Bool := mapR (fun c => decide (c = 1)) (belowR 2 l p)
def heapR (l : List Int) (p : Nat) : RS Int := atR l p fun c => if (mean c).1 = 4 then .ok ((mean c).2, p + 1) else tyS l p
def refR (l : List Int) (p : Nat) : RS VT := atR l p fun c =>
  if (mean c).1 = 4 then .ok (⟨5, true, (mean c).2⟩, p + 1)
  else if (mean c).1 = 5 then mapR (fun h => ⟨5, decide ((mean c).2 = 1), h⟩) (heapR l (p + 1))
  else .error (p, 4)
def valR (l : List Int) (p : Nat) : RS VT := atR l p fun c =>
  if (mean c).1 = 2 then .error (p, 8)
  else if (mean c).1 = 1 then .ok (⟨(mean c).2, false, 0⟩, p + 1)
  else refR l p
def storR (l : List Int) (p : Nat) : RS VT := atR l p fun c =>
  if (mean c).1 = 3 then .ok (⟨(mean c).2, false, 0⟩, p + 1) else valR l p
def blockR (l : List Int) (p : Nat) : RS BK := atR l p fun c =>
  if c = 64 then .ok (⟨-1, ⟨0, false, 0⟩⟩, p + 1)
  else if (mean c).1 = 1 ∨ (mean c).1 = 2 ∨ (mean c).1 = 4 ∨ (mean c).1 = 5 then mapR (fun v => ⟨-1, v⟩) (valR l p)
  else mapR (fun n => ⟨n, ⟨0, false, 0⟩⟩) (tyS l p)
def fieldR (l : List Int) (p : Nat) : RS FT := thenR (storR l p) fun v q => mapR (fun m => ⟨v, m⟩) (flagR l q)
/- So many, one behind another. -/
def manyR {α : Type} (rd : Nat → RS α) : Nat → List α → Nat → RS (List α)
  | 0, acc, p => .ok (acc, p)
  | n + 1, acc, p => thenR (rd p) fun a q => manyR rd n (acc ++ [a]) q
/- How many, and these. -/
def listR {α : Type} (lim : Int) (rd : Nat → RS α) (l : List Int) (p : Nat) : RS (List α) :=
  thenR (limR p lim (numR 32 false l p)) fun n q => manyR rd n.toNat [] q
def valsR (l : List Int) (p : Nat) : RS (List VT) := listR 1000 (valR l) l p
def compR (l : List Int) (p : Nat) : RS CT := atR l p fun c =>
  if (mean c).1 ≠ 6 then .error (p, 4)
  else if (mean c).2 = 1 then thenR (valsR l (p + 1)) fun ps q => mapR (fun rs => ⟨1, ps, rs, []⟩) (valsR l q)
  else if (mean c).2 = 2 then mapR (fun fs => ⟨2, [], [], fs⟩) (listR 10000 (fieldR l) l (p + 1))
  else mapR (fun f => ⟨3, [], [], [f]⟩) (fieldR l (p + 1))
def subR (l : List Int) (p : Nat) : RS SB := atR l p fun c =>
  if c = 80 ∨ c = 79 then thenR (listR 1000 (tyU l) l (p + 1)) fun ss q => mapR (fun t => ⟨decide (c = 79), ss, t⟩) (compR l q)
  else mapR (fun t => ⟨true, [], t⟩) (compR l p)
def recR (l : List Int) (p : Nat) : RS RT := atR l p fun c =>
  if c = 78 then mapR (fun ts => ⟨ts, true⟩) (listR 10000 (subR l) l (p + 1))
  else mapR (fun t => ⟨[t], false⟩) (subR l p)

/- Each reading goes on, within the bytes; its faults lie within. -/
def Adv {α : Type} (l : List Int) (rd : Nat → RS α) : Prop := ∀ p, p ≤ l.length → (∀ a q, rd p = .ok (a, q) → p < q ∧ q ≤ l.length) ∧ (∀ f e, rd p = .error (f, e) → f ≤ l.length ∧ 0 < e ∧ e ≤ 8)
theorem mapR_ok {α β : Type} {f : α → β} {r : RS α} {b : β} {q : Nat} (h : mapR f r = .ok (b, q)) : ∃ a, r = .ok (a, q) ∧ b = f a := by
  cases r with
  | error e => cases h
  | ok x =>
    obtain ⟨a, q'⟩ := x
    simp only [mapR, Except.ok.injEq, Prod.mk.injEq] at h
    exact ⟨a, by rw [h.2], h.1.symm⟩
theorem mapR_er {α β : Type} {f : α → β} {r : RS α} {e : Nat × Nat} (h : mapR f r = .error e) : r = .error e := by
  cases r with
  | error e' => simpa [mapR] using h
  | ok x => cases h
theorem numR_ways {b : Nat} {sg : Bool} {l : List Int} {p : Nat} (hp : p ≤ l.length) :
    (∃ (n : Int) (q : Nat), rd b sg l p l.length = (n, (q : Int), 0) ∧ p < q ∧ q ≤ l.length ∧ numR b sg l p = .ok (n, q)) ∨
    (∃ (n : Int) (f e : Nat), rd b sg l p l.length = (n, (f : Int), (e : Int)) ∧ p ≤ f ∧ f ≤ l.length ∧ (e = 3 ∨ e = 4) ∧ numR b sg l p = .error (f, e)) := by
  rcases rd_ways (b := b) (sg := sg) hp with ⟨n, q, h, h1, h2⟩ | ⟨n, f, e, h, h1, h2, h3⟩
  · refine Or.inl ⟨n, q, h, h1, h2, ?_⟩
    unfold numR
    rw [h]
    simp
  · refine Or.inr ⟨n, f, e, h, h1, h2, h3, ?_⟩
    unfold numR
    rw [h]
    have : ¬ (e = 0) := by omega
    simp [this]
theorem num_adv (b : Nat) (sg : Bool) (l : List Int) : Adv l (numR b sg l) := by
  intro p hp
  rcases numR_ways (b := b) (sg := sg) hp with ⟨n, q, h, h1, h2, h3⟩ | ⟨n, f, e, h, h1, h2, h3, h4⟩
  · rw [h3]
    exact ⟨fun a q' h => by simp only [Except.ok.injEq, Prod.mk.injEq] at h; omega, fun f e h => by cases h⟩
  · rw [h4]
    exact ⟨fun a q' h => (by cases h), fun f' e' h => by simp only [Except.error.injEq, Prod.mk.injEq] at h; omega⟩
theorem lim_adv {l : List Int} {m : Int} {rd : Nat → RS Int} (h : Adv l rd) : Adv l (fun p => limR p m (rd p)) := by
  intro p hp
  obtain ⟨h1, h2⟩ := h p hp
  refine ⟨fun a q hr => ?_, fun f e hr => ?_⟩
  · simp only at hr
    cases hx : rd p with
    | error e => rw [hx] at hr; cases hr
    | ok x =>
      obtain ⟨n, q'⟩ := x
      rw [hx] at hr
      simp only [limR] at hr
      split at hr
      · cases hr
      · simp only [Except.ok.injEq, Prod.mk.injEq] at hr
        exact hr.2 ▸ h1 n q' hx
  · simp only at hr
    cases hx : rd p with
    | error e' => rw [hx] at hr; simp only [limR, Except.error.injEq] at hr; subst hr; exact h2 f e hx
    | ok x =>
      obtain ⟨n, q'⟩ := x
      rw [hx] at hr
      simp only [limR] at hr
      split at hr
      · simp only [Except.error.injEq, Prod.mk.injEq] at hr
        omega
      · cases hr
theorem tyU_adv (l : List Int) : Adv l (tyU l) := lim_adv (num_adv 32 false l)
theorem tyS_adv (l : List Int) : Adv l (tyS l) := by
  intro p hp
  obtain ⟨h1, h2⟩ := num_adv 33 true l p hp
  unfold tyS
  cases hx : numR 33 true l p with
  | error e' => exact ⟨fun a q h => (by cases h), fun f e h => by simp only [Except.error.injEq] at h; subst h; exact h2 f e hx⟩
  | ok x =>
    obtain ⟨n, q'⟩ := x
    simp only
    split
    · exact ⟨fun a q h => (by cases h), fun f e h => by simp only [Except.error.injEq, Prod.mk.injEq] at h; omega⟩
    · split
      · exact ⟨fun a q h => (by cases h), fun f e h => by simp only [Except.error.injEq, Prod.mk.injEq] at h; omega⟩
      · exact ⟨fun a q h => by simp only [Except.ok.injEq, Prod.mk.injEq] at h; exact h.2 ▸ h1 n q' hx, fun f e h => by cases h⟩
def In {α : Type} (l : List Int) (p : Nat) (r : RS α) : Prop := (∀ a q, r = .ok (a, q) → p < q ∧ q ≤ l.length) ∧ (∀ f e, r = .error (f, e) → f ≤ l.length ∧ 0 < e ∧ e ≤ 8)
theorem In.er {α : Type} {l : List Int} {p f e : Nat} (hf : f ≤ l.length) (h0 : 0 < e) (h8 : e ≤ 8) : In (α := α) l p (.error (f, e)) :=
  ⟨fun a q h => (by cases h), fun f' e' h => by simp only [Except.error.injEq, Prod.mk.injEq] at h; omega⟩
theorem In.ok {α : Type} {l : List Int} {p q : Nat} {a : α} (h1 : p < q) (h2 : q ≤ l.length) : In l p (.ok (a, q)) :=
  ⟨fun a q' h => by simp only [Except.ok.injEq, Prod.mk.injEq] at h; omega, fun f' e' h => by cases h⟩
theorem In.map {α β : Type} {l : List Int} {p p' : Nat} {r : RS α} (h : In l p r) (hp : p' ≤ p) (f : α → β) : In l p' (mapR f r) := by
  cases r with
  | error e =>
    obtain ⟨x, e⟩ := e
    have := h.2 x e rfl
    exact In.er this.1 this.2.1 this.2.2
  | ok x =>
    obtain ⟨a, q⟩ := x
    have := h.1 a q rfl
    exact In.ok (by omega) this.2
theorem In.thn {α β : Type} {l : List Int} {p p' : Nat} {r : RS α} (h : In l p r) (hp : p' ≤ p) {k : α → Nat → RS β} (hk : ∀ a q, p < q → q ≤ l.length → In l q (k a q) ∨ In l p (k a q)) : In l p' (thenR r k) := by
  cases r with
  | error e =>
    obtain ⟨x, e⟩ := e
    have := h.2 x e rfl
    exact In.er this.1 this.2.1 this.2.2
  | ok x =>
    obtain ⟨a, q⟩ := x
    have hq := h.1 a q rfl
    rcases hk a q hq.1 hq.2 with h' | h'
    · exact ⟨fun b q' hb => by have := h'.1 b q' hb; omega, h'.2⟩
    · exact ⟨fun b q' hb => by have := h'.1 b q' hb; omega, h'.2⟩
theorem In.at_ {α : Type} {l : List Int} {p : Nat} {k : Int → RS α} (hp : p ≤ l.length) (h : ∀ c, p < l.length → In l p (k c)) : In l p (atR l p k) := by
  unfold atR
  split
  · exact h _ (by assumption)
  · exact In.er hp (by omega) (by omega)
theorem below_adv (e : Int) (l : List Int) : Adv l (belowR e l) := fun p hp => In.at_ hp fun c hc => by
  split
  · exact In.er hp (by omega) (by omega)
  · exact In.ok (by omega) (by omega)
theorem flag_adv (l : List Int) : Adv l (flagR l) := fun p hp => In.map (below_adv 2 l p hp) (Nat.le_refl _) _
theorem heap_adv (l : List Int) : Adv l (heapR l) := fun p hp => In.at_ hp fun c hc => by
  split
  · exact In.ok (by omega) (by omega)
  · exact tyS_adv l p hp
theorem ref_adv (l : List Int) : Adv l (refR l) := fun p hp => In.at_ hp fun c hc => by
  split
  · exact In.ok (by omega) (by omega)
  · split
    · exact In.map (heap_adv l (p + 1) (by omega)) (by omega) _
    · exact In.er hp (by omega) (by omega)
theorem val_adv (l : List Int) : Adv l (valR l) := fun p hp => In.at_ hp fun c hc => by
  split
  · exact In.er hp (by omega) (by omega)
  · split
    · exact In.ok (by omega) (by omega)
    · exact ref_adv l p hp
theorem stor_adv (l : List Int) : Adv l (storR l) := fun p hp => In.at_ hp fun c hc => by
  split
  · exact In.ok (by omega) (by omega)
  · exact val_adv l p hp
theorem block_adv (l : List Int) : Adv l (blockR l) := fun p hp => In.at_ hp fun c hc => by
  split
  · exact In.ok (by omega) (by omega)
  · split
    · exact In.map (val_adv l p hp) (Nat.le_refl _) _
    · exact In.map (tyS_adv l p hp) (Nat.le_refl _) _
theorem field_adv (l : List Int) : Adv l (fieldR l) := fun p hp => In.thn (stor_adv l p hp) (Nat.le_refl _) fun a q h1 h2 => Or.inl (In.map (flag_adv l q h2) (Nat.le_refl _) _)
theorem many_in {α : Type} {l : List Int} {rd : Nat → RS α} (h : Adv l rd) : ∀ (n : Nat) (acc : List α) (p p0 : Nat), p0 < p → p ≤ l.length → In l p0 (manyR rd n acc p)
  | 0, acc, p, p0, h0, hp => In.ok h0 hp
  | n + 1, acc, p, p0, h0, hp => by
    rw [manyR]
    have := h p hp
    cases hx : rd p with
    | error e =>
      obtain ⟨f, e⟩ := e
      have := this.2 f e hx
      exact In.er this.1 this.2.1 this.2.2
    | ok x =>
      obtain ⟨a, q⟩ := x
      have := this.1 a q hx
      exact many_in h n _ q p0 (by omega) this.2
theorem list_adv {α : Type} (lim : Int) {rd : Nat → RS α} (l : List Int) (h : Adv l rd) : Adv l (listR lim rd l) := fun p hp =>
  In.thn (lim_adv (num_adv 32 false l) p hp) (Nat.le_refl _) fun n q h1 h2 => Or.inr (many_in h _ _ q p h1 h2)
theorem vals_adv (l : List Int) : Adv l (valsR l) := list_adv 1000 l (val_adv l)
theorem comp_adv (l : List Int) : Adv l (compR l) := fun p hp => In.at_ hp fun c hc => by
  split
  · exact In.er hp (by omega) (by omega)
  · split
    · exact In.thn (vals_adv l (p + 1) (by omega)) (by omega) fun a q h1 h2 => Or.inl (In.map (vals_adv l q h2) (Nat.le_refl _) _)
    · split
      · exact In.map (list_adv 10000 l (field_adv l) (p + 1) (by omega)) (by omega) _
      · exact In.map (field_adv l (p + 1) (by omega)) (by omega) _
theorem sub_adv (l : List Int) : Adv l (subR l) := fun p hp => In.at_ hp fun c hc => by
  split
  · exact In.thn (list_adv 1000 l (tyU_adv l) (p + 1) (by omega)) (by omega) fun a q h1 h2 => Or.inl (In.map (comp_adv l q h2) (Nat.le_refl _) _)
  · exact In.map (comp_adv l p hp) (Nat.le_refl _) _
theorem rec_adv (l : List Int) : Adv l (recR l) := fun p hp => In.at_ hp fun c hc => by
  split
  · exact In.map (list_adv 10000 l (sub_adv l) (p + 1) (by omega)) (by omega) _
  · exact In.map (sub_adv l p hp) (Nat.le_refl _) _
end Go.Proofs.YtohapnninjdlfaaGreatDoor

namespace Go.Proofs.YtohapnninjdlfaaGreatDoor
set_option linter.unusedVariables false

def RL : List (Int × List UInt8 × List UInt8) := [
  (0, [], [117, 110, 114, 101, 97, 99, 104, 97, 98, 108, 101, 32, 110, 111, 112, 32, 98, 108, 111, 99, 107, 32, 108, 111, 111, 112, 32, 105, 102, 32, 101, 108, 115, 101]),
  (8, [], [116, 104, 114, 111, 119]),
  (10, [], [116, 104, 114, 111, 119, 95, 114, 101, 102, 32, 101, 110, 100, 32, 98, 114, 32, 98, 114, 95, 105, 102, 32, 98, 114, 95, 116, 97, 98, 108, 101, 32, 114, 101, 116, 117, 114, 110, 32, 99, 97, 108, 108, 32, 99, 97, 108, 108, 95, 105, 110, 100, 105, 114, 101, 99, 116, 32, 114, 101, 116, 117, 114, 110, 95, 99, 97, 108, 108, 32, 114, 101, 116, 117, 114, 110, 95, 99, 97, 108, 108, 95, 105, 110, 100, 105, 114, 101, 99, 116, 32, 99, 97, 108, 108, 95, 114, 101, 102, 32, 114, 101, 116, 117, 114, 110, 95, 99, 97, 108, 108, 95, 114, 101, 102]),
  (26, [], [100, 114, 111, 112, 32, 115, 101, 108, 101, 99, 116, 32, 115, 101, 108, 101, 99, 116, 95, 116]),
  (31, [], [116, 114, 121, 95, 116, 97, 98, 108, 101, 32, 108, 111, 99, 97, 108, 46, 103, 101, 116, 32, 108, 111, 99, 97, 108, 46, 115, 101, 116, 32, 108, 111, 99, 97, 108, 46, 116, 101, 101, 32, 103, 108, 111, 98, 97, 108, 46, 103, 101, 116, 32, 103, 108, 111, 98, 97, 108, 46, 115, 101, 116, 32, 116, 97, 98, 108, 101, 46, 103, 101, 116, 32, 116, 97, 98, 108, 101, 46, 115, 101, 116]),
  (40, [], [105, 51, 50, 46, 108, 111, 97, 100, 32, 105, 54, 52, 46, 108, 111, 97, 100, 32, 102, 51, 50, 46, 108, 111, 97, 100, 32, 102, 54, 52, 46, 108, 111, 97, 100, 32, 105, 51, 50, 46, 108, 111, 97, 100, 56, 95, 115, 32, 105, 51, 50, 46, 108, 111, 97, 100, 56, 95, 117, 32, 105, 51, 50, 46, 108, 111, 97, 100, 49, 54, 95, 115, 32, 105, 51, 50, 46, 108, 111, 97, 100, 49, 54, 95, 117, 32, 105, 54, 52, 46, 108, 111, 97, 100, 56, 95, 115, 32, 105, 54, 52, 46, 108, 111, 97, 100, 56, 95, 117, 32, 105, 54, 52, 46, 108, 111, 97, 100, 49, 54, 95, 115, 32, 105, 54, 52, 46, 108, 111, 97, 100, 49, 54, 95, 117, 32, 105, 54, 52, 46, 108, 111, 97, 100, 51, 50, 95, 115, 32, 105, 54, 52, 46, 108, 111, 97, 100, 51, 50, 95, 117]),
  (54, [], [105, 51, 50, 46, 115, 116, 111, 114, 101, 32, 105, 54, 52, 46, 115, 116, 111, 114, 101, 32, 102, 51, 50, 46, 115, 116, 111, 114, 101, 32, 102, 54, 52, 46, 115, 116, 111, 114, 101, 32, 105, 51, 50, 46, 115, 116, 111, 114, 101, 56, 32, 105, 51, 50, 46, 115, 116, 111, 114, 101, 49, 54, 32, 105, 54, 52, 46, 115, 116, 111, 114, 101, 56, 32, 105, 54, 52, 46, 115, 116, 111, 114, 101, 49, 54, 32, 105, 54, 52, 46, 115, 116, 111, 114, 101, 51, 50]),
  (63, [109, 101, 109, 111, 114, 121, 46], [115, 105, 122, 101, 32, 103, 114, 111, 119]),
  (65, [], [105, 51, 50, 46, 99, 111, 110, 115, 116, 32, 105, 54, 52, 46, 99, 111, 110, 115, 116, 32, 102, 51, 50, 46, 99, 111, 110, 115, 116, 32, 102, 54, 52, 46, 99, 111, 110, 115, 116]),
  (69, [105, 51, 50, 46], [101, 113, 122, 32, 101, 113, 32, 110, 101, 32, 108, 116, 95, 115, 32, 108, 116, 95, 117, 32, 103, 116, 95, 115, 32, 103, 116, 95, 117, 32, 108, 101, 95, 115, 32, 108, 101, 95, 117, 32, 103, 101, 95, 115, 32, 103, 101, 95, 117]),
  (80, [105, 54, 52, 46], [101, 113, 122, 32, 101, 113, 32, 110, 101, 32, 108, 116, 95, 115, 32, 108, 116, 95, 117, 32, 103, 116, 95, 115, 32, 103, 116, 95, 117, 32, 108, 101, 95, 115, 32, 108, 101, 95, 117, 32, 103, 101, 95, 115, 32, 103, 101, 95, 117]),
  (91, [102, 51, 50, 46], [101, 113, 32, 110, 101, 32, 108, 116, 32, 103, 116, 32, 108, 101, 32, 103, 101]),
  (97, [102, 54, 52, 46], [101, 113, 32, 110, 101, 32, 108, 116, 32, 103, 116, 32, 108, 101, 32, 103, 101]),
  (103, [105, 51, 50, 46], [99, 108, 122, 32, 99, 116, 122, 32, 112, 111, 112, 99, 110, 116, 32, 97, 100, 100, 32, 115, 117, 98, 32, 109, 117, 108, 32, 100, 105, 118, 95, 115, 32, 100, 105, 118, 95, 117, 32, 114, 101, 109, 95, 115, 32, 114, 101, 109, 95, 117, 32, 97, 110, 100, 32, 111, 114, 32, 120, 111, 114, 32, 115, 104, 108, 32, 115, 104, 114, 95, 115, 32, 115, 104, 114, 95, 117, 32, 114, 111, 116, 108, 32, 114, 111, 116, 114]),
  (121, [105, 54, 52, 46], [99, 108, 122, 32, 99, 116, 122, 32, 112, 111, 112, 99, 110, 116, 32, 97, 100, 100, 32, 115, 117, 98, 32, 109, 117, 108, 32, 100, 105, 118, 95, 115, 32, 100, 105, 118, 95, 117, 32, 114, 101, 109, 95, 115, 32, 114, 101, 109, 95, 117, 32, 97, 110, 100, 32, 111, 114, 32, 120, 111, 114, 32, 115, 104, 108, 32, 115, 104, 114, 95, 115, 32, 115, 104, 114, 95, 117, 32, 114, 111, 116, 108, 32, 114, 111, 116, 114]),
  (139, [102, 51, 50, 46], [97, 98, 115, 32, 110, 101, 103, 32, 99, 101, 105, 108, 32, 102, 108, 111, 111, 114, 32, 116, 114, 117, 110, 99, 32, 110, 101, 97, 114, 101, 115, 116, 32, 115, 113, 114, 116, 32, 97, 100, 100, 32, 115, 117, 98, 32, 109, 117, 108, 32, 100, 105, 118, 32, 109, 105, 110, 32, 109, 97, 120, 32, 99, 111, 112, 121, 115, 105, 103, 110]),
  (153, [102, 54, 52, 46], [97, 98, 115, 32, 110, 101, 103, 32, 99, 101, 105, 108, 32, 102, 108, 111, 111, 114, 32, 116, 114, 117, 110, 99, 32, 110, 101, 97, 114, 101, 115, 116, 32, 115, 113, 114, 116, 32, 97, 100, 100, 32, 115, 117, 98, 32, 109, 117, 108, 32, 100, 105, 118, 32, 109, 105, 110, 32, 109, 97, 120, 32, 99, 111, 112, 121, 115, 105, 103, 110]),
  (167, [105, 51, 50, 46], [119, 114, 97, 112, 95, 105, 54, 52, 32, 116, 114, 117, 110, 99, 95, 102, 51, 50, 95, 115, 32, 116, 114, 117, 110, 99, 95, 102, 51, 50, 95, 117, 32, 116, 114, 117, 110, 99, 95, 102, 54, 52, 95, 115, 32, 116, 114, 117, 110, 99, 95, 102, 54, 52, 95, 117]),
  (172, [105, 54, 52, 46], [101, 120, 116, 101, 110, 100, 95, 105, 51, 50, 95, 115, 32, 101, 120, 116, 101, 110, 100, 95, 105, 51, 50, 95, 117, 32, 116, 114, 117, 110, 99, 95, 102, 51, 50, 95, 115, 32, 116, 114, 117, 110, 99, 95, 102, 51, 50, 95, 117, 32, 116, 114, 117, 110, 99, 95, 102, 54, 52, 95, 115, 32, 116, 114, 117, 110, 99, 95, 102, 54, 52, 95, 117]),
  (178, [102, 51, 50, 46], [99, 111, 110, 118, 101, 114, 116, 95, 105, 51, 50, 95, 115, 32, 99, 111, 110, 118, 101, 114, 116, 95, 105, 51, 50, 95, 117, 32, 99, 111, 110, 118, 101, 114, 116, 95, 105, 54, 52, 95, 115, 32, 99, 111, 110, 118, 101, 114, 116, 95, 105, 54, 52, 95, 117, 32, 100, 101, 109, 111, 116, 101, 95, 102, 54, 52]),
  (183, [102, 54, 52, 46], [99, 111, 110, 118, 101, 114, 116, 95, 105, 51, 50, 95, 115, 32, 99, 111, 110, 118, 101, 114, 116, 95, 105, 51, 50, 95, 117, 32, 99, 111, 110, 118, 101, 114, 116, 95, 105, 54, 52, 95, 115, 32, 99, 111, 110, 118, 101, 114, 116, 95, 105, 54, 52, 95, 117, 32, 112, 114, 111, 109, 111, 116, 101, 95, 102, 51, 50]),
  (188, [], [105, 51, 50, 46, 114, 101, 105, 110, 116, 101, 114, 112, 114, 101, 116, 95, 102, 51, 50, 32, 105, 54, 52, 46, 114, 101, 105, 110, 116, 101, 114, 112, 114, 101, 116, 95, 102, 54, 52, 32, 102, 51, 50, 46, 114, 101, 105, 110, 116, 101, 114, 112, 114, 101, 116, 95, 105, 51, 50, 32, 102, 54, 52, 46, 114, 101, 105, 110, 116, 101, 114, 112, 114, 101, 116, 95, 105, 54, 52]),
  (192, [], [105, 51, 50, 46, 101, 120, 116, 101, 110, 100, 56, 95, 115, 32, 105, 51, 50, 46, 101, 120, 116, 101, 110, 100, 49, 54, 95, 115, 32, 105, 54, 52, 46, 101, 120, 116, 101, 110, 100, 56, 95, 115, 32, 105, 54, 52, 46, 101, 120, 116, 101, 110, 100, 49, 54, 95, 115, 32, 105, 54, 52, 46, 101, 120, 116, 101, 110, 100, 51, 50, 95, 115]),
  (208, [], [114, 101, 102, 46, 110, 117, 108, 108, 32, 114, 101, 102, 46, 105, 115, 95, 110, 117, 108, 108, 32, 114, 101, 102, 46, 102, 117, 110, 99, 32, 114, 101, 102, 46, 101, 113, 32, 114, 101, 102, 46, 97, 115, 95, 110, 111, 110, 95, 110, 117, 108, 108, 32, 98, 114, 95, 111, 110, 95, 110, 117, 108, 108, 32, 98, 114, 95, 111, 110, 95, 110, 111, 110, 95, 110, 117, 108, 108]),
  (64256, [115, 116, 114, 117, 99, 116, 46], [110, 101, 119, 32, 110, 101, 119, 95, 100, 101, 102, 97, 117, 108, 116, 32, 103, 101, 116, 32, 103, 101, 116, 95, 115, 32, 103, 101, 116, 95, 117, 32, 115, 101, 116]),
  (64262, [97, 114, 114, 97, 121, 46], [110, 101, 119, 32, 110, 101, 119, 95, 100, 101, 102, 97, 117, 108, 116, 32, 110, 101, 119, 95, 102, 105, 120, 101, 100, 32, 110, 101, 119, 95, 100, 97, 116, 97, 32, 110, 101, 119, 95, 101, 108, 101, 109, 32, 103, 101, 116, 32, 103, 101, 116, 95, 115, 32, 103, 101, 116, 95, 117, 32, 115, 101, 116, 32, 108, 101, 110, 32, 102, 105, 108, 108, 32, 99, 111, 112, 121, 32, 105, 110, 105, 116, 95, 100, 97, 116, 97, 32, 105, 110, 105, 116, 95, 101, 108, 101, 109]),
  (64276, [], [114, 101, 102, 46, 116, 101, 115, 116, 32, 114, 101, 102, 46, 116, 101, 115, 116, 95, 110, 117, 108, 108, 32, 114, 101, 102, 46, 99, 97, 115, 116, 32, 114, 101, 102, 46, 99, 97, 115, 116, 95, 110, 117, 108, 108, 32, 98, 114, 95, 111, 110, 95, 99, 97, 115, 116, 32, 98, 114, 95, 111, 110, 95, 99, 97, 115, 116, 95, 102, 97, 105, 108, 32, 97, 110, 121, 46, 99, 111, 110, 118, 101, 114, 116, 95, 101, 120, 116, 101, 114, 110, 32, 101, 120, 116, 101, 114, 110, 46, 99, 111, 110, 118, 101, 114, 116, 95, 97, 110, 121, 32, 114, 101, 102, 46, 105, 51, 49, 32, 105, 51, 49, 46, 103, 101, 116, 95, 115, 32, 105, 51, 49, 46, 103, 101, 116, 95, 117]),
  (64512, [105, 51, 50, 46], [116, 114, 117, 110, 99, 95, 115, 97, 116, 95, 102, 51, 50, 95, 115, 32, 116, 114, 117, 110, 99, 95, 115, 97, 116, 95, 102, 51, 50, 95, 117, 32, 116, 114, 117, 110, 99, 95, 115, 97, 116, 95, 102, 54, 52, 95, 115, 32, 116, 114, 117, 110, 99, 95, 115, 97, 116, 95, 102, 54, 52, 95, 117]),
  (64516, [105, 54, 52, 46], [116, 114, 117, 110, 99, 95, 115, 97, 116, 95, 102, 51, 50, 95, 115, 32, 116, 114, 117, 110, 99, 95, 115, 97, 116, 95, 102, 51, 50, 95, 117, 32, 116, 114, 117, 110, 99, 95, 115, 97, 116, 95, 102, 54, 52, 95, 115, 32, 116, 114, 117, 110, 99, 95, 115, 97, 116, 95, 102, 54, 52, 95, 117]),
  (64520, [], [109, 101, 109, 111, 114, 121, 46, 105, 110, 105, 116, 32, 100, 97, 116, 97, 46, 100, 114, 111, 112, 32, 109, 101, 109, 111, 114, 121, 46, 99, 111, 112, 121, 32, 109, 101, 109, 111, 114, 121, 46, 102, 105, 108, 108, 32, 116, 97, 98, 108, 101, 46, 105, 110, 105, 116, 32, 101, 108, 101, 109, 46, 100, 114, 111, 112, 32, 116, 97, 98, 108, 101, 46, 99, 111, 112, 121, 32, 116, 97, 98, 108, 101, 46, 103, 114, 111, 119, 32, 116, 97, 98, 108, 101, 46, 115, 105, 122, 101, 32, 116, 97, 98, 108, 101, 46, 102, 105, 108, 108])]
def TL : List (Int × List UInt8 × List UInt8 × List UInt8) := [
  (0, [], [117, 110, 114, 101, 97, 99, 104, 97, 98, 108, 101, 32, 110, 111, 112], [45]),
  (2, [], [98, 108, 111, 99, 107, 32, 108, 111, 111, 112, 32, 105, 102], [98, 108, 111, 99, 107]),
  (5, [], [101, 108, 115, 101], [45]),
  (8, [], [116, 104, 114, 111, 119], [120]),
  (10, [], [116, 104, 114, 111, 119, 95, 114, 101, 102, 32, 101, 110, 100], [45]),
  (12, [], [98, 114, 32, 98, 114, 95, 105, 102], [120]),
  (14, [], [98, 114, 95, 116, 97, 98, 108, 101], [116, 97, 98, 108, 101]),
  (15, [], [114, 101, 116, 117, 114, 110], [45]),
  (16, [], [99, 97, 108, 108], [120]),
  (17, [], [99, 97, 108, 108, 95, 105, 110, 100, 105, 114, 101, 99, 116], [120, 121]),
  (18, [], [114, 101, 116, 117, 114, 110, 95, 99, 97, 108, 108], [120]),
  (19, [], [114, 101, 116, 117, 114, 110, 95, 99, 97, 108, 108, 95, 105, 110, 100, 105, 114, 101, 99, 116], [120, 121]),
  (20, [], [99, 97, 108, 108, 95, 114, 101, 102, 32, 114, 101, 116, 117, 114, 110, 95, 99, 97, 108, 108, 95, 114, 101, 102], [120]),
  (26, [], [100, 114, 111, 112, 32, 115, 101, 108, 101, 99, 116], [45]),
  (28, [], [115, 101, 108, 101, 99, 116, 95, 116], [115, 101, 108, 101, 99, 116]),
  (31, [], [116, 114, 121, 95, 116, 97, 98, 108, 101], [116, 114, 121]),
  (32, [], [108, 111, 99, 97, 108, 46, 103, 101, 116, 32, 108, 111, 99, 97, 108, 46, 115, 101, 116, 32, 108, 111, 99, 97, 108, 46, 116, 101, 101, 32, 103, 108, 111, 98, 97, 108, 46, 103, 101, 116, 32, 103, 108, 111, 98, 97, 108, 46, 115, 101, 116, 32, 116, 97, 98, 108, 101, 46, 103, 101, 116, 32, 116, 97, 98, 108, 101, 46, 115, 101, 116], [120]),
  (40, [], [105, 51, 50, 46, 108, 111, 97, 100, 32, 105, 54, 52, 46, 108, 111, 97, 100, 32, 102, 51, 50, 46, 108, 111, 97, 100, 32, 102, 54, 52, 46, 108, 111, 97, 100, 32, 105, 51, 50, 46, 108, 111, 97, 100, 56, 95, 115, 32, 105, 51, 50, 46, 108, 111, 97, 100, 56, 95, 117, 32, 105, 51, 50, 46, 108, 111, 97, 100, 49, 54, 95, 115, 32, 105, 51, 50, 46, 108, 111, 97, 100, 49, 54, 95, 117, 32, 105, 54, 52, 46, 108, 111, 97, 100, 56, 95, 115, 32, 105, 54, 52, 46, 108, 111, 97, 100, 56, 95, 117, 32, 105, 54, 52, 46, 108, 111, 97, 100, 49, 54, 95, 115, 32, 105, 54, 52, 46, 108, 111, 97, 100, 49, 54, 95, 117, 32, 105, 54, 52, 46, 108, 111, 97, 100, 51, 50, 95, 115, 32, 105, 54, 52, 46, 108, 111, 97, 100, 51, 50, 95, 117, 32, 105, 51, 50, 46, 115, 116, 111, 114, 101, 32, 105, 54, 52, 46, 115, 116, 111, 114, 101, 32, 102, 51, 50, 46, 115, 116, 111, 114, 101, 32, 102, 54, 52, 46, 115, 116, 111, 114, 101, 32, 105, 51, 50, 46, 115, 116, 111, 114, 101, 56, 32, 105, 51, 50, 46, 115, 116, 111, 114, 101, 49, 54, 32, 105, 54, 52, 46, 115, 116, 111, 114, 101, 56, 32, 105, 54, 52, 46, 115, 116, 111, 114, 101, 49, 54, 32, 105, 54, 52, 46, 115, 116, 111, 114, 101, 51, 50], [109, 101, 109]),
  (63, [], [109, 101, 109, 111, 114, 121, 46, 115, 105, 122, 101, 32, 109, 101, 109, 111, 114, 121, 46, 103, 114, 111, 119], [120]),
  (65, [], [105, 51, 50, 46, 99, 111, 110, 115, 116], [105, 51, 50]),
  (66, [], [105, 54, 52, 46, 99, 111, 110, 115, 116], [105, 54, 52]),
  (67, [], [102, 51, 50, 46, 99, 111, 110, 115, 116], [102, 51, 50]),
  (68, [], [102, 54, 52, 46, 99, 111, 110, 115, 116], [102, 54, 52]),
  (69, [105, 51, 50, 46], [101, 113, 122, 32, 101, 113, 32, 110, 101, 32, 108, 116, 95, 115, 32, 108, 116, 95, 117, 32, 103, 116, 95, 115, 32, 103, 116, 95, 117, 32, 108, 101, 95, 115, 32, 108, 101, 95, 117, 32, 103, 101, 95, 115, 32, 103, 101, 95, 117], [45]),
  (80, [105, 54, 52, 46], [101, 113, 122, 32, 101, 113, 32, 110, 101, 32, 108, 116, 95, 115, 32, 108, 116, 95, 117, 32, 103, 116, 95, 115, 32, 103, 116, 95, 117, 32, 108, 101, 95, 115, 32, 108, 101, 95, 117, 32, 103, 101, 95, 115, 32, 103, 101, 95, 117], [45]),
  (91, [102, 51, 50, 46], [101, 113, 32, 110, 101, 32, 108, 116, 32, 103, 116, 32, 108, 101, 32, 103, 101], [45]),
  (97, [102, 54, 52, 46], [101, 113, 32, 110, 101, 32, 108, 116, 32, 103, 116, 32, 108, 101, 32, 103, 101], [45]),
  (103, [105, 51, 50, 46], [99, 108, 122, 32, 99, 116, 122, 32, 112, 111, 112, 99, 110, 116, 32, 97, 100, 100, 32, 115, 117, 98, 32, 109, 117, 108, 32, 100, 105, 118, 95, 115, 32, 100, 105, 118, 95, 117, 32, 114, 101, 109, 95, 115, 32, 114, 101, 109, 95, 117, 32, 97, 110, 100, 32, 111, 114, 32, 120, 111, 114, 32, 115, 104, 108, 32, 115, 104, 114, 95, 115, 32, 115, 104, 114, 95, 117, 32, 114, 111, 116, 108, 32, 114, 111, 116, 114], [45]),
  (121, [105, 54, 52, 46], [99, 108, 122, 32, 99, 116, 122, 32, 112, 111, 112, 99, 110, 116, 32, 97, 100, 100, 32, 115, 117, 98, 32, 109, 117, 108, 32, 100, 105, 118, 95, 115, 32, 100, 105, 118, 95, 117, 32, 114, 101, 109, 95, 115, 32, 114, 101, 109, 95, 117, 32, 97, 110, 100, 32, 111, 114, 32, 120, 111, 114, 32, 115, 104, 108, 32, 115, 104, 114, 95, 115, 32, 115, 104, 114, 95, 117, 32, 114, 111, 116, 108, 32, 114, 111, 116, 114], [45]),
  (139, [102, 51, 50, 46], [97, 98, 115, 32, 110, 101, 103, 32, 99, 101, 105, 108, 32, 102, 108, 111, 111, 114, 32, 116, 114, 117, 110, 99, 32, 110, 101, 97, 114, 101, 115, 116, 32, 115, 113, 114, 116, 32, 97, 100, 100, 32, 115, 117, 98, 32, 109, 117, 108, 32, 100, 105, 118, 32, 109, 105, 110, 32, 109, 97, 120, 32, 99, 111, 112, 121, 115, 105, 103, 110], [45]),
  (153, [102, 54, 52, 46], [97, 98, 115, 32, 110, 101, 103, 32, 99, 101, 105, 108, 32, 102, 108, 111, 111, 114, 32, 116, 114, 117, 110, 99, 32, 110, 101, 97, 114, 101, 115, 116, 32, 115, 113, 114, 116, 32, 97, 100, 100, 32, 115, 117, 98, 32, 109, 117, 108, 32, 100, 105, 118, 32, 109, 105, 110, 32, 109, 97, 120, 32, 99, 111, 112, 121, 115, 105, 103, 110], [45]),
  (167, [105, 51, 50, 46], [119, 114, 97, 112, 95, 105, 54, 52, 32, 116, 114, 117, 110, 99, 95, 102, 51, 50, 95, 115, 32, 116, 114, 117, 110, 99, 95, 102, 51, 50, 95, 117, 32, 116, 114, 117, 110, 99, 95, 102, 54, 52, 95, 115, 32, 116, 114, 117, 110, 99, 95, 102, 54, 52, 95, 117], [45]),
  (172, [105, 54, 52, 46], [101, 120, 116, 101, 110, 100, 95, 105, 51, 50, 95, 115, 32, 101, 120, 116, 101, 110, 100, 95, 105, 51, 50, 95, 117, 32, 116, 114, 117, 110, 99, 95, 102, 51, 50, 95, 115, 32, 116, 114, 117, 110, 99, 95, 102, 51, 50, 95, 117, 32, 116, 114, 117, 110, 99, 95, 102, 54, 52, 95, 115, 32, 116, 114, 117, 110, 99, 95, 102, 54, 52, 95, 117], [45]),
  (178, [102, 51, 50, 46], [99, 111, 110, 118, 101, 114, 116, 95, 105, 51, 50, 95, 115, 32, 99, 111, 110, 118, 101, 114, 116, 95, 105, 51, 50, 95, 117, 32, 99, 111, 110, 118, 101, 114, 116, 95, 105, 54, 52, 95, 115, 32, 99, 111, 110, 118, 101, 114, 116, 95, 105, 54, 52, 95, 117, 32, 100, 101, 109, 111, 116, 101, 95, 102, 54, 52], [45]),
  (183, [102, 54, 52, 46], [99, 111, 110, 118, 101, 114, 116, 95, 105, 51, 50, 95, 115, 32, 99, 111, 110, 118, 101, 114, 116, 95, 105, 51, 50, 95, 117, 32, 99, 111, 110, 118, 101, 114, 116, 95, 105, 54, 52, 95, 115, 32, 99, 111, 110, 118, 101, 114, 116, 95, 105, 54, 52, 95, 117, 32, 112, 114, 111, 109, 111, 116, 101, 95, 102, 51, 50], [45]),
  (188, [], [105, 51, 50, 46, 114, 101, 105, 110, 116, 101, 114, 112, 114, 101, 116, 95, 102, 51, 50, 32, 105, 54, 52, 46, 114, 101, 105, 110, 116, 101, 114, 112, 114, 101, 116, 95, 102, 54, 52, 32, 102, 51, 50, 46, 114, 101, 105, 110, 116, 101, 114, 112, 114, 101, 116, 95, 105, 51, 50, 32, 102, 54, 52, 46, 114, 101, 105, 110, 116, 101, 114, 112, 114, 101, 116, 95, 105, 54, 52], [45]),
  (192, [], [105, 51, 50, 46, 101, 120, 116, 101, 110, 100, 56, 95, 115, 32, 105, 51, 50, 46, 101, 120, 116, 101, 110, 100, 49, 54, 95, 115, 32, 105, 54, 52, 46, 101, 120, 116, 101, 110, 100, 56, 95, 115, 32, 105, 54, 52, 46, 101, 120, 116, 101, 110, 100, 49, 54, 95, 115, 32, 105, 54, 52, 46, 101, 120, 116, 101, 110, 100, 51, 50, 95, 115], [45])]
def XL : List (Int × List UInt8 × List UInt8 × List UInt8) := [
  (208, [], [114, 101, 102, 46, 110, 117, 108, 108], [104, 101, 97, 112]),
  (209, [], [114, 101, 102, 46, 105, 115, 95, 110, 117, 108, 108], [45]),
  (210, [], [114, 101, 102, 46, 102, 117, 110, 99], [120]),
  (211, [], [114, 101, 102, 46, 101, 113, 32, 114, 101, 102, 46, 97, 115, 95, 110, 111, 110, 95, 110, 117, 108, 108], [45]),
  (213, [], [98, 114, 95, 111, 110, 95, 110, 117, 108, 108, 32, 98, 114, 95, 111, 110, 95, 110, 111, 110, 95, 110, 117, 108, 108], [120]),
  (64256, [], [115, 116, 114, 117, 99, 116, 46, 110, 101, 119, 32, 115, 116, 114, 117, 99, 116, 46, 110, 101, 119, 95, 100, 101, 102, 97, 117, 108, 116], [120]),
  (64258, [], [115, 116, 114, 117, 99, 116, 46, 103, 101, 116, 32, 115, 116, 114, 117, 99, 116, 46, 103, 101, 116, 95, 115, 32, 115, 116, 114, 117, 99, 116, 46, 103, 101, 116, 95, 117, 32, 115, 116, 114, 117, 99, 116, 46, 115, 101, 116], [120, 121]),
  (64262, [], [97, 114, 114, 97, 121, 46, 110, 101, 119, 32, 97, 114, 114, 97, 121, 46, 110, 101, 119, 95, 100, 101, 102, 97, 117, 108, 116], [120]),
  (64264, [], [97, 114, 114, 97, 121, 46, 110, 101, 119, 95, 102, 105, 120, 101, 100], [120, 110]),
  (64265, [], [97, 114, 114, 97, 121, 46, 110, 101, 119, 95, 100, 97, 116, 97, 32, 97, 114, 114, 97, 121, 46, 110, 101, 119, 95, 101, 108, 101, 109], [120, 121]),
  (64267, [], [97, 114, 114, 97, 121, 46, 103, 101, 116, 32, 97, 114, 114, 97, 121, 46, 103, 101, 116, 95, 115, 32, 97, 114, 114, 97, 121, 46, 103, 101, 116, 95, 117, 32, 97, 114, 114, 97, 121, 46, 115, 101, 116], [120]),
  (64271, [], [97, 114, 114, 97, 121, 46, 108, 101, 110], [45]),
  (64272, [], [97, 114, 114, 97, 121, 46, 102, 105, 108, 108], [120]),
  (64273, [], [97, 114, 114, 97, 121, 46, 99, 111, 112, 121, 32, 97, 114, 114, 97, 121, 46, 105, 110, 105, 116, 95, 100, 97, 116, 97, 32, 97, 114, 114, 97, 121, 46, 105, 110, 105, 116, 95, 101, 108, 101, 109], [120, 121]),
  (64276, [], [114, 101, 102, 46, 116, 101, 115, 116, 32, 114, 101, 102, 46, 116, 101, 115, 116, 95, 110, 117, 108, 108, 32, 114, 101, 102, 46, 99, 97, 115, 116, 32, 114, 101, 102, 46, 99, 97, 115, 116, 95, 110, 117, 108, 108], [99, 97, 115, 116]),
  (64280, [], [98, 114, 95, 111, 110, 95, 99, 97, 115, 116, 32, 98, 114, 95, 111, 110, 95, 99, 97, 115, 116, 95, 102, 97, 105, 108], [98, 114, 95, 99, 97, 115, 116]),
  (64282, [], [97, 110, 121, 46, 99, 111, 110, 118, 101, 114, 116, 95, 101, 120, 116, 101, 114, 110, 32, 101, 120, 116, 101, 114, 110, 46, 99, 111, 110, 118, 101, 114, 116, 95, 97, 110, 121, 32, 114, 101, 102, 46, 105, 51, 49, 32, 105, 51, 49, 46, 103, 101, 116, 95, 115, 32, 105, 51, 49, 46, 103, 101, 116, 95, 117], [45]),
  (64512, [], [105, 51, 50, 46, 116, 114, 117, 110, 99, 95, 115, 97, 116, 95, 102, 51, 50, 95, 115, 32, 105, 51, 50, 46, 116, 114, 117, 110, 99, 95, 115, 97, 116, 95, 102, 51, 50, 95, 117, 32, 105, 51, 50, 46, 116, 114, 117, 110, 99, 95, 115, 97, 116, 95, 102, 54, 52, 95, 115, 32, 105, 51, 50, 46, 116, 114, 117, 110, 99, 95, 115, 97, 116, 95, 102, 54, 52, 95, 117, 32, 105, 54, 52, 46, 116, 114, 117, 110, 99, 95, 115, 97, 116, 95, 102, 51, 50, 95, 115, 32, 105, 54, 52, 46, 116, 114, 117, 110, 99, 95, 115, 97, 116, 95, 102, 51, 50, 95, 117, 32, 105, 54, 52, 46, 116, 114, 117, 110, 99, 95, 115, 97, 116, 95, 102, 54, 52, 95, 115, 32, 105, 54, 52, 46, 116, 114, 117, 110, 99, 95, 115, 97, 116, 95, 102, 54, 52, 95, 117], [45]),
  (64520, [], [109, 101, 109, 111, 114, 121, 46, 105, 110, 105, 116], [120, 121]),
  (64521, [], [100, 97, 116, 97, 46, 100, 114, 111, 112], [120]),
  (64522, [], [109, 101, 109, 111, 114, 121, 46, 99, 111, 112, 121], [120, 121]),
  (64523, [], [109, 101, 109, 111, 114, 121, 46, 102, 105, 108, 108], [120]),
  (64524, [], [116, 97, 98, 108, 101, 46, 105, 110, 105, 116], [120, 121]),
  (64525, [], [101, 108, 101, 109, 46, 100, 114, 111, 112], [120]),
  (64526, [], [116, 97, 98, 108, 101, 46, 99, 111, 112, 121], [120, 121]),
  (64527, [], [116, 97, 98, 108, 101, 46, 103, 114, 111, 119, 32, 116, 97, 98, 108, 101, 46, 115, 105, 122, 101, 32, 116, 97, 98, 108, 101, 46, 102, 105, 108, 108], [120])]
end Go.Proofs.YtohapnninjdlfaaGreatDoor

namespace Go.Proofs.YtohapnninjdlfaaGreatDoor
set_option linter.unusedVariables false
set_option linter.unusedSimpArgs false

/- Words of a text, cut at blanks; cur: what of the first word is taken already. -/
def cutW : List UInt8 → List UInt8 → List (List UInt8)
  | [], cur => [cur]
  | c :: r, cur => if c = 32 then cur :: cutW r [] else cutW r (cur ++ [c])
/- The last run that does not begin behind an opcode. -/
def lastF (op : Int) : List (Int × List UInt8 × List UInt8) → Int × List UInt8 × List UInt8 → Int × List UInt8 × List UInt8
  | [], f => f
  | r :: l, f => lastF op l (if r.1 ≤ op then r else f)
def lastR (op : Int) : Int × List UInt8 × List UInt8 := lastF op RL (0, [], [])
def nameOf (r : Int × List UInt8 × List UInt8) (n : Int) : List UInt8 := if n < 0 then [] else match (cutW r.2.2 [])[n.toNat]? with
  | some x => r.2.1 ++ x
  | none => []
def nameP (op : Int) : List UInt8 := nameOf (lastR op) (op - (lastR op).1)
def findR (op : Int) : List (Int × List UInt8 × List UInt8 × List UInt8) → Option ((Int × List UInt8 × List UInt8 × List UInt8) × List UInt8)
  | [] => none
  | r :: l => if r.1 ≤ op ∧ op < r.1 + 32 then (match (cutW r.2.2.1 [])[(op - r.1).toNat]? with
      | some x => some (r, r.2.1 ++ x)
      | none => findR op l) else findR op l
def rowsR (op : Int) : List (Int × List UInt8 × List UInt8 × List UInt8) := if 208 ≤ op then XL else TL
def nameD (op : Int) : List UInt8 := match findR op (rowsR op) with
  | some x => x.2
  | none => []
def formD (op : Int) : List UInt8 := match findR op (rowsR op) with
  | some x => x.1.2.2.2
  | none => []

theorem lastF_same (a b : Int) : ∀ (l : List (Int × List UInt8 × List UInt8)) f, (∀ r ∈ l, r.1 ≤ a ↔ r.1 ≤ b) → lastF a l f = lastF b l f
  | [], f, h => rfl
  | r :: l, f, h => by
    rw [lastF, lastF]
    have h1 := h r (by simp)
    have h2 : (if r.1 ≤ a then r else f) = (if r.1 ≤ b then r else f) := by
      by_cases hh : r.1 ≤ a
      · rw [if_pos hh, if_pos (h1.1 hh)]
      · rw [if_neg hh, if_neg (fun x => hh (h1.2 x))]
    rw [h2]
    exact lastF_same a b l _ (fun x hx => h x (by simp [hx]))
theorem findR_none (op : Int) : ∀ (l : List (Int × List UInt8 × List UInt8 × List UInt8)), (∀ r ∈ l, ¬ (r.1 ≤ op ∧ op < r.1 + 32)) → findR op l = none
  | [], h => rfl
  | r :: l, h => by
    rw [findR, if_neg (h r (by simp))]
    exact findR_none op l (fun x hx => h x (by simp [hx]))
/- An opcode of one of these parts, or none. -/
theorem op_parts (op : Int) : op < 0 ∨ (∃ k : Fin 256, op = (k.val : Int)) ∨ (256 ≤ op ∧ op < 64256) ∨ (∃ k : Fin 64, op = 64256 + (k.val : Int)) ∨ (64320 ≤ op ∧ op < 64512) ∨ (∃ k : Fin 64, op = 64512 + (k.val : Int)) ∨ 64576 ≤ op := by
  by_cases h0 : op < 0
  · exact Or.inl h0
  · by_cases h1 : op < 256
    · exact Or.inr (Or.inl ⟨⟨op.toNat, by omega⟩, by simp only; omega⟩)
    · by_cases h2 : op < 64256
      · exact Or.inr (Or.inr (Or.inl ⟨by omega, h2⟩))
      · by_cases h3 : op < 64320
        · exact Or.inr (Or.inr (Or.inr (Or.inl ⟨⟨(op - 64256).toNat, by omega⟩, by simp only; omega⟩)))
        · by_cases h4 : op < 64512
          · exact Or.inr (Or.inr (Or.inr (Or.inr (Or.inl ⟨by omega, h4⟩))))
          · by_cases h5 : op < 64576
            · exact Or.inr (Or.inr (Or.inr (Or.inr (Or.inr (Or.inl ⟨⟨(op - 64512).toNat, by omega⟩, by simp only; omega⟩)))))
            · omega
theorem rl_lo : ∀ r ∈ RL, 0 ≤ r.1 := by decide +kernel
theorem rl_mid : ∀ r ∈ RL, r.1 ≤ 256 ∨ 64256 ≤ r.1 := by decide +kernel
theorem rl_mid2 : ∀ r ∈ RL, r.1 ≤ 64320 ∨ 64512 ≤ r.1 := by decide +kernel
theorem rl_hi : ∀ r ∈ RL, r.1 ≤ 64576 := by decide +kernel
theorem tl_lo : ∀ r ∈ TL, 0 ≤ r.1 := by decide +kernel
theorem xl_mid : ∀ r ∈ XL, r.1 + 32 ≤ 256 ∨ 64256 ≤ r.1 := by decide +kernel
theorem xl_mid2 : ∀ r ∈ XL, r.1 + 32 ≤ 64320 ∨ 64512 ≤ r.1 := by decide +kernel
theorem xl_hi : ∀ r ∈ XL, r.1 + 32 ≤ 64576 := by decide +kernel
theorem last_at : (lastR 256).1 = 208 ∧ (cutW (lastR 256).2.2 []).length = 7 ∧ (lastR 64320).1 = 64276 ∧ (cutW (lastR 64320).2.2 []).length = 11 ∧ (lastR 64576).1 = 64520 ∧ (cutW (lastR 64576).2.2 []).length = 10 := by decide +kernel
theorem nameP_far {op b : Int} {n : Nat} (h : ∀ r ∈ RL, r.1 ≤ op ↔ r.1 ≤ b) (hl : (cutW (lastR b).2.2 []).length = n) (hn : (lastR b).1 + n ≤ op) : nameP op = [] := by
  have e : lastR op = lastR b := lastF_same op b RL _ h
  unfold nameP nameOf
  rw [e, if_neg (by omega), List.getElem?_eq_none (by rw [hl]; omega)]
theorem nameD_none {op : Int} (h : ∀ r ∈ rowsR op, ¬ (r.1 ≤ op ∧ op < r.1 + 32)) : nameD op = [] ∧ formD op = [] := by
  unfold nameD formD
  rw [findR_none op _ h]
  exact ⟨rfl, rfl⟩
theorem lastF_low (op : Int) : ∀ (l : List (Int × List UInt8 × List UInt8)) f, (∀ r ∈ l, ¬ r.1 ≤ op) → lastF op l f = f
  | [], f, h => rfl
  | r :: l, f, h => by
    rw [lastF, if_neg (h r (by simp))]
    exact lastF_low op l f (fun x hx => h x (by simp [hx]))
/- Outside of the parts with opcodes there is no name. -/
theorem names_far {op : Int} (h : op < 0 ∨ (256 ≤ op ∧ op < 64256) ∨ (64320 ≤ op ∧ op < 64512) ∨ 64576 ≤ op) : nameP op = [] ∧ nameD op = [] ∧ formD op = [] := by
  obtain ⟨l1, l2, l3, l4, l5, l6⟩ := last_at
  rcases h with h | h | h | h
  · have hP : nameP op = [] := by
      have e : lastR op = (0, [], []) := lastF_low op RL _ (fun r hr hh => by have := rl_lo r hr; omega)
      unfold nameP nameOf
      rw [e, if_pos (by simp only; omega)]
    refine ⟨hP, nameD_none ?_⟩
    rw [rowsR, if_neg (by omega)]
    intro r hr hh
    have := tl_lo r hr
    omega
  · refine ⟨nameP_far (b := 256) (fun r hr => by have := rl_mid r hr; omega) l2 (by omega), nameD_none ?_⟩
    rw [rowsR, if_pos (by omega)]
    intro r hr hh
    have := xl_mid r hr
    omega
  · refine ⟨nameP_far (b := 64320) (fun r hr => by have := rl_mid2 r hr; omega) l4 (by omega), nameD_none ?_⟩
    rw [rowsR, if_pos (by omega)]
    intro r hr hh
    have := xl_mid2 r hr
    omega
  · refine ⟨nameP_far (b := 64576) (fun r hr => by have := rl_hi r hr; omega) l6 (by omega), nameD_none ?_⟩
    rw [rowsR, if_pos (by omega)]
    intro r hr hh
    have := xl_hi r hr
    omega
theorem near1 : ∀ k : Fin 256, nameP (k.val : Int) = nameD (k.val : Int) := by decide +kernel
theorem near2 : ∀ k : Fin 64, nameP (64256 + (k.val : Int)) = nameD (64256 + (k.val : Int)) := by decide +kernel
theorem near3 : ∀ k : Fin 64, nameP (64512 + (k.val : Int)) = nameD (64512 + (k.val : Int)) := by decide +kernel
theorem names_same (op : Int) : nameP op = nameD op := by
  rcases op_parts op with h | ⟨k, rfl⟩ | h | ⟨k, rfl⟩ | h | ⟨k, rfl⟩ | h
  · obtain ⟨a, b, _⟩ := names_far (Or.inl h); rw [a, b]
  · exact near1 k
  · obtain ⟨a, b, _⟩ := names_far (Or.inr (Or.inl h)); rw [a, b]
  · exact near2 k
  · obtain ⟨a, b, _⟩ := names_far (Or.inr (Or.inr (Or.inl h))); rw [a, b]
  · exact near3 k
  · obtain ⟨a, b, _⟩ := names_far (Or.inr (Or.inr (Or.inr h))); rw [a, b]

/- All opcodes with their names, as the runs tell them. -/
def pairsF (f : Int) (a : List UInt8) : List (List UInt8) → List (Int × List UInt8)
  | [] => []
  | x :: l => (f, a ++ x) :: pairsF (f + 1) a l
def PL : List (Int × List UInt8) := RL.flatMap fun r => pairsF r.1 r.2.1 (cutW r.2.2 [])
def OL : List Int := PL.map (·.1)
def opP (s : List UInt8) : Option Int := (PL.find? (fun p => decide (p.2 = s))).map (·.1)
def riseB : List Int → Bool
  | a :: b :: l => decide (a < b) && riseB (b :: l)
  | _ => true
def inOL (op : Int) : Bool := OL.any (fun x => decide (x = op))
theorem OL_rise : riseB OL = true := by decide +kernel
theorem OL_len : OL.length = 243 := by decide +kernel
theorem OL_in : ∀ x ∈ OL, (0 ≤ x ∧ x < 256) ∨ (64256 ≤ x ∧ x < 64320) ∨ (64512 ≤ x ∧ x < 64576) := by decide +kernel
theorem has1 : ∀ k : Fin 256, inOL (k.val : Int) = !(nameP (k.val : Int)).isEmpty := by decide +kernel
theorem has2 : ∀ k : Fin 64, inOL (64256 + (k.val : Int)) = !(nameP (64256 + (k.val : Int))).isEmpty := by decide +kernel
theorem has3 : ∀ k : Fin 64, inOL (64512 + (k.val : Int)) = !(nameP (64512 + (k.val : Int))).isEmpty := by decide +kernel
theorem inOL_no {op : Int} (h : op < 0 ∨ (256 ≤ op ∧ op < 64256) ∨ (64320 ≤ op ∧ op < 64512) ∨ 64576 ≤ op) : inOL op = false := by
  unfold inOL
  rw [List.any_eq_false]
  intro x hx
  have := OL_in x hx
  simp
  omega
theorem has_name (op : Int) : inOL op = !(nameP op).isEmpty := by
  rcases op_parts op with h | ⟨k, rfl⟩ | h | ⟨k, rfl⟩ | h | ⟨k, rfl⟩ | h
  · rw [inOL_no (Or.inl h), (names_far (Or.inl h)).1]; rfl
  · exact has1 k
  · rw [inOL_no (Or.inr (Or.inl h)), (names_far (Or.inr (Or.inl h))).1]; rfl
  · exact has2 k
  · rw [inOL_no (Or.inr (Or.inr (Or.inl h))), (names_far (Or.inr (Or.inr (Or.inl h)))).1]; rfl
  · exact has3 k
  · rw [inOL_no (Or.inr (Or.inr (Or.inr h))), (names_far (Or.inr (Or.inr (Or.inr h)))).1]; rfl
theorem PL_name : ∀ p ∈ PL, nameP p.1 = p.2 := by decide +kernel
theorem PL_back : ∀ p ∈ PL, opP p.2 = some p.1 := by decide +kernel
/- The document's list of opcodes. -/
def rangeI (f : Int) : Nat → List Int
  | 0 => []
  | n + 1 => f :: rangeI (f + 1) n
def opsD : List Int := (rangeI 0 256 ++ rangeI 64256 32 ++ rangeI 64512 32).filter (fun op => !(formD op).isEmpty)
theorem ops_same : opsD = OL := by decide +kernel
end Go.Proofs.YtohapnninjdlfaaGreatDoor

namespace Go.Proofs.YtohapnninjdlfaaGreatDoor
set_option linter.unusedVariables false
set_option linter.unusedSimpArgs false

def formL : List (Int × Int) := [(0, 1), (1, 1), (5, 1), (10, 1), (11, 1), (15, 1), (26, 1), (27, 1), (209, 1), (211, 1), (212, 1), (64271, 1), (2, 2), (3, 2), (4, 2), (31, 3), (8, 4), (12, 4), (13, 4), (16, 4), (18, 4), (20, 4), (21, 4), (63, 4), (64, 4), (210, 4), (213, 4), (214, 4), (64256, 4), (64257, 4), (64262, 4), (64263, 4), (64272, 4), (64521, 4), (64523, 4), (64525, 4), (64527, 4), (64528, 4), (64529, 4), (17, 5), (19, 5), (64265, 5), (64266, 5), (64273, 5), (64274, 5), (64275, 5), (64520, 5), (64522, 5), (64524, 5), (64526, 5), (14, 6), (28, 7), (208, 13), (64280, 15), (64281, 15), (64264, 16)]
def runP (op : Int) : Int := if 32 ≤ op ∧ op ≤ 38 then 4 else if 40 ≤ op ∧ op ≤ 62 then 8 else if 65 ≤ op ∧ op ≤ 68 then op - 56 else if 69 ≤ op ∧ op ≤ 196 then 1 else if 64258 ≤ op ∧ op ≤ 64261 then 5 else if 64267 ≤ op ∧ op ≤ 64270 then 4 else if 64276 ≤ op ∧ op ≤ 64279 then 14 else if 64282 ≤ op ∧ op ≤ 64286 then 1 else if 64512 ≤ op ∧ op ≤ 64519 then 1 else 0
def lookF (op : Int) : List (Int × Int) → Int
  | [] => runP op
  | x :: l => if x.1 = op then x.2 else lookF op l
def formP (op : Int) : Int := lookF op formL
def fwords : List UInt8 := [45, 32, 98, 108, 111, 99, 107, 32, 116, 114, 121, 32, 120, 32, 120, 121, 32, 116, 97, 98, 108, 101, 32, 115, 101, 108, 101, 99, 116, 32, 109, 101, 109, 32, 105, 51, 50, 32, 105, 54, 52, 32, 102, 51, 50, 32, 102, 54, 52, 32, 104, 101, 97, 112, 32, 99, 97, 115, 116, 32, 98, 114, 95, 99, 97, 115, 116, 32, 120, 110]
def wordP (f : Int) : List UInt8 := if f = 0 then [] else ((cutW fwords [])[(f - 1).toNat]?).getD []
theorem lookF_no (op : Int) : ∀ l : List (Int × Int), (∀ x ∈ l, x.1 ≠ op) → lookF op l = runP op
  | [], h => rfl
  | x :: l, h => by rw [lookF, if_neg (h x (by simp))]; exact lookF_no op l (fun y hy => h y (by simp [hy]))
theorem formL_in : ∀ x ∈ formL, (0 ≤ x.1 ∧ x.1 < 256) ∨ (64256 ≤ x.1 ∧ x.1 < 64320) ∨ (64512 ≤ x.1 ∧ x.1 < 64576) := by decide +kernel
theorem form_far {op : Int} (h : op < 0 ∨ (256 ≤ op ∧ op < 64256) ∨ (64320 ≤ op ∧ op < 64512) ∨ 64576 ≤ op) : formP op = 0 := by
  unfold formP
  rw [lookF_no op _ (fun x hx he => by have := formL_in x hx; omega)]
  unfold runP
  repeat rw [if_neg (by omega)]
theorem formN1 : ∀ k : Fin 256, wordP (formP (k.val : Int)) = formD (k.val : Int) ∧ 0 ≤ formP (k.val : Int) ∧ formP (k.val : Int) ≤ 16 := by decide +kernel
theorem formN2 : ∀ k : Fin 64, wordP (formP (64256 + (k.val : Int))) = formD (64256 + (k.val : Int)) ∧ 0 ≤ formP (64256 + (k.val : Int)) ∧ formP (64256 + (k.val : Int)) ≤ 16 := by decide +kernel
theorem formN3 : ∀ k : Fin 64, wordP (formP (64512 + (k.val : Int))) = formD (64512 + (k.val : Int)) ∧ 0 ≤ formP (64512 + (k.val : Int)) ∧ formP (64512 + (k.val : Int)) ≤ 16 := by decide +kernel
theorem form_same (op : Int) : wordP (formP op) = formD op ∧ 0 ≤ formP op ∧ formP op ≤ 16 := by
  rcases op_parts op with h | ⟨k, rfl⟩ | h | ⟨k, rfl⟩ | h | ⟨k, rfl⟩ | h
  · rw [form_far (Or.inl h), (names_far (Or.inl h)).2.2]; decide
  · exact formN1 k
  · rw [form_far (Or.inr (Or.inl h)), (names_far (Or.inr (Or.inl h))).2.2]; decide
  · exact formN2 k
  · rw [form_far (Or.inr (Or.inr (Or.inl h))), (names_far (Or.inr (Or.inr (Or.inl h)))).2.2]; decide
  · exact formN3 k
  · rw [form_far (Or.inr (Or.inr (Or.inr h))), (names_far (Or.inr (Or.inr (Or.inr h)))).2.2]; decide
theorem fwords_fine : (∀ c ∈ fwords, c.toNat < 128) ∧ fwords.length ≤ 60000 ∧ (cutW fwords []).length = 16 := by decide +kernel
end Go.Proofs.YtohapnninjdlfaaGreatDoor

namespace Go.Proofs.YtohapnninjdlfaaGreatDoor

/- The worth of so many bytes from a on. -/
def gv (l : List Int) : Nat → Nat → Int
  | _, 0 => 0
  | a, c + 1 => l.getD a 0 + 256 * gv l (a + 1) c
theorem pow8 (k : Nat) : (2 : Int) ^ (8 * (k + 1)) = 256 * 2 ^ (8 * k) := by
  rw [show 8 * (k + 1) = 8 + 8 * k from by omega, Int.pow_add]; rfl
theorem gv_snoc (l : List Int) (a k : Nat) : gv l a (k + 1) = gv l a k + l.getD (a + k) 0 * 2 ^ (8 * k) := by
  induction k generalizing a with
  | zero => simp [gv]
  | succ k ih =>
    rw [gv, ih (a + 1), gv, pow8, show a + 1 + k = a + (k + 1) from by omega, Int.mul_add]
    have : 256 * (l.getD (a + (k + 1)) 0 * 2 ^ (8 * k)) = l.getD (a + (k + 1)) 0 * (256 * 2 ^ (8 * k)) := by rw [← Int.mul_assoc, Int.mul_comm 256, Int.mul_assoc]
    rw [this]; omega
theorem gv_bd (l : List Int) (hr : ∀ j, 0 ≤ l.getD j 0 ∧ l.getD j 0 ≤ 255) (a k : Nat) : 0 ≤ gv l a k ∧ gv l a k < 2 ^ (8 * k) := by
  induction k generalizing a with
  | zero => simp [gv]
  | succ k ih =>
    obtain ⟨h1, h2⟩ := ih (a + 1)
    obtain ⟨h3, h4⟩ := hr a
    rw [gv, pow8]; omega
/- Reading so many bytes from at on, ahead of end. -/
def fx (s : Nat) (l : List Int) (at_ end_ : Int) : Int × Int × Int :=
  if 0 ≤ at_ ∧ at_ ≤ end_ ∧ end_ ≤ l.length then if end_ - at_ < s then (0, end_, 3) else (gv l at_.toNat s, at_ + s, 0) else (0, 0, 1)
theorem fx_out {s : Nat} {l : List Int} {at_ end_ : Int} (h : ¬ (0 ≤ at_ ∧ at_ ≤ end_ ∧ end_ ≤ l.length)) : fx s l at_ end_ = (0, 0, 1) := by
  unfold fx; rw [if_neg h]
theorem fx_short {s : Nat} {l : List Int} {a e : Nat} (h1 : a ≤ e) (h2 : e ≤ l.length) (h : e < a + s) : fx s l a e = (0, (e : Int), 3) := by
  unfold fx; rw [if_pos (by omega), if_pos (by omega)]
theorem fx_in {s : Nat} {l : List Int} {a e : Nat} (h2 : e ≤ l.length) (h : a + s ≤ e) : fx s l a e = (gv l a s, (a : Int) + s, 0) := by
  unfold fx; rw [if_pos (by omega), if_neg (by omega), Int.toNat_natCast]
end Go.Proofs.YtohapnninjdlfaaGreatDoor

namespace Go.Proofs.YtohapnninjdlfaaGreatDoor
set_option linter.unusedVariables false
set_option linter.unusedSimpArgs false

/- A memory argument; a clause; an instruction without bodies. -/
structure ME where
  align : Int
  mem : Int
  off : Int
structure CA where
  kind : Int
  tag : Int
  label : Int
structure IN where
  op : Int
  x : Int
  y : Int
  n : Int
  mem : ME
  blk : BK
  labels : List Int
  types : List VT
  catches : List CA
def ME0 : ME := ⟨0, 0, 0⟩
def BK0 : BK := ⟨0, ⟨0, false, 0⟩⟩
def IN0 (op : Int) : IN := ⟨op, 0, 0, 0, ME0, BK0, [], [], []⟩
def u32R (l : List Int) (p : Nat) : RS Int := numR 32 false l p
/- The opcode: a byte, or a prefix and a number. -/
def opEnd (p : Nat) (op : Int) (q : Nat) : RS Int := if formP op = 0 then .error (p, 4) else .ok (op, q)
def opR (l : List Int) (p : Nat) : RS Int := atR l p fun c =>
  if c = 253 then .error (p, 8)
  else if c = 251 ∨ c = 252 then thenR (u32R l (p + 1)) fun n q => if 255 < n then .error (p, 4) else opEnd p (c * 256 + n) q
  else opEnd p c (p + 1)
def memR (l : List Int) (p : Nat) : RS ME := thenR (u32R l p) fun n q =>
  if 127 < n then .error (p, 4)
  else if 64 ≤ n then thenR (u32R l q) fun m r => mapR (fun o => ⟨n - 64, m, o⟩) (numR 64 false l r)
  else mapR (fun o => ⟨n, 0, o⟩) (numR 64 false l q)
def clauseR (l : List Int) (p : Nat) : RS CA := thenR (belowR 4 l p) fun k q =>
  if k < 2 then thenR (u32R l q) fun t r => mapR (fun b => ⟨k, t, b⟩) (u32R l r) else mapR (fun b => ⟨k, 0, b⟩) (u32R l q)
def catchesR (l : List Int) (p : Nat) : RS (List CA) := listR 65536 (clauseR l) l p
def labelsR (l : List Int) (p : Nat) : RS (List Int) := listR 65536 (u32R l) l p
/- A float's bits, so many bytes. -/
def fixR (k : Nat) (l : List Int) (p : Nat) : RS Int := if p + k ≤ l.length then .ok (gv l p k, p + k) else .error (l.length, 3)
theorem fixR_ways {k : Nat} {l : List Int} {p : Nat} (hp : p ≤ l.length) :
    (∃ (n : Int) (q : Nat), fx k l p l.length = (n, (q : Int), 0) ∧ p ≤ q ∧ q ≤ l.length ∧ fixR k l p = .ok (n, q)) ∨
    (∃ (n : Int) (f e : Nat), fx k l p l.length = (n, (f : Int), (e : Int)) ∧ p ≤ f ∧ f ≤ l.length ∧ (e = 3 ∨ e = 4) ∧ fixR k l p = .error (f, e)) := by
  by_cases h : p + k ≤ l.length
  · refine Or.inl ⟨gv l p k, p + k, ?_, by omega, h, ?_⟩
    · rw [fx_in (Nat.le_refl _) h]; simp
    · unfold fixR; rw [if_pos h]
  · refine Or.inr ⟨0, l.length, 3, ?_, hp, Nat.le_refl _, Or.inl rfl, ?_⟩
    · rw [fx_short hp (Nat.le_refl _) (by omega)]; rfl
    · unfold fixR; rw [if_neg h]
def brR (op : Int) (l : List Int) (p : Nat) : RS IN := thenR (belowR 4 l p) fun c q => thenR (u32R l q) fun x r => thenR (heapR l r) fun a s => mapR (fun b => { IN0 op with x := x, types := [⟨5, decide (c % 2 = 1), a⟩, ⟨5, decide (2 ≤ c), b⟩] }) (heapR l s)
/- What stands behind the opcode, by its form. -/
def restR (op : Int) (l : List Int) (p : Nat) : RS IN :=
  if formP op = 2 then mapR (fun b => { IN0 op with blk := b }) (blockR l p)
  else if formP op = 3 then thenR (blockR l p) fun b q => mapR (fun c => { IN0 op with blk := b, catches := c }) (catchesR l q)
  else if formP op = 4 then mapR (fun x => { IN0 op with x := x }) (u32R l p)
  else if formP op = 5 then thenR (u32R l p) fun x q => mapR (fun y => { IN0 op with x := x, y := y }) (u32R l q)
  else if formP op = 6 then thenR (labelsR l p) fun b q => mapR (fun x => { IN0 op with labels := b, x := x }) (u32R l q)
  else if formP op = 7 then mapR (fun t => { IN0 op with types := t }) (valsR l p)
  else if formP op = 8 then mapR (fun m => { IN0 op with mem := m }) (memR l p)
  else if formP op = 9 then mapR (fun n => { IN0 op with n := n % 4294967296 }) (numR 32 true l p)
  else if formP op = 10 then mapR (fun n => { IN0 op with n := n }) (numR 64 true l p)
  else if formP op = 11 then mapR (fun n => { IN0 op with n := n }) (fixR 4 l p)
  else if formP op = 12 then mapR (fun n => { IN0 op with n := n }) (fixR 8 l p)
  else if formP op = 13 then mapR (fun h => { IN0 op with types := [⟨5, true, h⟩] }) (heapR l p)
  else if formP op = 14 then mapR (fun h => { IN0 op with types := [⟨5, decide (op % 2 = 1), h⟩] }) (heapR l p)
  else if formP op = 15 then brR op l p
  else if formP op = 16 then thenR (u32R l p) fun x q => mapR (fun n => { IN0 op with x := x, n := n }) (u32R l q)
  else .ok (IN0 op, p)
def insR (l : List Int) (p : Nat) : RS IN := thenR (opR l p) fun op q => restR op l q
end Go.Proofs.YtohapnninjdlfaaGreatDoor
