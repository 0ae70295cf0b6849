/-
  Plain mathematics: texts cut at blanks; the runs' names, opcodes and forms against the document's rows; nothing of the program.
-/
import Derived.Test.YtahmjgmaaaegcaaGreatDoorRL
namespace Go.Proofs.YtahmjgmaaaegcaaGreatDoor
set_option linter.unusedVariables false
set_option linter.unusedSimpArgs false

/- Words of a text, cut at blanks; cur: what of the first word is taken already. -/
def cutW : List UInt8 → List UInt8 → List (List UInt8)
  | [], cur => [cur]
  | c :: r, cur => if c = 32 then cur :: cutW r [] else cutW r (cur ++ [c])
/- The last run that does not begin behind an opcode. -/
def lastF (op : Int) : List (Int × List UInt8 × List UInt8) → Int × List UInt8 × List UInt8 → Int × List UInt8 × List UInt8
  | [], f => f
  | r :: l, f => lastF op l (if r.1 ≤ op then r else f)
def lastR (op : Int) : Int × List UInt8 × List UInt8 := lastF op RL (0, [], [])
def nameOf (r : Int × List UInt8 × List UInt8) (n : Int) : List UInt8 := if n < 0 then [] else match (cutW r.2.2 [])[n.toNat]? with
  | some x => r.2.1 ++ x
  | none => []
def nameP (op : Int) : List UInt8 := nameOf (lastR op) (op - (lastR op).1)
def findR (op : Int) : List (Int × List UInt8 × List UInt8 × List UInt8) → Option ((Int × List UInt8 × List UInt8 × List UInt8) × List UInt8)
  | [] => none
  | r :: l => if r.1 ≤ op ∧ op < r.1 + 32 then (match (cutW r.2.2.1 [])[(op - r.1).toNat]? with
      | some x => some (r, r.2.1 ++ x)
      | none => findR op l) else findR op l
def rowsR (op : Int) : List (Int × List UInt8 × List UInt8 × List UInt8) := if 208 ≤ op then XL else TL
def nameD (op : Int) : List UInt8 := match findR op (rowsR op) with
  | some x => x.2
  | none => []
def formD (op : Int) : List UInt8 := match findR op (rowsR op) with
  | some x => x.1.2.2.2
  | none => []

theorem lastF_same (a b : Int) : ∀ (l : List (Int × List UInt8 × List UInt8)) f, (∀ r ∈ l, r.1 ≤ a ↔ r.1 ≤ b) → lastF a l f = lastF b l f
  | [], f, h => rfl
  | r :: l, f, h => by
    rw [lastF, lastF]
    have h1 := h r (by simp)
    have h2 : (if r.1 ≤ a then r else f) = (if r.1 ≤ b then r else f) := by
      by_cases hh : r.1 ≤ a
      · rw [if_pos hh, if_pos (h1.1 hh)]
      · rw [if_neg hh, if_neg (fun x => hh (h1.2 x))]
    rw [h2]
    exact lastF_same a b l _ (fun x hx => h x (by simp [hx]))
theorem findR_none (op : Int) : ∀ (l : List (Int × List UInt8 × List UInt8 × List UInt8)), (∀ r ∈ l, ¬ (r.1 ≤ op ∧ op < r.1 + 32)) → findR op l = none
  | [], h => rfl
  | r :: l, h => by
    rw [findR, if_neg (h r (by simp))]
    exact findR_none op l (fun x hx => h x (by simp [hx]))
/- An opcode of one of these parts, or none. -/
theorem op_parts (op : Int) : op < 0 ∨ (∃ k : Fin 256, op = (k.val : Int)) ∨ (256 ≤ op ∧ op < 64256) ∨ (∃ k : Fin 64, op = 64256 + (k.val : Int)) ∨ (64320 ≤ op ∧ op < 64512) ∨ (∃ k : Fin 64, op = 64512 + (k.val : Int)) ∨ 64576 ≤ op := by
  by_cases h0 : op < 0
  · exact Or.inl h0
  · by_cases h1 : op < 256
    · exact Or.inr (Or.inl ⟨⟨op.toNat, by omega⟩, by simp only; omega⟩)
    · by_cases h2 : op < 64256
      · exact Or.inr (Or.inr (Or.inl ⟨by omega, h2⟩))
      · by_cases h3 : op < 64320
        · exact Or.inr (Or.inr (Or.inr (Or.inl ⟨⟨(op - 64256).toNat, by omega⟩, by simp only; omega⟩)))
        · by_cases h4 : op < 64512
          · exact Or.inr (Or.inr (Or.inr (Or.inr (Or.inl ⟨by omega, h4⟩))))
          · by_cases h5 : op < 64576
            · exact Or.inr (Or.inr (Or.inr (Or.inr (Or.inr (Or.inl ⟨⟨(op - 64512).toNat, by omega⟩, by simp only; omega⟩)))))
            · omega
theorem rl_lo : ∀ r ∈ RL, 0 ≤ r.1 := by decide +kernel
theorem rl_mid : ∀ r ∈ RL, r.1 ≤ 256 ∨ 64256 ≤ r.1 := by decide +kernel
theorem rl_mid2 : ∀ r ∈ RL, r.1 ≤ 64320 ∨ 64512 ≤ r.1 := by decide +kernel
theorem rl_hi : ∀ r ∈ RL, r.1 ≤ 64576 := by decide +kernel
theorem tl_lo : ∀ r ∈ TL, 0 ≤ r.1 := by decide +kernel
theorem xl_mid : ∀ r ∈ XL, r.1 + 32 ≤ 256 ∨ 64256 ≤ r.1 := by decide +kernel
theorem xl_mid2 : ∀ r ∈ XL, r.1 + 32 ≤ 64320 ∨ 64512 ≤ r.1 := by decide +kernel
theorem xl_hi : ∀ r ∈ XL, r.1 + 32 ≤ 64576 := by decide +kernel
theorem last_at : (lastR 256).1 = 208 ∧ (cutW (lastR 256).2.2 []).length = 7 ∧ (lastR 64320).1 = 64276 ∧ (cutW (lastR 64320).2.2 []).length = 11 ∧ (lastR 64576).1 = 64520 ∧ (cutW (lastR 64576).2.2 []).length = 10 := by decide +kernel
theorem nameP_far {op b : Int} {n : Nat} (h : ∀ r ∈ RL, r.1 ≤ op ↔ r.1 ≤ b) (hl : (cutW (lastR b).2.2 []).length = n) (hn : (lastR b).1 + n ≤ op) : nameP op = [] := by
  have e : lastR op = lastR b := lastF_same op b RL _ h
  unfold nameP nameOf
  rw [e, if_neg (by omega), List.getElem?_eq_none (by rw [hl]; omega)]
theorem nameD_none {op : Int} (h : ∀ r ∈ rowsR op, ¬ (r.1 ≤ op ∧ op < r.1 + 32)) : nameD op = [] ∧ formD op = [] := by
  unfold nameD formD
  rw [findR_none op _ h]
  exact ⟨rfl, rfl⟩
theorem lastF_low (op : Int) : ∀ (l : List (Int × List UInt8 × List UInt8)) f, (∀ r ∈ l, ¬ r.1 ≤ op) → lastF op l f = f
  | [], f, h => rfl
  | r :: l, f, h => by
    rw [lastF, if_neg (h r (by simp))]
    exact lastF_low op l f (fun x hx => h x (by simp [hx]))
/- Outside of the parts with opcodes there is no name. -/
theorem names_far {op : Int} (h : op < 0 ∨ (256 ≤ op ∧ op < 64256) ∨ (64320 ≤ op ∧ op < 64512) ∨ 64576 ≤ op) : nameP op = [] ∧ nameD op = [] ∧ formD op = [] := by
  obtain ⟨l1, l2, l3, l4, l5, l6⟩ := last_at
  rcases h with h | h | h | h
  · have hP : nameP op = [] := by
      have e : lastR op = (0, [], []) := lastF_low op RL _ (fun r hr hh => by have := rl_lo r hr; omega)
      unfold nameP nameOf
      rw [e, if_pos (by simp only; omega)]
    refine ⟨hP, nameD_none ?_⟩
    rw [rowsR, if_neg (by omega)]
    intro r hr hh
    have := tl_lo r hr
    omega
  · refine ⟨nameP_far (b := 256) (fun r hr => by have := rl_mid r hr; omega) l2 (by omega), nameD_none ?_⟩
    rw [rowsR, if_pos (by omega)]
    intro r hr hh
    have := xl_mid r hr
    omega
  · refine ⟨nameP_far (b := 64320) (fun r hr => by have := rl_mid2 r hr; omega) l4 (by omega), nameD_none ?_⟩
    rw [rowsR, if_pos (by omega)]
    intro r hr hh
    have := xl_mid2 r hr
    omega
  · refine ⟨nameP_far (b := 64576) (fun r hr => by have := rl_hi r hr; omega) l6 (by omega), nameD_none ?_⟩
    rw [rowsR, if_pos (by omega)]
    intro r hr hh
    have := xl_hi r hr
    omega
theorem near1 : ∀ k : Fin 256, nameP (k.val : Int) = nameD (k.val : Int) := by decide +kernel
theorem near2 : ∀ k : Fin 64, nameP (64256 + (k.val : Int)) = nameD (64256 + (k.val : Int)) := by decide +kernel
theorem near3 : ∀ k : Fin 64, nameP (64512 + (k.val : Int)) = nameD (64512 + (k.val : Int)) := by decide +kernel
theorem names_same (op : Int) : nameP op = nameD op := by
  rcases op_parts op with h | ⟨k, rfl⟩ | h | ⟨k, rfl⟩ | h | ⟨k, rfl⟩ | h
  · obtain ⟨a, b, _⟩ := names_far (Or.inl h); rw [a, b]
  · exact near1 k
  · obtain ⟨a, b, _⟩ := names_far (Or.inr (Or.inl h)); rw [a, b]
  · exact near2 k
  · obtain ⟨a, b, _⟩ := names_far (Or.inr (Or.inr (Or.inl h))); rw [a, b]
  · exact near3 k
  · obtain ⟨a, b, _⟩ := names_far (Or.inr (Or.inr (Or.inr h))); rw [a, b]

/- All opcodes with their names, as the runs tell them. -/
def pairsF (f : Int) (a : List UInt8) : List (List UInt8) → List (Int × List UInt8)
  | [] => []
  | x :: l => (f, a ++ x) :: pairsF (f + 1) a l
def PL : List (Int × List UInt8) := RL.flatMap fun r => pairsF r.1 r.2.1 (cutW r.2.2 [])
def OL : List Int := PL.map (·.1)
def opP (s : List UInt8) : Option Int := (PL.find? (fun p => decide (p.2 = s))).map (·.1)
def riseB : List Int → Bool
  | a :: b :: l => decide (a < b) && riseB (b :: l)
  | _ => true
def inOL (op : Int) : Bool := OL.any (fun x => decide (x = op))
theorem OL_rise : riseB OL = true := by decide +kernel
theorem OL_len : OL.length = 243 := by decide +kernel
theorem OL_in : ∀ x ∈ OL, (0 ≤ x ∧ x < 256) ∨ (64256 ≤ x ∧ x < 64320) ∨ (64512 ≤ x ∧ x < 64576) := by decide +kernel
theorem has1 : ∀ k : Fin 256, inOL (k.val : Int) = !(nameP (k.val : Int)).isEmpty := by decide +kernel
theorem has2 : ∀ k : Fin 64, inOL (64256 + (k.val : Int)) = !(nameP (64256 + (k.val : Int))).isEmpty := by decide +kernel
theorem has3 : ∀ k : Fin 64, inOL (64512 + (k.val : Int)) = !(nameP (64512 + (k.val : Int))).isEmpty := by decide +kernel
theorem inOL_no {op : Int} (h : op < 0 ∨ (256 ≤ op ∧ op < 64256) ∨ (64320 ≤ op ∧ op < 64512) ∨ 64576 ≤ op) : inOL op = false := by
  unfold inOL
  rw [List.any_eq_false]
  intro x hx
  have := OL_in x hx
  simp
  omega
theorem has_name (op : Int) : inOL op = !(nameP op).isEmpty := by
  rcases op_parts op with h | ⟨k, rfl⟩ | h | ⟨k, rfl⟩ | h | ⟨k, rfl⟩ | h
  · rw [inOL_no (Or.inl h), (names_far (Or.inl h)).1]; rfl
  · exact has1 k
  · rw [inOL_no (Or.inr (Or.inl h)), (names_far (Or.inr (Or.inl h))).1]; rfl
  · exact has2 k
  · rw [inOL_no (Or.inr (Or.inr (Or.inl h))), (names_far (Or.inr (Or.inr (Or.inl h)))).1]; rfl
  · exact has3 k
  · rw [inOL_no (Or.inr (Or.inr (Or.inr h))), (names_far (Or.inr (Or.inr (Or.inr h)))).1]; rfl
theorem PL_name : ∀ p ∈ PL, nameP p.1 = p.2 := by decide +kernel
theorem PL_back : ∀ p ∈ PL, opP p.2 = some p.1 := by decide +kernel
/- The document's list of opcodes. -/
def rangeI (f : Int) : Nat → List Int
  | 0 => []
  | n + 1 => f :: rangeI (f + 1) n
def opsD : List Int := (rangeI 0 256 ++ rangeI 64256 32 ++ rangeI 64512 32).filter (fun op => !(formD op).isEmpty)
theorem ops_same : opsD = OL := by decide +kernel
end Go.Proofs.YtahmjgmaaaegcaaGreatDoor
