/-
  Plain mathematics of UTF-8; no statement is proved here.
-/
import Derived.Laws.BytesArg
import Derived.Laws.RangeAny
import Derived.Laws.Strings2
import Derived.Test.YtemaeigfhmnapaaGreatDoorReaders
namespace Go.Proofs.YtemaeigfhmnapaaGreatDoor
open Go.RowKit
set_option linter.unusedVariables false
set_option linter.unusedSimpArgs false

/- How many bytes a letter has that begins with f; 0: none begins so. -/
def lt (f : Int) : Nat := if f < 128 then 1 else if 194 ≤ f ∧ f ≤ 223 then 2 else if 224 ≤ f ∧ f ≤ 239 then 3 else if 240 ≤ f ∧ f ≤ 244 then 4 else 0
theorem lt_cases (f : Int) : (f < 128 ∧ lt f = 1) ∨ (194 ≤ f ∧ f ≤ 223 ∧ lt f = 2) ∨ (224 ≤ f ∧ f ≤ 239 ∧ lt f = 3) ∨ (240 ≤ f ∧ f ≤ 244 ∧ lt f = 4) ∨ (128 ≤ f ∧ (f < 194 ∨ 244 < f) ∧ lt f = 0) := by
  unfold lt
  by_cases h1 : f < 128
  · rw [if_pos h1]; omega
  · rw [if_neg h1]
    by_cases h2 : 194 ≤ f ∧ f ≤ 223
    · rw [if_pos h2]; omega
    · rw [if_neg h2]
      by_cases h3 : 224 ≤ f ∧ f ≤ 239
      · rw [if_pos h3]; omega
      · rw [if_neg h3]
        by_cases h4 : 240 ≤ f ∧ f ≤ 244
        · rw [if_pos h4]; omega
        · rw [if_neg h4]; omega
def lo (f : Int) : Int := if f = 224 then 160 else if f = 240 then 144 else 128
def hi (f : Int) : Int := if f = 237 then 159 else if f = 244 then 143 else 191
/- May c stand in the k-th place behind f? -/
def fl (f : Int) (k : Nat) (c : Int) : Bool := if k = 1 then decide (lo f ≤ c ∧ c ≤ hi f) else decide (128 ≤ c ∧ c ≤ 191)
def run (l : List Int) (a n : Nat) (f : Int) : Nat → Nat → Nat
  | 0, k => k
  | g + 1, k => if k < n then (if a + k < l.length ∧ fl f k (l.getD (a + k) 0) = true then run l a n f g (k + 1) else k) else k
/- With how many bytes a letter at a goes on. -/
def stop (l : List Int) (a : Nat) : Nat := if lt (l.getD a 0) = 0 then 0 else run l a (lt (l.getD a 0)) (l.getD a 0) 4 1
/- Is the letter at a whole? -/
abbrev whole (l : List Int) (a : Nat) : Prop := lt (l.getD a 0) ≠ 0 ∧ stop l a = lt (l.getD a 0)
def uo (l : List Int) : Nat → Nat → Int × Bool
  | 0, _ => (0, true)
  | g + 1, a => if a < l.length then (if whole l a then uo l g (a + lt (l.getD a 0)) else (((a + stop l a : Nat) : Int), false)) else (0, true)
theorem lt_pos {l : List Int} {a : Nat} (h : whole l a) : 1 ≤ lt (l.getD a 0) := by have := h.1; omega
theorem uo_fuel (l : List Int) : ∀ (g a : Nat), l.length - a ≤ g → uo l g a = uo l (l.length - a) a := by
  intro g
  induction g using Nat.strongRecOn with
  | _ g ih =>
    intro a h
    by_cases ha : a < l.length
    · obtain ⟨d, hd⟩ : ∃ d, l.length - a = d + 1 := ⟨l.length - a - 1, by omega⟩
      obtain ⟨g', rfl⟩ : ∃ g', g = g' + 1 := ⟨g - 1, by omega⟩
      rw [hd]
      simp only [uo, if_pos ha]
      by_cases hw : whole l a
      · have := lt_pos hw
        rw [if_pos hw, if_pos hw, ih g' (by omega) _ (by omega), ih d (by omega) _ (by omega)]
      · rw [if_neg hw, if_neg hw]
    · rw [show l.length - a = 0 from by omega]
      cases g with
      | zero => rfl
      | succ g => simp only [uo, if_neg ha]
def uat (l : List Int) (a : Nat) : Int × Bool := uo l (l.length - a) a
/- UTF-8 or not: 0 and true, or the place of the first byte with which no such text goes on. -/
def U (l : List Int) : Int × Bool := uat l 0
theorem uat_end {l : List Int} {a : Nat} (h : l.length ≤ a) : uat l a = (0, true) := by
  unfold uat; rw [show l.length - a = 0 from by omega]; rfl
theorem uat_step {l : List Int} {a : Nat} (h : a < l.length) (hw : whole l a) : uat l a = uat l (a + lt (l.getD a 0)) := by
  have := lt_pos hw
  unfold uat
  obtain ⟨d, hd⟩ : ∃ d, l.length - a = d + 1 := ⟨l.length - a - 1, by omega⟩
  rw [hd, uo, if_pos h, if_pos hw, uo_fuel l d _ (by omega)]
theorem uat_bad {l : List Int} {a : Nat} (h : a < l.length) (hw : ¬ whole l a) : uat l a = (((a + stop l a : Nat) : Int), false) := by
  unfold uat
  obtain ⟨d, hd⟩ : ∃ d, l.length - a = d + 1 := ⟨l.length - a - 1, by omega⟩
  rw [hd, uo, if_pos h, if_neg hw]
/- How many bytes go on, the first of them from x up to y. -/
def gon : List Int → Int → Int → Nat
  | [], _, _ => 0
  | c :: r, x, y => if x ≤ c ∧ c ≤ y then gon r 128 191 + 1 else 0
def bgn : List Int → Nat
  | [] => 0
  | f :: r => if 194 ≤ f ∧ f ≤ 244 then gon r (lo f) (hi f) + 1 else 0
theorem getD_drop (l : List Int) (a k : Nat) : (l.drop a).getD k 0 = l.getD (a + k) 0 := by simp [List.getD]
theorem gon_run (l : List Int) (a n : Nat) (f : Int) : ∀ (g k : Nat), 2 ≤ k → run l a n f g k < n → n ≤ k + g → run l a n f g k = k + gon (l.drop (a + k)) 128 191
  | 0, k, h, hs, hn => by simp only [run] at hs; omega
  | g + 1, k, h, hs, hn => by
    simp only [run] at hs ⊢
    by_cases hk : k < n
    · rw [if_pos hk] at hs ⊢
      by_cases hc : a + k < l.length
      · have e : l.drop (a + k) = l.getD (a + k) 0 :: l.drop (a + k + 1) := by
          rw [List.drop_eq_getElem_cons hc]; simp [List.getD, hc]
        rw [e, gon]
        by_cases hf : fl f k (l.getD (a + k) 0) = true
        · rw [if_pos ⟨hc, hf⟩] at hs ⊢
          have hf' : 128 ≤ l.getD (a + k) 0 ∧ l.getD (a + k) 0 ≤ 191 := by
            unfold fl at hf; rw [if_neg (by omega)] at hf; exact of_decide_eq_true hf
          rw [if_pos hf', gon_run l a n f g (k + 1) (by omega) hs (by omega), ← Nat.add_assoc]
          omega
        · rw [if_neg (by rintro ⟨_, h⟩; exact hf h)]
          have hf' : ¬ (128 ≤ l.getD (a + k) 0 ∧ l.getD (a + k) 0 ≤ 191) := by
            intro h'; apply hf; unfold fl; rw [if_neg (by omega)]; exact decide_eq_true h'
          rw [if_neg hf']; rfl
      · rw [if_neg (by rintro ⟨h, _⟩; exact hc h), List.drop_eq_nil_of_le (by omega)]; rfl
    · rw [if_neg hk] at hs; omega
theorem run_le (l : List Int) (a n : Nat) (f : Int) : ∀ g k, k ≤ n → run l a n f g k ≤ n := by
  intro g
  induction g with
  | zero => intro k hk; exact hk
  | succ g ih =>
    intro k hk
    simp only [run]
    split
    · split
      · exact ih _ (by omega)
      · omega
    · omega
theorem bgn_stop {l : List Int} {a : Nat} (ha : a < l.length) (hw : ¬ whole l a) : bgn (l.drop a) = stop l a := by
  have e : l.drop a = l.getD a 0 :: l.drop (a + 1) := by
    rw [List.drop_eq_getElem_cons ha]; simp [List.getD, ha]
  obtain ⟨f, hf⟩ : ∃ f, f = l.getD a 0 := ⟨_, rfl⟩
  rw [e, bgn]
  unfold whole at hw
  unfold stop at hw ⊢
  rw [← hf] at hw ⊢
  have hlt := lt_cases f
  by_cases h0 : lt f = 0
  · rw [if_pos h0, if_neg (by omega)]
  · rw [if_neg h0] at hw ⊢
    have hne : run l a (lt f) f 4 1 ≠ lt f := fun h => hw ⟨h0, h⟩
    have h1 : lt f ≠ 1 := by
      intro h; apply hne; rw [h]; simp [run]
    rw [if_pos (by omega)]
    obtain ⟨n, hn⟩ : ∃ n, n = lt f := ⟨_, rfl⟩
    rw [← hn] at hlt h0 hne h1 ⊢
    have hr : run l a n f 4 1 = if a + 1 < l.length ∧ fl f 1 (l.getD (a + 1) 0) = true then run l a n f 3 2 else 1 := by
      rw [run, if_pos (by omega)]
    rw [hr] at hne ⊢
    by_cases hc : a + 1 < l.length
    · have e1 : l.drop (a + 1) = l.getD (a + 1) 0 :: l.drop (a + 2) := by
        rw [List.drop_eq_getElem_cons hc]; simp [List.getD, hc]
      rw [e1, gon]
      by_cases hf1 : fl f 1 (l.getD (a + 1) 0) = true
      · rw [if_pos ⟨hc, hf1⟩] at hne
        have hx : lo f ≤ l.getD (a + 1) 0 ∧ l.getD (a + 1) 0 ≤ hi f := by
          unfold fl at hf1; rw [if_pos rfl] at hf1; exact of_decide_eq_true hf1
        rw [if_pos hx, if_pos ⟨hc, hf1⟩]
        have h3 := run_le l a n f 3 2 (by omega)
        have hg := gon_run l a n f 3 2 (by omega) (by omega) (by omega)
        rw [hg]
        omega
      · have hx : ¬ (lo f ≤ l.getD (a + 1) 0 ∧ l.getD (a + 1) 0 ≤ hi f) := by
          intro hx; apply hf1; unfold fl; rw [if_pos rfl]; exact decide_eq_true hx
        rw [if_neg hx, if_neg (fun h => hf1 h.2)]
    · rw [if_neg (fun h => hc h.1), List.drop_eq_nil_of_le (by omega)]; rfl
/- The model's strings, as bytes. -/
theorem str_get (l : List Int) (hb : Byt l) (j : Nat) (h : j < l.length) : ((strOfNums l).get! j).toNat = (l.getD j 0).toNat := by
  have hj := hb j
  have : (strOfNums l).get! j = UInt8.ofNat (l.getD j 0).toNat := by
    simp [ByteArray.get!, strOfNums, List.getD, h]
  rw [this, UInt8.toNat_ofNat']
  omega
theorem str_at (l : List Int) (hb : Byt l) (j : Nat) (h : j < (strOfNums l).size) : (((strOfNums l)[j]'h).toNat : Int) = l.getD j 0 := by
  have hj := hb j
  have hl : j < l.length := by rw [← strOfNums_size]; exact h
  have : (strOfNums l)[j]'h = UInt8.ofNat (l.getD j 0).toNat := by
    show (strOfNums l).data[j]'h = _
    simp [strOfNums, List.getD, hl]
  rw [this, UInt8.toNat_ofNat']
  omega
theorem str_drop (l : List Int) (i n : Nat) (hn : n = l.length) : (strOfNums l).extract i n = strOfNums (l.drop i) := by
  subst hn
  unfold strOfNums
  rw [ByteArray.extract_mk, ← List.map_drop, List.take_of_length_le (by simp)]
theorem str_take (l : List Int) (j : Nat) : (strOfNums l).extract 0 j = strOfNums (l.take j) := by
  unfold strOfNums
  rw [ByteArray.extract_mk, ← List.map_drop, ← List.map_take]; simp
theorem Byt.drop {l : List Int} (h : Byt l) (i : Nat) : Byt (l.drop i) := fun j => by rw [getD_drop]; exact h _
theorem Byt.mem {l : List Int} (h : Byt l) : ∀ x ∈ l, 0 ≤ x ∧ x ≤ 255 := by
  intro x hx
  obtain ⟨j, hj, rfl⟩ := List.getElem_of_mem hx
  have := h j
  simpa [List.getD, hj] using this
theorem Byt.of_mem {l : List Int} (h : ∀ x ∈ l, 0 ≤ x ∧ x ≤ 255) : Byt l := by
  intro j
  by_cases hj : j < l.length
  · simp only [List.getD, List.getElem?_eq_getElem hj, Option.getD_some]; exact h _ (List.getElem_mem hj)
  · simp [List.getD, List.getElem?_eq_none (Nat.le_of_not_lt hj)]
theorem Byt.take {l : List Int} (h : Byt l) (i : Nat) : Byt (l.take i) := Byt.of_mem fun x hx => h.mem x (List.mem_of_mem_take hx)
theorem Byt.append {l r : List Int} (h : Byt l) (k : Byt r) : Byt (l ++ r) := Byt.of_mem fun x hx => (List.mem_append.1 hx).elim (h.mem x) (k.mem x)
theorem Byt.nil : Byt [] := Byt.of_mem (by simp)
/- Strings as bytes are bytes one to one. -/
theorem str_inj {l r : List Int} (hl : Byt l) (hr : Byt r) (h : strOfNums l = strOfNums r) : l = r := by
  have h1 : (strOfNums l).data.toList = (strOfNums r).data.toList := by rw [h]
  rw [strOfNums_data, strOfNums_data] at h1
  have hlen : l.length = r.length := by simpa using congrArg List.length h1
  apply List.ext_getElem hlen
  intro i h2 h3
  have h4 := List.getElem_of_eq h1 (i := i) (by simpa using h2)
  simp only [List.getElem_map] at h4
  have := hl.mem _ (List.getElem_mem h2)
  have := hr.mem _ (List.getElem_mem h3)
  have h5 := congrArg UInt8.toNat h4
  rw [UInt8.toNat_ofNat', UInt8.toNat_ofNat'] at h5
  omega
/- The bytes of a string. -/
def nums (s : ByteArray) : List Int := s.data.toList.map fun b => (b.toNat : Int)
theorem str_nums (s : ByteArray) : strOfNums (nums s) = s := by
  apply ByteArray.ext
  simp [strOfNums, nums, Function.comp_def]
theorem nums_byt (s : ByteArray) : Byt (nums s) := Byt.of_mem (by
  intro x hx
  simp only [nums, List.mem_map] at hx
  obtain ⟨b, _, rfl⟩ := hx
  have := b.toNat_lt
  omega)
theorem nums_len (s : ByteArray) : (nums s).length = s.size := by unfold nums; rw [List.length_map]; rfl
theorem whole_iff (l : List Int) (a : Nat) : whole l a ↔
    l.getD a 0 < 128 ∨ (194 ≤ l.getD a 0 ∧ l.getD a 0 ≤ 223 ∧ a + 1 < l.length ∧ 128 ≤ l.getD (a + 1) 0 ∧ l.getD (a + 1) 0 ≤ 191) ∨
    (224 ≤ l.getD a 0 ∧ l.getD a 0 ≤ 239 ∧ a + 2 < l.length ∧ lo (l.getD a 0) ≤ l.getD (a + 1) 0 ∧ l.getD (a + 1) 0 ≤ hi (l.getD a 0) ∧ 128 ≤ l.getD (a + 2) 0 ∧ l.getD (a + 2) 0 ≤ 191) ∨
    (240 ≤ l.getD a 0 ∧ l.getD a 0 ≤ 244 ∧ a + 3 < l.length ∧ lo (l.getD a 0) ≤ l.getD (a + 1) 0 ∧ l.getD (a + 1) 0 ≤ hi (l.getD a 0) ∧ 128 ≤ l.getD (a + 2) 0 ∧ l.getD (a + 2) 0 ≤ 191 ∧ 128 ≤ l.getD (a + 3) 0 ∧ l.getD (a + 3) 0 ≤ 191) := by
  have h1 : (l.getD a 0 ≤ 223 ∧ 194 ≤ l.getD a 0) → lo (l.getD a 0) = 128 ∧ hi (l.getD a 0) = 191 := by
    intro h; unfold lo hi; rw [if_neg (by omega), if_neg (by omega), if_neg (by omega), if_neg (by omega)]; exact ⟨rfl, rfl⟩
  unfold whole stop
  generalize l.getD a 0 = f at *
  rcases lt_cases f with ⟨h, e⟩ | ⟨h, h', e⟩ | ⟨h, h', e⟩ | ⟨h, h', e⟩ | ⟨h, h', e⟩
  · rw [e]; simp [run]; omega
  · obtain ⟨h2, h3⟩ := h1 ⟨h', h⟩
    rw [e]; simp [run, fl, h2, h3]
    omega
  · rw [e]; simp [run, fl]
    split
    · split <;> omega
    · omega
  · rw [e]; simp [run, fl]
    split
    · split
      · split <;> omega
      · omega
    · omega
  · rw [e]; simp; omega
/- What the decoder says. -/
def dec (x0 x1 x2 x3 : Nat) (p1 p2 p3 : Bool) : Nat × Nat :=
  if x0 < 0x80 then (x0, 1)
  else if x0 / 32 == 6 && (p1 && x1 / 64 == 2) then
    (if (x0 % 32) * 64 + x1 % 64 ≥ 0x80 then ((x0 % 32) * 64 + x1 % 64, 2) else (65533, 1))
  else if x0 / 16 == 14 && (p1 && x1 / 64 == 2) && (p2 && x2 / 64 == 2) then
    (if (x0 % 16) * 4096 + (x1 % 64) * 64 + x2 % 64 ≥ 0x800 && Utf8.valid (((x0 % 16) * 4096 + (x1 % 64) * 64 + x2 % 64 : Nat) : Int) then ((x0 % 16) * 4096 + (x1 % 64) * 64 + x2 % 64, 3) else (65533, 1))
  else if x0 / 8 == 30 && (p1 && x1 / 64 == 2) && (p2 && x2 / 64 == 2) && (p3 && x3 / 64 == 2) then
    (if (x0 % 8) * 262144 + (x1 % 64) * 4096 + (x2 % 64) * 64 + x3 % 64 ≥ 0x10000 && Utf8.valid (((x0 % 8) * 262144 + (x1 % 64) * 4096 + (x2 % 64) * 64 + x3 % 64 : Nat) : Int) then ((x0 % 8) * 262144 + (x1 % 64) * 4096 + (x2 % 64) * 64 + x3 % 64, 4) else (65533, 1))
  else (65533, 1)
theorem dec_is (s : ByteArray) (a : Nat) : Utf8.decode s a = dec (s.get! (a + 0)).toNat (s.get! (a + 1)).toNat (s.get! (a + 2)).toNat (s.get! (a + 3)).toNat (decide (a + 1 < s.size)) (decide (a + 2 < s.size)) (decide (a + 3 < s.size)) := rfl
theorem valid_iff (n : Nat) : Utf8.valid (n : Int) = true ↔ n < 55296 ∨ (57344 ≤ n ∧ n ≤ 1114111) := by
  unfold Utf8.valid; simp; omega
theorem lo_is (f : Int) : (f = 224 ∧ lo f = 160) ∨ (f = 240 ∧ lo f = 144) ∨ (f ≠ 224 ∧ f ≠ 240 ∧ lo f = 128) := by
  unfold lo; by_cases h : f = 224
  · rw [if_pos h]; omega
  · rw [if_neg h]; by_cases h' : f = 240
    · rw [if_pos h']; omega
    · rw [if_neg h']; omega
theorem hi_is (f : Int) : (f = 237 ∧ hi f = 159) ∨ (f = 244 ∧ hi f = 143) ∨ (f ≠ 237 ∧ f ≠ 244 ∧ hi f = 191) := by
  unfold hi; by_cases h : f = 237
  · rw [if_pos h]; omega
  · rw [if_neg h]; by_cases h' : f = 244
    · rw [if_pos h']; omega
    · rw [if_neg h']; omega
theorem dec_num (f y1 y2 y3 : Int) (x0 x1 x2 x3 : Nat) (p1 p2 p3 : Bool) (h0 : f = x0) (h1 : p1 = true → y1 = x1) (h2 : p2 = true → y2 = x2) (h3 : p3 = true → y3 = x3) (b0 : x0 ≤ 255) (b1 : x1 ≤ 255) (b2 : x2 ≤ 255) (b3 : x3 ≤ 255) (q2 : p2 = true → p1 = true) (q3 : p3 = true → p2 = true) (hw : f < 128 ∨ (194 ≤ f ∧ f ≤ 223 ∧ p1 = true ∧ 128 ≤ y1 ∧ y1 ≤ 191) ∨ (224 ≤ f ∧ f ≤ 239 ∧ p2 = true ∧ lo f ≤ y1 ∧ y1 ≤ hi f ∧ 128 ≤ y2 ∧ y2 ≤ 191) ∨
    (240 ≤ f ∧ f ≤ 244 ∧ p3 = true ∧ lo f ≤ y1 ∧ y1 ≤ hi f ∧ 128 ≤ y2 ∧ y2 ≤ 191 ∧ 128 ≤ y3 ∧ y3 ≤ 191)) :
    (dec x0 x1 x2 x3 p1 p2 p3).2 = lt f ∧ ((dec x0 x1 x2 x3 p1 p2 p3).1 = 65533 → p2 = true ∧ f = 239 ∧ y1 = 191 ∧ y2 = 189) := by
  subst h0
  have _ := b2
  have _ := b3
  have hlt := lt_cases x0
  have hlo := lo_is x0
  have hhi := hi_is x0
  generalize lo (x0 : Int) = L at *
  generalize hi (x0 : Int) = G at *
  rcases hw with h | ⟨h, h', e, hw⟩ | ⟨h, h', e, hw⟩ | ⟨h, h', e, hw⟩
  · unfold dec; rw [if_pos (by omega)]; simp only; omega
  · subst e
    have e1 := h1 rfl
    unfold dec
    rw [if_neg (by omega), if_pos (by simp; omega), if_pos (by omega)]; simp only; omega
  · subst e
    have e0 := q2 rfl
    subst e0
    have e1 := h1 rfl
    have e2 := h2 rfl
    unfold dec
    have hv := valid_iff (x0 % 16 * 4096 + x1 % 64 * 64 + x2 % 64)
    rw [if_neg (by omega), if_neg (by simp; omega), if_pos (by simp; omega), if_pos]
    · exact ⟨by simp only; omega, fun h => ⟨rfl, by simp only at h; omega⟩⟩
    · rw [Bool.and_eq_true, hv, decide_eq_true_eq]; omega
  · subst e
    have e0 := q3 rfl
    subst e0
    have e0 := q2 rfl
    subst e0
    have e1 := h1 rfl
    have e2 := h2 rfl
    have e3 := h3 rfl
    unfold dec
    have hv := valid_iff (x0 % 8 * 262144 + x1 % 64 * 4096 + x2 % 64 * 64 + x3 % 64)
    rw [if_neg (by omega), if_neg (by simp; omega), if_neg (by simp; omega), if_pos (by simp; omega), if_pos]
    · simp only; omega
    · rw [Bool.and_eq_true, hv, decide_eq_true_eq]; omega
theorem dec_not (f y1 y2 y3 : Int) (x0 x1 x2 x3 : Nat) (p1 p2 p3 : Bool) (h0 : f = x0) (h1 : p1 = true → y1 = x1) (h2 : p2 = true → y2 = x2) (h3 : p3 = true → y3 = x3) (b0 : x0 ≤ 255) (b1 : x1 ≤ 255) (b2 : x2 ≤ 255) (b3 : x3 ≤ 255) (q2 : p2 = true → p1 = true) (q3 : p3 = true → p2 = true) (hw : ¬ (f < 128 ∨ (194 ≤ f ∧ f ≤ 223 ∧ p1 = true ∧ 128 ≤ y1 ∧ y1 ≤ 191) ∨ (224 ≤ f ∧ f ≤ 239 ∧ p2 = true ∧ lo f ≤ y1 ∧ y1 ≤ hi f ∧ 128 ≤ y2 ∧ y2 ≤ 191) ∨
    (240 ≤ f ∧ f ≤ 244 ∧ p3 = true ∧ lo f ≤ y1 ∧ y1 ≤ hi f ∧ 128 ≤ y2 ∧ y2 ≤ 191 ∧ 128 ≤ y3 ∧ y3 ≤ 191))) :
    dec x0 x1 x2 x3 p1 p2 p3 = (65533, 1) := by
  subst h0
  have hlo := lo_is x0
  have hhi := hi_is x0
  generalize lo (x0 : Int) = L at *
  generalize hi (x0 : Int) = G at *
  have i1 : p1 = true ∧ y1 = x1 ∨ p1 = false := by cases p1 <;> simp at h1 ⊢; exact h1
  have i2 : p2 = true ∧ y2 = x2 ∨ p2 = false := by cases p2 <;> simp at h2 ⊢; exact h2
  have i3 : p3 = true ∧ y3 = x3 ∨ p3 = false := by cases p3 <;> simp at h3 ⊢; exact h3
  clear h1 h2 h3 q2 q3
  unfold dec
  rw [if_neg (by omega)]
  have r2 : (if x0 % 32 * 64 + x1 % 64 ≥ 128 then (x0 % 32 * 64 + x1 % 64, 2) else (65533, 1)) = (65533, 1) ∨ ¬ (x0 / 32 = 6 ∧ p1 = true ∧ x1 / 64 = 2) := by
    rcases i1 with ⟨rfl, e1⟩ | rfl
    · by_cases c : x0 / 32 = 6 ∧ x1 / 64 = 2
      · left; rw [if_neg (by simp at hw; omega)]
      · right; simp; omega
    · right; simp
  have r3 : (if x0 % 16 * 4096 + x1 % 64 * 64 + x2 % 64 ≥ 2048 && Utf8.valid ((x0 % 16 * 4096 + x1 % 64 * 64 + x2 % 64 : Nat) : Int) then (x0 % 16 * 4096 + x1 % 64 * 64 + x2 % 64, 3) else (65533, 1)) = (65533, 1) ∨ ¬ ((x0 / 16 = 14 ∧ p1 = true ∧ x1 / 64 = 2) ∧ p2 = true ∧ x2 / 64 = 2) := by
    rcases i1 with ⟨rfl, e1⟩ | rfl
    · rcases i2 with ⟨rfl, e2⟩ | rfl
      · by_cases c : x0 / 16 = 14 ∧ x1 / 64 = 2 ∧ x2 / 64 = 2
        · left
          have hv := valid_iff (x0 % 16 * 4096 + x1 % 64 * 64 + x2 % 64)
          rw [if_neg]
          rw [Bool.and_eq_true, hv, decide_eq_true_eq]
          simp at hw; omega
        · right; simp; omega
      · right; simp
    · right; simp
  have r4 : (if x0 % 8 * 262144 + x1 % 64 * 4096 + x2 % 64 * 64 + x3 % 64 ≥ 65536 && Utf8.valid ((x0 % 8 * 262144 + x1 % 64 * 4096 + x2 % 64 * 64 + x3 % 64 : Nat) : Int) then (x0 % 8 * 262144 + x1 % 64 * 4096 + x2 % 64 * 64 + x3 % 64, 4) else (65533, 1)) = (65533, 1) ∨ ¬ (((x0 / 8 = 30 ∧ p1 = true ∧ x1 / 64 = 2) ∧ p2 = true ∧ x2 / 64 = 2) ∧ p3 = true ∧ x3 / 64 = 2) := by
    rcases i1 with ⟨rfl, e1⟩ | rfl
    · rcases i2 with ⟨rfl, e2⟩ | rfl
      · rcases i3 with ⟨rfl, e3⟩ | rfl
        · by_cases c : x0 / 8 = 30 ∧ x1 / 64 = 2 ∧ x2 / 64 = 2 ∧ x3 / 64 = 2
          · left
            have hv := valid_iff (x0 % 8 * 262144 + x1 % 64 * 4096 + x2 % 64 * 64 + x3 % 64)
            rw [if_neg]
            rw [Bool.and_eq_true, hv, decide_eq_true_eq]
            simp at hw; omega
          · right; simp; omega
        · right; simp
      · right; simp
    · right; simp
  by_cases c2 : x0 / 32 = 6 ∧ p1 = true ∧ x1 / 64 = 2
  · rw [if_pos (by simpa using c2)]; exact r2.resolve_right (fun h => h c2)
  · rw [if_neg (by simpa using c2)]
    by_cases c3 : (x0 / 16 = 14 ∧ p1 = true ∧ x1 / 64 = 2) ∧ p2 = true ∧ x2 / 64 = 2
    · rw [if_pos (by simpa using c3)]; exact r3.resolve_right (fun h => h c3)
    · rw [if_neg (by simpa using c3)]
      by_cases c4 : ((x0 / 8 = 30 ∧ p1 = true ∧ x1 / 64 = 2) ∧ p2 = true ∧ x2 / 64 = 2) ∧ p3 = true ∧ x3 / 64 = 2
      · rw [if_pos (by simpa using c4)]; exact r4.resolve_right (fun h => h c4)
      · rw [if_neg (by simpa using c4)]
theorem take3 {l : List Int} {a : Nat} : (l.drop a).take 3 = [239, 191, 189] ↔ a + 2 < l.length ∧ l.getD a 0 = 239 ∧ l.getD (a + 1) 0 = 191 ∧ l.getD (a + 2) 0 = 189 := by
  rw [show l.getD a 0 = (l.drop a).getD 0 0 from (getD_drop l a 0).symm, ← getD_drop l a 1, ← getD_drop l a 2, show a + 2 < l.length ↔ 2 < (l.drop a).length from by simp; omega]
  generalize l.drop a = m
  rcases m with _ | ⟨x, _ | ⟨y, _ | ⟨z, m⟩⟩⟩ <;> simp
theorem dec_whole {l : List Int} {a : Nat} (hb : Byt l) (ha : a < l.length) (hw : whole l a) :
    (Utf8.decode (strOfNums l) a).2 = lt (l.getD a 0) ∧ ((Utf8.decode (strOfNums l) a).1 = 65533 → (l.drop a).take 3 = [239, 191, 189]) := by
  rw [whole_iff] at hw
  rw [take3, dec_is, strOfNums_size]
  have g0 := hb a
  have g : ∀ k, ((strOfNums l).get! (a + k)).toNat ≤ 255 := fun k => by have := ((strOfNums l).get! (a + k)).toNat_lt; omega
  have gk : ∀ k, decide (a + k < l.length) = true → l.getD (a + k) 0 = ((strOfNums l).get! (a + k)).toNat := fun k h => by
    rw [str_get l hb _ (of_decide_eq_true h)]; have := hb (a + k); omega
  have := dec_num (l.getD a 0) (l.getD (a + 1) 0) (l.getD (a + 2) 0) (l.getD (a + 3) 0) _ _ _ _ (decide (a + 1 < l.length)) (decide (a + 2 < l.length)) (decide (a + 3 < l.length))
    (gk 0 (decide_eq_true ha)) (gk 1) (gk 2) (gk 3) (g 0) (g 1) (g 2) (g 3) (by simp; omega) (by simp; omega) (by simpa using hw)
  simpa using this
theorem dec_bad {l : List Int} {a : Nat} (hb : Byt l) (ha : a < l.length) (hw : ¬ whole l a) :
    Utf8.decode (strOfNums l) a = (65533, 1) ∧ (l.drop a).take 3 ≠ [239, 191, 189] := by
  rw [whole_iff] at hw
  constructor
  · rw [dec_is, strOfNums_size]
    have g : ∀ k, ((strOfNums l).get! (a + k)).toNat ≤ 255 := fun k => by have := ((strOfNums l).get! (a + k)).toNat_lt; omega
    have gk : ∀ k, decide (a + k < l.length) = true → l.getD (a + k) 0 = ((strOfNums l).get! (a + k)).toNat := fun k h => by
      rw [str_get l hb _ (of_decide_eq_true h)]; have := hb (a + k); omega
    exact dec_not (l.getD a 0) (l.getD (a + 1) 0) (l.getD (a + 2) 0) (l.getD (a + 3) 0) _ _ _ _ (decide (a + 1 < l.length)) (decide (a + 2 < l.length)) (decide (a + 3 < l.length))
      (gk 0 (decide_eq_true ha)) (gk 1) (gk 2) (gk 3) (g 0) (g 1) (g 2) (g 3) (by simp; omega) (by simp; omega) (by simpa using hw)
  · rw [Ne, take3]
    rintro ⟨h1, h2, h3, h4⟩
    apply hw
    rw [h2, h3, h4]
    right; right; left
    simp [lo, hi, h1]
end Go.Proofs.YtemaeigfhmnapaaGreatDoor
