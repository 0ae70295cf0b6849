/-
  The text of a rolled up group tells it; no statement is proved here.
-/
import Derived.Test.YtojkonoffdlbpaaDoorCText
namespace Go.Proofs.YtojkonoffdlbpaaDoor
open Go.RowKit
set_option linter.unusedVariables false
set_option linter.unusedSimpArgs false

def valD (l : List UInt8) : Nat := l.foldl (fun a c => 10 * a + (c.toNat - 48)) 0
theorem valD_snoc (l : List UInt8) (c : UInt8) : valD (l ++ [c]) = 10 * valD l + (c.toNat - 48) := by simp [valD, List.foldl_append]
theorem dig_nat {k : Nat} (h : k < 10) : (UInt8.ofNat (48 + k)).toNat = 48 + k := by
  rw [UInt8.toNat_ofNat']; omega
theorem val_dec (u : Nat) : valD (Lib.decDigits u) = u := by
  induction u using Nat.strongRecOn with
  | _ u ih =>
    by_cases h : u < 10
    · rw [Lib.decDigits, dif_pos h]
      have := dig_nat h
      unfold valD
      simp only [List.foldl_cons, List.foldl_nil]
      omega
    · rw [Lib.decDigits, dif_neg h, valD_snoc, ih (u / 10) (by omega), dig_nat (Nat.mod_lt _ (by decide))]
      omega
theorem dec_mem (u : Nat) : ∀ c ∈ Lib.decDigits u, 48 ≤ c.toNat := by
  induction u using Nat.strongRecOn with
  | _ u ih =>
    intro c hc
    by_cases h : u < 10
    · rw [Lib.decDigits, dif_pos h, List.mem_singleton] at hc
      subst hc
      rw [dig_nat h]; omega
    · rw [Lib.decDigits, dif_neg h, List.mem_append, List.mem_singleton] at hc
      rcases hc with hc | hc
      · exact ih (u / 10) (by omega) c hc
      · subst hc
        rw [dig_nat (Nat.mod_lt _ (by decide))]; omega
theorem dec_ne (u : Nat) : Lib.decDigits u ≠ [] := by
  intro h
  have h1 := Lib.decDigits_length u
  have h2 := Lib.nDigits_pos u
  rw [h] at h1
  simp at h1
  omega
theorem itoa_inj {n m : Int} (h : Lib.itoa n = Lib.itoa m) : n = m := by
  unfold Lib.itoa at h
  by_cases hn : n < 0 <;> by_cases hm : m < 0
  · rw [if_pos hn, if_pos hm] at h
    injection h with _ h
    have := congrArg valD h
    rw [val_dec, val_dec] at this
    omega
  · rw [if_pos hn, if_neg hm] at h
    have := dec_mem m.toNat 45 (by rw [← h]; simp)
    simp at this
  · rw [if_neg hn, if_pos hm] at h
    have := dec_mem n.toNat 45 (by rw [h]; simp)
    simp at this
  · rw [if_neg hn, if_neg hm] at h
    have := congrArg valD h
    rw [val_dec, val_dec] at this
    omega
theorem itoa_blank (n : Int) : ∀ c ∈ Lib.itoa n, c ≠ 32 := by
  intro c hc e
  subst e
  unfold Lib.itoa at hc
  split at hc
  · rcases List.mem_cons.1 hc with h | h
    · cases h
    · have := dec_mem _ _ h; simp at this
  · have := dec_mem _ _ hc; simp at this
def numB (n : Int) : List UInt8 := Lib.itoa n ++ [32]
/- What is written tells what it was, whatever stands behind it. -/
def Pre {α : Type} (f : α → List UInt8) : Prop := ∀ a b r s, f a ++ r = f b ++ s → a = b ∧ r = s
theorem split_blank : ∀ (a b r s : List UInt8), (∀ c ∈ a, c ≠ 32) → (∀ c ∈ b, c ≠ 32) → a ++ 32 :: r = b ++ 32 :: s → a = b ∧ r = s
  | [], [], r, s, _, _, h => by simpa using h
  | [], y :: b, r, s, _, hb, h => by
    rw [List.nil_append, List.cons_append] at h
    injection h with h1 _
    exact absurd h1.symm (hb y (by simp))
  | x :: a, [], r, s, ha, _, h => by
    rw [List.nil_append, List.cons_append] at h
    injection h with h1 _
    exact absurd h1 (ha x (by simp))
  | x :: a, y :: b, r, s, ha, hb, h => by
    rw [List.cons_append, List.cons_append] at h
    injection h with h1 h2
    obtain ⟨h3, h4⟩ := split_blank a b r s (fun c hc => ha c (by simp [hc])) (fun c hc => hb c (by simp [hc])) h2
    exact ⟨by rw [h1, h3], h4⟩
theorem pre_num : Pre numB := by
  intro a b r s h
  unfold numB at h
  rw [List.append_assoc, List.append_assoc] at h
  obtain ⟨h1, h2⟩ := split_blank _ _ r s (itoa_blank a) (itoa_blank b) (by simpa using h)
  exact ⟨itoa_inj h1, h2⟩
def flagB (b : Bool) : List UInt8 := numB (if b then 1 else 0)
theorem pre_flag : Pre flagB := by
  intro a b r s h
  obtain ⟨h1, h2⟩ := pre_num _ _ r s h
  exact ⟨by cases a <;> cases b <;> simp_all, h2⟩
def VT.b (x : VT) : List UInt8 := numB x.num ++ flagB x.null ++ numB x.heap
def FT.b (x : FT) : List UInt8 := flagB x.mut_ ++ x.ty.b
def listB {α : Type} (f : α → List UInt8) (l : List α) : List UInt8 := numB (l.length : Int) ++ l.flatMap f
def SB.b (x : SB) : List UInt8 := flagB x.final_ ++ listB numB x.supers ++ numB x.comp.kind ++ listB VT.b x.comp.params ++ listB VT.b x.comp.results ++ listB FT.b x.comp.fields
def txt (l : List SB) : List UInt8 := l.flatMap SB.b
theorem pre_V : Pre VT.b := by
  rintro ⟨a1, a2, a3⟩ ⟨b1, b2, b3⟩ r s h
  unfold VT.b at h
  simp only [List.append_assoc] at h
  obtain ⟨e1, h1⟩ := pre_num _ _ _ _ h
  obtain ⟨e2, h2⟩ := pre_flag _ _ _ _ h1
  obtain ⟨e3, h3⟩ := pre_num _ _ _ _ h2
  subst e1 e2 e3
  exact ⟨rfl, h3⟩
theorem pre_F : Pre FT.b := by
  rintro ⟨a1, a2⟩ ⟨b1, b2⟩ r s h
  unfold FT.b at h
  simp only [List.append_assoc] at h
  obtain ⟨e1, h1⟩ := pre_flag _ _ _ _ h
  obtain ⟨e2, h2⟩ := pre_V _ _ _ _ h1
  try simp only at e1 e2
  subst e1 e2
  exact ⟨rfl, h2⟩
theorem pre_flat {α : Type} {f : α → List UInt8} (hf : Pre f) : ∀ (a b : List α) (r s : List UInt8), a.length = b.length → a.flatMap f ++ r = b.flatMap f ++ s → a = b ∧ r = s
  | [], [], r, s, _, h => by simpa using h
  | x :: a, y :: b, r, s, hl, h => by
    rw [List.flatMap_cons, List.flatMap_cons, List.append_assoc, List.append_assoc] at h
    obtain ⟨e1, h⟩ := hf _ _ _ _ h
    obtain ⟨e2, h⟩ := pre_flat hf a b r s (by simpa using hl) h
    exact ⟨by rw [e1, e2], h⟩
theorem pre_list {α : Type} {f : α → List UInt8} (hf : Pre f) : Pre (listB f) := by
  intro a b r s h
  unfold listB at h
  simp only [List.append_assoc] at h
  obtain ⟨e1, h⟩ := pre_num _ _ _ _ h
  exact pre_flat hf a b r s (by omega) h
theorem pre_S : Pre SB.b := by
  rintro ⟨a1, a2, ⟨a3, a4, a5, a6⟩⟩ ⟨b1, b2, ⟨b3, b4, b5, b6⟩⟩ r s h
  unfold SB.b at h
  simp only [List.append_assoc] at h
  obtain ⟨e1, h1⟩ := pre_flag _ _ _ _ h
  obtain ⟨e2, h2⟩ := pre_list pre_num _ _ _ _ h1
  obtain ⟨e3, h3⟩ := pre_num _ _ _ _ h2
  obtain ⟨e4, h4⟩ := pre_list pre_V _ _ _ _ h3
  obtain ⟨e5, h5⟩ := pre_list pre_V _ _ _ _ h4
  obtain ⟨e6, h6⟩ := pre_list pre_F _ _ _ _ h5
  try simp only at e1 e2 e3 e4 e5 e6
  subst e1 e2 e3 e4 e5 e6
  exact ⟨rfl, h6⟩
theorem numB_ne (n : Int) : numB n ≠ [] := by unfold numB; simp
theorem SB.b_ne (x : SB) : x.b ≠ [] := by
  intro h
  unfold SB.b flagB at h
  simp only [List.append_eq_nil_iff] at h
  exact numB_ne _ h.1.1.1.1.1
theorem txt_inj : ∀ {a b : List SB}, txt a = txt b → a = b
  | [], [], _ => rfl
  | [], y :: b, h => by
    unfold txt at h
    rw [List.flatMap_nil, List.flatMap_cons] at h
    exact absurd (List.append_eq_nil_iff.1 h.symm).1 (SB.b_ne y)
  | x :: a, [], h => by
    unfold txt at h
    rw [List.flatMap_nil, List.flatMap_cons] at h
    exact absurd (List.append_eq_nil_iff.1 h).1 (SB.b_ne x)
  | x :: a, y :: b, h => by
    unfold txt at h
    rw [List.flatMap_cons, List.flatMap_cons] at h
    obtain ⟨e1, h⟩ := pre_S _ _ _ _ h
    rw [e1, txt_inj (a := a) (b := b) h]
/- The cells that are written are these bytes. -/
theorem bc_app (a b : List UInt8) : Lib.byteCells (a ++ b) = Lib.byteCells a ++ Lib.byteCells b := by simp [Lib.byteCells]
theorem num_bc (n : Int) : numC n = Lib.byteCells (numB n) := by
  unfold numC numB; rw [bc_app]; rfl
theorem flag_bc (b : Bool) : flagC b = Lib.byteCells (flagB b) := num_bc _
theorem V_bc (x : VT) : x.t = Lib.byteCells x.b := by
  unfold VT.t VT.b; rw [bc_app, bc_app, num_bc, flag_bc, num_bc]
theorem F_bc (x : FT) : x.t = Lib.byteCells x.b := by
  unfold FT.t FT.b; rw [bc_app, flag_bc, V_bc]
theorem flat_bc {α : Type} {f : α → List Value} {g : α → List UInt8} (h : ∀ a, f a = Lib.byteCells (g a)) : ∀ l : List α, l.flatMap f = Lib.byteCells (l.flatMap g)
  | [] => rfl
  | a :: l => by rw [List.flatMap_cons, List.flatMap_cons, bc_app, h a, flat_bc h l]
theorem S_bc (x : SB) : x.t = Lib.byteCells x.b := by
  unfold SB.t SB.b listB
  simp only [bc_app, num_bc, flag_bc, flat_bc num_bc, flat_bc V_bc, flat_bc F_bc]
theorem txt_bc (l : List SB) : l.flatMap SB.t = Lib.byteCells (txt l) := flat_bc S_bc l
theorem bc_inj : ∀ {a b : List UInt8}, Lib.byteCells a = Lib.byteCells b → a = b
  | [], [], _ => rfl
  | [], y :: b, h => by simp [Lib.byteCells] at h
  | x :: a, [], h => by simp [Lib.byteCells] at h
  | x :: a, y :: b, h => by
    simp only [Lib.byteCells, List.map_cons, List.cons.injEq] at h
    obtain ⟨h1, h2⟩ := h
    have e : x = y := by
      injection h1 with _ h1
      exact UInt8.toNat_inj.1 (by omega)
    rw [e, bc_inj (a := a) (b := b) h2]
theorem txt_len (l : List SB) : (txt l).length = (l.flatMap SB.t).length := by rw [txt_bc]; simp [Lib.byteCells]
end Go.Proofs.YtojkonoffdlbpaaDoor
