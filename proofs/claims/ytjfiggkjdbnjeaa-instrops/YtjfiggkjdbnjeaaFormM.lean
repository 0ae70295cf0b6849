/-
  Plain mathematics: the forms of opcodes against the document's rows; nothing of the program.
-/
import Derived.Test.YtjfiggkjdbnjeaaNmM
namespace Go.Proofs.Ytjfiggkjdbnjeaa
set_option linter.unusedVariables false
set_option linter.unusedSimpArgs false

def formL : List (Int × Int) := [(0, 1), (1, 1), (5, 1), (10, 1), (11, 1), (15, 1), (26, 1), (27, 1), (209, 1), (211, 1), (212, 1), (64271, 1), (2, 2), (3, 2), (4, 2), (31, 3), (8, 4), (12, 4), (13, 4), (16, 4), (18, 4), (20, 4), (21, 4), (63, 4), (64, 4), (210, 4), (213, 4), (214, 4), (64256, 4), (64257, 4), (64262, 4), (64263, 4), (64272, 4), (64521, 4), (64523, 4), (64525, 4), (64527, 4), (64528, 4), (64529, 4), (17, 5), (19, 5), (64265, 5), (64266, 5), (64273, 5), (64274, 5), (64275, 5), (64520, 5), (64522, 5), (64524, 5), (64526, 5), (14, 6), (28, 7), (208, 13), (64280, 15), (64281, 15), (64264, 16)]
def runP (op : Int) : Int := if 32 ≤ op ∧ op ≤ 38 then 4 else if 40 ≤ op ∧ op ≤ 62 then 8 else if 65 ≤ op ∧ op ≤ 68 then op - 56 else if 69 ≤ op ∧ op ≤ 196 then 1 else if 64258 ≤ op ∧ op ≤ 64261 then 5 else if 64267 ≤ op ∧ op ≤ 64270 then 4 else if 64276 ≤ op ∧ op ≤ 64279 then 14 else if 64282 ≤ op ∧ op ≤ 64286 then 1 else if 64512 ≤ op ∧ op ≤ 64519 then 1 else 0
def lookF (op : Int) : List (Int × Int) → Int
  | [] => runP op
  | x :: l => if x.1 = op then x.2 else lookF op l
def formP (op : Int) : Int := lookF op formL
def fwords : List UInt8 := [45, 32, 98, 108, 111, 99, 107, 32, 116, 114, 121, 32, 120, 32, 120, 121, 32, 116, 97, 98, 108, 101, 32, 115, 101, 108, 101, 99, 116, 32, 109, 101, 109, 32, 105, 51, 50, 32, 105, 54, 52, 32, 102, 51, 50, 32, 102, 54, 52, 32, 104, 101, 97, 112, 32, 99, 97, 115, 116, 32, 98, 114, 95, 99, 97, 115, 116, 32, 120, 110]
def wordP (f : Int) : List UInt8 := if f = 0 then [] else ((cutW fwords [])[(f - 1).toNat]?).getD []
theorem lookF_no (op : Int) : ∀ l : List (Int × Int), (∀ x ∈ l, x.1 ≠ op) → lookF op l = runP op
  | [], h => rfl
  | x :: l, h => by rw [lookF, if_neg (h x (by simp))]; exact lookF_no op l (fun y hy => h y (by simp [hy]))
theorem formL_in : ∀ x ∈ formL, (0 ≤ x.1 ∧ x.1 < 256) ∨ (64256 ≤ x.1 ∧ x.1 < 64320) ∨ (64512 ≤ x.1 ∧ x.1 < 64576) := by decide +kernel
theorem form_far {op : Int} (h : op < 0 ∨ (256 ≤ op ∧ op < 64256) ∨ (64320 ≤ op ∧ op < 64512) ∨ 64576 ≤ op) : formP op = 0 := by
  unfold formP
  rw [lookF_no op _ (fun x hx he => by have := formL_in x hx; omega)]
  unfold runP
  repeat rw [if_neg (by omega)]
theorem formN1 : ∀ k : Fin 256, wordP (formP (k.val : Int)) = formD (k.val : Int) ∧ 0 ≤ formP (k.val : Int) ∧ formP (k.val : Int) ≤ 16 := by decide +kernel
theorem formN2 : ∀ k : Fin 64, wordP (formP (64256 + (k.val : Int))) = formD (64256 + (k.val : Int)) ∧ 0 ≤ formP (64256 + (k.val : Int)) ∧ formP (64256 + (k.val : Int)) ≤ 16 := by decide +kernel
theorem formN3 : ∀ k : Fin 64, wordP (formP (64512 + (k.val : Int))) = formD (64512 + (k.val : Int)) ∧ 0 ≤ formP (64512 + (k.val : Int)) ∧ formP (64512 + (k.val : Int)) ≤ 16 := by decide +kernel
theorem form_same (op : Int) : wordP (formP op) = formD op ∧ 0 ≤ formP op ∧ formP op ≤ 16 := by
  rcases op_parts op with h | ⟨k, rfl⟩ | h | ⟨k, rfl⟩ | h | ⟨k, rfl⟩ | h
  · rw [form_far (Or.inl h), (names_far (Or.inl h)).2.2]; decide
  · exact formN1 k
  · rw [form_far (Or.inr (Or.inl h)), (names_far (Or.inr (Or.inl h))).2.2]; decide
  · exact formN2 k
  · rw [form_far (Or.inr (Or.inr (Or.inl h))), (names_far (Or.inr (Or.inr (Or.inl h)))).2.2]; decide
  · exact formN3 k
  · rw [form_far (Or.inr (Or.inr (Or.inr h))), (names_far (Or.inr (Or.inr (Or.inr h)))).2.2]; decide
theorem fwords_fine : (∀ c ∈ fwords, c.toNat < 128) ∧ fwords.length ≤ 60000 ∧ (cutW fwords []).length = 16 := by decide +kernel
end Go.Proofs.Ytjfiggkjdbnjeaa
