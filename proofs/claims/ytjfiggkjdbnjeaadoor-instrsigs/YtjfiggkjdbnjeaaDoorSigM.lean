/-
  Plain mathematics: what operators take and answer, what loads and stores move, by tables and by names; nothing of the program.
-/
import Derived.Test.YtjfiggkjdbnjeaaDoorNmM
namespace Go.Proofs.YtjfiggkjdbnjeaaDoor
set_option linter.unusedVariables false
set_option linter.unusedSimpArgs false

def sigL : List (Int × Int × Int × Int) := [(65, 0, 0, 1), (66, 0, 0, 2), (67, 0, 0, 3), (68, 0, 0, 4), (69, 1, 1, 1), (70, 1, 2, 1), (80, 2, 1, 1), (81, 2, 2, 1), (91, 3, 2, 1), (97, 4, 2, 1), (103, 1, 1, 1), (106, 1, 2, 1), (121, 2, 1, 2), (124, 2, 2, 2), (139, 3, 1, 3), (146, 3, 2, 3), (153, 4, 1, 4), (160, 4, 2, 4), (167, 2, 1, 1), (168, 3, 1, 1), (170, 4, 1, 1), (172, 1, 1, 2), (174, 3, 1, 2), (176, 4, 1, 2), (178, 1, 1, 3), (180, 2, 1, 3), (182, 4, 1, 3), (183, 1, 1, 4), (185, 2, 1, 4), (187, 3, 1, 4), (188, 3, 1, 1), (189, 4, 1, 2), (190, 1, 1, 3), (191, 2, 1, 4), (192, 1, 1, 1), (194, 2, 1, 2), (64512, 3, 1, 1), (64514, 4, 1, 1), (64516, 3, 1, 2), (64518, 4, 1, 2)]
def accL : List (Int × Int × Bool) := [(1, 4, false), (2, 8, false), (3, 4, false), (4, 8, false), (1, 1, true), (1, 1, false), (1, 2, true), (1, 2, false), (2, 1, true), (2, 1, false), (2, 2, true), (2, 2, false), (2, 4, true), (2, 4, false), (1, 4, false), (2, 8, false), (3, 4, false), (4, 8, false), (1, 1, false), (1, 2, false), (2, 1, false), (2, 2, false), (2, 4, false)]
def isOpB (op : Int) : Bool := decide (65 ≤ op ∧ op ≤ 196) || decide (64512 ≤ op ∧ op ≤ 64519)
/- The place of the last row that does not begin behind an opcode. -/
def lastI (op : Int) : List (Int × Int × Int × Int) → Nat → Nat → Nat
  | [], _, f => f
  | r :: l, n, f => lastI op l (n + 1) (if r.1 ≤ op then n else f)
def sigRow (op : Int) : Int × Int × Int × Int := sigL.getD (lastI op sigL 0 0) (0, 0, 0, 0)
def letterP (s : List UInt8) : Int := if s = [105, 51, 50] then 1 else if s = [105, 54, 52] then 2 else if s = [102, 51, 50] then 3 else 4
def withinF (p : List UInt8) : List UInt8 → Nat → Int
  | [], i => if p = [] then i else -1
  | c :: r, i => if p.length ≤ (c :: r).length then (if (c :: r).take p.length = p then i else withinF p r (i + 1)) else -1
def withinP (s p : List UInt8) : Int := withinF p s 0
def fromW : List UInt8 := [119, 114, 97, 112, 95, 32, 116, 114, 117, 110, 99, 95, 115, 97, 116, 95, 32, 116, 114, 117, 110, 99, 95, 32, 101, 120, 116, 101, 110, 100, 95, 32, 99, 111, 110, 118, 101, 114, 116, 95, 32, 100, 101, 109, 111, 116, 101, 95, 32, 112, 114, 111, 109, 111, 116, 101, 95, 32, 114, 101, 105, 110, 116, 101, 114, 112, 114, 101, 116, 95]
def oneW : List UInt8 := [101, 113, 122, 32, 99, 108, 122, 32, 99, 116, 122, 32, 112, 111, 112, 99, 110, 116, 32, 97, 98, 115, 32, 110, 101, 103, 32, 99, 101, 105, 108, 32, 102, 108, 111, 111, 114, 32, 116, 114, 117, 110, 99, 32, 110, 101, 97, 114, 101, 115, 116, 32, 115, 113, 114, 116, 32, 101, 120, 116, 101, 110, 100, 56, 95, 115, 32, 101, 120, 116, 101, 110, 100, 49, 54, 95, 115, 32, 101, 120, 116, 101, 110, 100, 51, 50, 95, 115]
def fromF (name : List UInt8) : List (List UInt8) → Int
  | [] => 0
  | x :: l => if 0 ≤ withinP name x then letterP ((name.drop ((withinP name x).toNat + x.length)).take 3) else fromF name l
def fromP (name : List UInt8) : Int := fromF name (cutW fromW [])
def oneP (x : List UInt8) : Bool := (cutW oneW []).any (fun y => decide (y = x))
/- What an operator takes and answers, by its name. -/
def takesD (op : Int) : List Int := if (nameP op).drop 4 = [99, 111, 110, 115, 116] then [] else if fromP (nameP op) ≠ 0 then [fromP (nameP op)] else if oneP ((nameP op).drop 4) = true then [letterP ((nameP op).take 3)] else [letterP ((nameP op).take 3), letterP ((nameP op).take 3)]
def givesD (op : Int) : List Int := if (nameP op).drop 4 ≠ [99, 111, 110, 115, 116] ∧ fromP (nameP op) = 0 ∧ 69 ≤ op ∧ op ≤ 102 then [1] else [letterP ((nameP op).take 3)]
def bytesD (v : Int) : Int := if v = 1 ∨ v = 3 then 4 else 8
def widthD (op : Int) : Int := if 0 ≤ withinP ((nameP op).drop 3) [51, 50] then 4 else if 0 ≤ withinP (nameP op) [49, 54] then 2 else if 3 ≤ withinP (nameP op) [56] then 1 else bytesD (letterP ((nameP op).take 3))
def storeD (op : Int) : Bool := decide (0 ≤ withinP (nameP op) [115, 116, 111, 114, 101])
def signD (op : Int) : Bool := decide (0 ≤ withinP (nameP op) [95, 115]) && decide ((nameP op).drop ((nameP op).length - 2) = [95, 115])
/- Each place that is looked for in a name leaves room for three letters. -/
def roomB (name : List UInt8) : Bool := (cutW fromW []).all (fun x => decide (withinP name x < 0) || decide ((withinP name x).toNat + x.length + 3 ≤ name.length))
theorem sig_lo : ∀ k : Fin 132, ((List.replicate (sigRow (65 + (k.val : Int))).2.2.1.toNat (sigRow (65 + (k.val : Int))).2.1 = takesD (65 + (k.val : Int)) ∧ [(sigRow (65 + (k.val : Int))).2.2.2] = givesD (65 + (k.val : Int))) ∧ roomB (nameP (65 + (k.val : Int))) = true ∧ 6 ≤ (nameP (65 + (k.val : Int))).length) ∧ (nameP (65 + (k.val : Int))).length ≤ 1000 := by decide +kernel
theorem sig_hi : ∀ k : Fin 8, ((List.replicate (sigRow (64512 + (k.val : Int))).2.2.1.toNat (sigRow (64512 + (k.val : Int))).2.1 = takesD (64512 + (k.val : Int)) ∧ [(sigRow (64512 + (k.val : Int))).2.2.2] = givesD (64512 + (k.val : Int))) ∧ roomB (nameP (64512 + (k.val : Int))) = true ∧ 6 ≤ (nameP (64512 + (k.val : Int))).length) ∧ (nameP (64512 + (k.val : Int))).length ≤ 1000 := by decide +kernel
theorem sig_all {op : Int} (h : isOpB op = true) : ((List.replicate (sigRow op).2.2.1.toNat (sigRow op).2.1 = takesD op ∧ [(sigRow op).2.2.2] = givesD op) ∧ roomB (nameP op) = true ∧ 6 ≤ (nameP op).length) ∧ (nameP op).length ≤ 1000 := by
  unfold isOpB at h
  simp only [Bool.or_eq_true, decide_eq_true_eq] at h
  rcases h with h | h
  · have := sig_lo ⟨(op - 65).toNat, by omega⟩
    rwa [show (65 : Int) + (((op - 65).toNat : Nat) : Int) = op by omega] at this
  · have := sig_hi ⟨(op - 64512).toNat, by omega⟩
    rwa [show (64512 : Int) + (((op - 64512).toNat : Nat) : Int) = op by omega] at this
theorem acc_lo : ∀ k : Fin 23, accL[k.val]? = some (letterP ((nameP (40 + (k.val : Int))).take 3), widthD (40 + (k.val : Int)), signD (40 + (k.val : Int))) ∧ decide (54 ≤ 40 + (k.val : Int)) = storeD (40 + (k.val : Int)) ∧ 6 ≤ (nameP (40 + (k.val : Int))).length ∧ (nameP (40 + (k.val : Int))).length ≤ 1000 := by decide +kernel
theorem acc_all {op : Int} (h0 : 40 ≤ op) (h1 : op ≤ 62) : accL[(op - 40).toNat]? = some (letterP ((nameP op).take 3), widthD op, signD op) ∧ decide (54 ≤ op) = storeD op ∧ 6 ≤ (nameP op).length ∧ (nameP op).length ≤ 1000 := by
  have := acc_lo ⟨(op - 40).toNat, by omega⟩
  rwa [show (40 : Int) + (((op - 40).toNat : Nat) : Int) = op by omega] at this
theorem letter_in (s : List UInt8) : letterP s = 1 ∨ letterP s = 2 ∨ letterP s = 3 ∨ letterP s = 4 := by
  unfold letterP
  split
  · simp
  · split
    · simp
    · split <;> simp
theorem within_le (p : List UInt8) : ∀ (s : List UInt8) (i : Nat), withinF p s i = -1 ∨ ((i : Int) ≤ withinF p s i ∧ withinF p s i + p.length ≤ i + s.length)
  | [], i => by
    rw [withinF]
    split
    · rename_i h; subst h; right; simp
    · left; rfl
  | c :: r, i => by
    rw [withinF]
    split
    · split
      · right
        rename_i h _
        simp at h ⊢
        omega
      · rcases within_le p r (i + 1) with h | h
        · exact Or.inl h
        · right
          simp at h ⊢
          omega
    · left; rfl
theorem words_fine : (fromW.length ≤ 60000 ∧ oneW.length ≤ 60000) ∧ (∀ x ∈ cutW fromW [], x.length ≤ 1000) ∧ (∀ x ∈ cutW oneW [], x.length ≤ 1000) ∧ (cutW fromW []).length = 8 ∧ (cutW oneW []).length = 14 := by decide +kernel
end Go.Proofs.YtjfiggkjdbnjeaaDoor
