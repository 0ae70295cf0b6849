/-
  Plain mathematics: the operators' words; nothing of the program.
-/
import Derived.Test.YtolllelejdnjlaaDoorPlain
namespace Go.Proofs.YtolllelejdnjlaaDoor
set_option linter.unusedVariables false

/- The words by kinds. -/
def WT : Array ByteArray := #[⟨#[]⟩, ⟨#[101, 113, 122]⟩, ⟨#[101, 113]⟩, ⟨#[110, 101]⟩, ⟨#[108, 116, 95, 115]⟩, ⟨#[108, 116, 95, 117]⟩, ⟨#[103, 116, 95, 115]⟩, ⟨#[103, 116, 95, 117]⟩, ⟨#[108, 101, 95, 115]⟩, ⟨#[108, 101, 95, 117]⟩, ⟨#[103, 101, 95, 115]⟩, ⟨#[103, 101, 95, 117]⟩, ⟨#[99, 108, 122]⟩, ⟨#[99, 116, 122]⟩, ⟨#[112, 111, 112, 99, 110, 116]⟩, ⟨#[97, 100, 100]⟩, ⟨#[115, 117, 98]⟩, ⟨#[109, 117, 108]⟩, ⟨#[100, 105, 118, 95, 115]⟩, ⟨#[100, 105, 118, 95, 117]⟩, ⟨#[114, 101, 109, 95, 115]⟩, ⟨#[114, 101, 109, 95, 117]⟩, ⟨#[97, 110, 100]⟩, ⟨#[111, 114]⟩, ⟨#[120, 111, 114]⟩, ⟨#[115, 104, 108]⟩, ⟨#[115, 104, 114, 95, 115]⟩, ⟨#[115, 104, 114, 95, 117]⟩, ⟨#[114, 111, 116, 108]⟩, ⟨#[114, 111, 116, 114]⟩, ⟨#[101, 120, 116, 101, 110, 100, 56, 95, 115]⟩, ⟨#[101, 120, 116, 101, 110, 100, 49, 54, 95, 115]⟩, ⟨#[101, 120, 116, 101, 110, 100, 51, 50, 95, 115]⟩, ⟨#[119, 114, 97, 112, 95, 105, 54, 52]⟩, ⟨#[101, 120, 116, 101, 110, 100, 95, 105, 51, 50, 95, 115]⟩, ⟨#[101, 120, 116, 101, 110, 100, 95, 105, 51, 50, 95, 117]⟩]
def wstr (k : Int) : ByteArray := WT.getD k.toNat ⟨#[]⟩
/- The byte at a place. -/
def bt (s : ByteArray) (k : Nat) : Nat := if h : k < s.size then (s[k]'h).toNat else 0
theorem bt_at {s : ByteArray} {k : Nat} (h : k < s.size) : bt s k = (s[k]'h).toNat := by unfold bt; rw [dif_pos h]
/- The word of an opcode, out of words cut at blanks. -/
def wgo (s : ByteArray) (op : Int) : Nat → Nat → Nat → Int → ByteArray
  | 0, _, _, _ => ⟨#[]⟩
  | fuel + 1, k, f, n => if k = s.size ∨ bt s k = 32 then (if n = op then s.extract f k else wgo s op fuel (k + 1) (k + 1) (n + 1)) else wgo s op fuel (k + 1) f n
def wdP (first : Int) (s : ByteArray) (op : Int) : ByteArray := wgo s op (s.size + 1) 0 0 first
def sTests : ByteArray := ⟨#[101, 113, 122, 32, 101, 113, 32, 110, 101, 32, 108, 116, 95, 115, 32, 108, 116, 95, 117, 32, 103, 116, 95, 115, 32, 103, 116, 95, 117, 32, 108, 101, 95, 115, 32, 108, 101, 95, 117, 32, 103, 101, 95, 115, 32, 103, 101, 95, 117]⟩
def sSums : ByteArray := ⟨#[99, 108, 122, 32, 99, 116, 122, 32, 112, 111, 112, 99, 110, 116, 32, 97, 100, 100, 32, 115, 117, 98, 32, 109, 117, 108, 32, 100, 105, 118, 95, 115, 32, 100, 105, 118, 95, 117, 32, 114, 101, 109, 95, 115, 32, 114, 101, 109, 95, 117, 32, 97, 110, 100, 32, 111, 114, 32, 120, 111, 114, 32, 115, 104, 108, 32, 115, 104, 114, 95, 115, 32, 115, 104, 114, 95, 117, 32, 114, 111, 116, 108, 32, 114, 111, 116, 114]⟩
def sExt : ByteArray := ⟨#[101, 120, 116, 101, 110, 100, 56, 95, 115, 32, 101, 120, 116, 101, 110, 100, 49, 54, 95, 115, 32, 101, 120, 116, 101, 110, 100, 56, 95, 115, 32, 101, 120, 116, 101, 110, 100, 49, 54, 95, 115, 32, 101, 120, 116, 101, 110, 100, 51, 50, 95, 115]⟩
theorem wd_45 : ∀ j : Fin 11, wdP 69 sTests (69 + (j.val : Int)) = wstr (1 + (j.val : Int)) := by decide +kernel
theorem wd_50 : ∀ j : Fin 11, wdP 80 sTests (80 + (j.val : Int)) = wstr (1 + (j.val : Int)) := by decide +kernel
theorem wd_67 : ∀ j : Fin 18, wdP 103 sSums (103 + (j.val : Int)) = wstr (12 + (j.val : Int)) := by decide +kernel
theorem wd_79 : ∀ j : Fin 18, wdP 121 sSums (121 + (j.val : Int)) = wstr (12 + (j.val : Int)) := by decide +kernel
theorem wd_c0 : ∀ j : Fin 2, wdP 192 sExt (192 + (j.val : Int)) = wstr (30 + (j.val : Int)) := by decide +kernel
theorem wd_c2 : ∀ j : Fin 3, wdP 192 sExt (194 + (j.val : Int)) = wstr (30 + (j.val : Int)) := by decide +kernel
end Go.Proofs.YtolllelejdnjlaaDoor
