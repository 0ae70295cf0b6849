/-
  Helpers over this program: one byte appended to a slice of bytes of the call's own; no statement is proved here.
-/
import Derived.Test.YtjfiggkjdbnjeaaWorld
import Derived.WalkKit
import Derived.ProofKit
import Derived.OpenShut
import Derived.Maps.AppendAt
import Derived.Laws.BytesArg
import Derived.Laws.IdiomStrings
import Derived.Laws.AppendOwnNone
namespace Go.Proofs.Ytjfiggkjdbnjeaa
open Go.RowKit

theorem infoB : (Try.prog.info? 5).map (fun i => (i.zero, i.size, i.bytes)) = some (some (.int .u8 0), 1, 1) := by kernel_rfl

/- The bytes of a list, as the cells of a row. -/
def U8 (l : List Int) : List Value := l.map (Value.int .u8)
theorem U8_snoc (l : List Int) (c : Int) : U8 (l ++ [c]) = U8 l ++ [.int .u8 c] := by simp [U8]

/- A slice value that owns the bytes l, in blocks from base on; below base all is as in w0. -/
def Has (base : Nat) (w0 w : World) (v : Value) (l : List Int) : Prop := w.ownsRow base 5 1 v l.length (U8 l) ∧ Below base w0 w ∧ base ≤ w.heap.size

theorem Has.nil (w : World) : Has w.heap.size w w (.slice none 0 0) [] := ⟨World.ownsRow_nil _ _ _ _, Below.refl _ _, Nat.le_refl _⟩

/- Or and and of bytes. -/
theorem or128 (x : Int) (h0 : 0 ≤ x) (h1 : x < 256) : bits .or .u8 x 128 = x % 128 + 128 := by
  obtain ⟨a, rfl⟩ := Int.eq_ofNat_of_zero_le h0
  have h := (bits_nat .u8 8 (by decide) wraps_u8 a 128 (by omega) (by omega)).2
  have e : ∀ a : Nat, a < 256 → a ||| 128 = a % 128 + 128 := by decide +kernel
  have := e a (by omega)
  rw [show (128 : Int) = ((128 : Nat) : Int) from rfl, h, this]
  omega
theorem and127 (x : Int) (h0 : 0 ≤ x) (h1 : x < 256) : bits .and .u8 x 127 = x % 128 := bits_mask .u8 8 (by decide) wraps_u8 7 (by decide) x h0 (by omega)
theorem and127_i64 (X : Int) : bits .and .i64 X 127 = X % 128 := by
  have h : (BitVec.ofInt 64 X &&& BitVec.ofInt 64 127).toNat = (X % 128).toNat := by
    rw [BitVec.toNat_and, BitVec.toNat_ofInt, BitVec.toNat_ofInt]
    rw [show ((127 : Int) % ((2 ^ 64 : Nat) : Int)).toNat = 2 ^ 7 - 1 from by decide, Nat.and_two_pow_sub_one_eq_mod]
    omega
  show IntKind.i64.wrap (((BitVec.ofInt 64 X &&& BitVec.ofInt 64 127).toNat : Nat) : Int) = _
  rw [h, IntKind.wrap_i64]
  omega

/- The slice value v reads, in w, as the bytes l (v is nil, or empty, or leads to them). -/
def Reads (w : World) (v : Value) (l : List Int) : Prop :=
  ∃ a cap, v = .slice a l.length cap ∧ l.length ≤ cap ∧ cap ≤ maxLen ∧ (a = none → cap = 0) ∧ (l = [] ∨ ∃ b off, a = some ⟨b, off, none⟩ ∧ ∀ j, j < l.length → w.cell? ⟨b, off + j, none⟩ = some (.int .u8 (l.getD j 0)))
theorem Reads.below {w w' : World} {v : Value} {l : List Int} (h : Reads w v l) (hb : Below w.heap.size w w') : Reads w' v l := by
  obtain ⟨a, cap, hv, hlc, hm, hn, h⟩ := h
  refine ⟨a, cap, hv, hlc, hm, hn, h.imp_right ?_⟩
  rintro ⟨b, off, ha, hc⟩
  refine ⟨b, off, ha, fun j hj => ?_⟩
  have := hc j hj
  rw [hb.cell (block_lt_of_cell this)]; exact this
theorem Has.below {base : Nat} {w0 w : World} {v : Value} {l : List Int} (h : Has base w0 w v l) : Below base w0 w := h.2.1
theorem Has.reads {base : Nat} {w0 w : World} {v : Value} {l : List Int} (h : Has base w0 w v l) : Reads w v l := by
  obtain ⟨ho, _, _⟩ := h
  have ho' := ho
  obtain ⟨hl, h | ⟨g, cap, cur, hv, hg, hh, h1, h2, h3, h4⟩⟩ := ho
  · obtain ⟨hv, hn⟩ := h
    have : l = [] := List.eq_nil_of_length_eq_zero hn
    subst this
    exact ⟨none, 0, hv, Nat.le_refl _, Nat.zero_le _, fun _ => rfl, Or.inl rfl⟩
  · subst hv
    refine ⟨_, cap, rfl, h1, h2, (fun h => by cases h), Or.inr ⟨g, 0, rfl, fun j hj => ?_⟩⟩
    rw [Nat.zero_add, ho'.cellAt j (by omega)]
    simp [U8, List.getD, hj]
theorem Has.grew {base : Nat} {w0 w w' : World} {v : Value} {l : List Int} (h : Has base w0 w v l) (hb : Below w.heap.size w w') : Has base w0 w' v l := by
  obtain ⟨ho, h1, h2⟩ := h
  refine ⟨ho.kept (w' := w') (row := none) ⟨hb.os, hb.tape, hb.output, hb.size, fun k hk _ => hb.block k hk⟩ ?_, h1.trans (hb.mono h2), Nat.le_trans h2 hb.size⟩
  cases v.ownBlock <;> simp
theorem Reads.len {w : World} {v : Value} {l : List Int} (h : Reads w v l) : ∃ a cap, v = .slice a l.length cap := by
  obtain ⟨a, cap, hv, _, _, _, _⟩ := h; exact ⟨a, cap, hv⟩

end Go.Proofs.Ytjfiggkjdbnjeaa
