/-
  Helpers over this program: one byte appended to a slice of bytes of the call's own; no statement is proved here.
-/
import Derived.Test.YtahmjgmaaaegcaaGreatDoorWorld
import Derived.WalkKit
import Derived.ProofKit
import Derived.OpenShut
import Derived.Maps.AppendAt
import Derived.Laws.BytesArg
import Derived.Laws.IdiomStrings
import Derived.Laws.AppendOwnNone
namespace Go.Proofs.YtahmjgmaaaegcaaGreatDoor
open Go.RowKit

theorem infoB : (Tryz.prog.info? 5).map (fun i => (i.zero, i.size, i.bytes)) = some (some (.int .u8 0), 1, 1) := by kernel_rfl

/- The bytes of a list, as the cells of a row. -/
def U8 (l : List Int) : List Value := l.map (Value.int .u8)
theorem U8_snoc (l : List Int) (c : Int) : U8 (l ++ [c]) = U8 l ++ [.int .u8 c] := by simp [U8]

/- A slice value that owns the bytes l, in blocks from base on; below base all is as in w0. -/
def Has (base : Nat) (w0 w : World) (v : Value) (l : List Int) : Prop := w.ownsRow base 5 1 v l.length (U8 l) ∧ Below base w0 w ∧ base ≤ w.heap.size

theorem Has.nil (w : World) : Has w.heap.size w w (.slice none 0 0) [] := ⟨World.ownsRow_nil _ _ _ _, Below.refl _ _, Nat.le_refl _⟩

theorem wp_appB {w0 w : World} {ops : Array Oper} {rest : List Oper} {o : Oper} {a : Act} {Q : Exit → Act → World → Prop} (hgd : o.guard = none) (s x : Operand)
    (ho : o.op = .call { callee := .builtin .append, args := #[s, x], argTypes := #[274, 274] }) {base : Nat} {v : Value} {l : List Int} {c : Int} {t : TypeId}
    (hs : a.eval s = v) (hx : a.eval x = .slice (some ⟨w.heap.size, 0, none⟩) 1 1) (hh : Has base w0 w v l) (hlen : l.length ≤ 70368744177664)
    (h : ∀ v' w', Has base w0 w' v' (l ++ [c]) → wpList Tryz.prog ops Q rest (a.put o.dst v') w') :
    wpList Tryz.prog ops Q (o :: rest) a (w.alloc (.cells #[.int .u8 c] t)) := by
  obtain ⟨i0, hi, hz0, hz1, hz2⟩ := info_parts infoB
  obtain ⟨hown, hb, hle⟩ := hh
  refine wpList_append_own _ hgd s x 274 ho base 5 i0 (.int .u8 0) 1 1 Tryz.underlying274 hi hz0 hz1 hz2 rfl (by decide) v l.length (U8 l) hs (hown.alloc _) ⟨w.heap.size, 0, none⟩ 1 1 [.int .u8 c] hx rfl (cell_one_new _ _ _) (by simp [Value.oneCell']) (by unfold maxLen; omega) (by omega) (by simp; omega) ?_
  intro v' w' ho' hg _
  refine h v' w' ⟨?_, (hb.alloc hle _).grown hg (by simp; omega) (fun k hk => (hown.lt k hk).1), ?_⟩
  · rw [U8_snoc, List.length_append]; exact ho'
  · have := hg.size; simp at this; omega

/- Or and and of bytes. -/
theorem or128 (x : Int) (h0 : 0 ≤ x) (h1 : x < 256) : bits .or .u8 x 128 = x % 128 + 128 := by
  obtain ⟨a, rfl⟩ := Int.eq_ofNat_of_zero_le h0
  have h := (bits_nat .u8 8 (by decide) wraps_u8 a 128 (by omega) (by omega)).2
  have e : ∀ a : Nat, a < 256 → a ||| 128 = a % 128 + 128 := by decide +kernel
  have := e a (by omega)
  rw [show (128 : Int) = ((128 : Nat) : Int) from rfl, h, this]
  omega
theorem and127 (x : Int) (h0 : 0 ≤ x) (h1 : x < 256) : bits .and .u8 x 127 = x % 128 := bits_mask .u8 8 (by decide) wraps_u8 7 (by decide) x h0 (by omega)
theorem and127_i64 (X : Int) : bits .and .i64 X 127 = X % 128 := by
  have h : (BitVec.ofInt 64 X &&& BitVec.ofInt 64 127).toNat = (X % 128).toNat := by
    rw [BitVec.toNat_and, BitVec.toNat_ofInt, BitVec.toNat_ofInt]
    rw [show ((127 : Int) % ((2 ^ 64 : Nat) : Int)).toNat = 2 ^ 7 - 1 from by decide, Nat.and_two_pow_sub_one_eq_mod]
    omega
  show IntKind.i64.wrap (((BitVec.ofInt 64 X &&& BitVec.ofInt 64 127).toNat : Nat) : Int) = _
  rw [h, IntKind.wrap_i64]
  omega

/- The slice value v reads, in w, as the bytes l (v is nil, or empty, or leads to them). -/
def Reads (w : World) (v : Value) (l : List Int) : Prop :=
  ∃ a cap, v = .slice a l.length cap ∧ l.length ≤ cap ∧ cap ≤ maxLen ∧ (a = none → cap = 0) ∧ (l = [] ∨ ∃ b off, a = some ⟨b, off, none⟩ ∧ ∀ j, j < l.length → w.cell? ⟨b, off + j, none⟩ = some (.int .u8 (l.getD j 0)))
theorem Reads.below {w w' : World} {v : Value} {l : List Int} (h : Reads w v l) (hb : Below w.heap.size w w') : Reads w' v l := by
  obtain ⟨a, cap, hv, hlc, hm, hn, h⟩ := h
  refine ⟨a, cap, hv, hlc, hm, hn, h.imp_right ?_⟩
  rintro ⟨b, off, ha, hc⟩
  refine ⟨b, off, ha, fun j hj => ?_⟩
  have := hc j hj
  rw [hb.cell (block_lt_of_cell this)]; exact this
theorem Has.below {base : Nat} {w0 w : World} {v : Value} {l : List Int} (h : Has base w0 w v l) : Below base w0 w := h.2.1
theorem Has.reads {base : Nat} {w0 w : World} {v : Value} {l : List Int} (h : Has base w0 w v l) : Reads w v l := by
  obtain ⟨ho, _, _⟩ := h
  have ho' := ho
  obtain ⟨hl, h | ⟨g, cap, cur, hv, hg, hh, h1, h2, h3, h4⟩⟩ := ho
  · obtain ⟨hv, hn⟩ := h
    have : l = [] := List.eq_nil_of_length_eq_zero hn
    subst this
    exact ⟨none, 0, hv, Nat.le_refl _, Nat.zero_le _, fun _ => rfl, Or.inl rfl⟩
  · subst hv
    refine ⟨_, cap, rfl, h1, h2, (fun h => by cases h), Or.inr ⟨g, 0, rfl, fun j hj => ?_⟩⟩
    rw [Nat.zero_add, ho'.cellAt j (by omega)]
    simp [U8, List.getD, hj]
theorem Has.grew {base : Nat} {w0 w w' : World} {v : Value} {l : List Int} (h : Has base w0 w v l) (hb : Below w.heap.size w w') : Has base w0 w' v l := by
  obtain ⟨ho, h1, h2⟩ := h
  refine ⟨ho.kept (w' := w') (row := none) ⟨hb.os, hb.tape, hb.output, hb.size, fun k hk _ => hb.block k hk⟩ ?_, h1.trans (hb.mono h2), Nat.le_trans h2 hb.size⟩
  cases v.ownBlock <;> simp
theorem Reads.str {w : World} {v : Value} {l : List Int} (h : Reads w v l) : (convert 274 9 v).run Tryz.prog w = .ok (.string (strOfNums l)) w := by
  obtain ⟨a, cap, rfl, _, _, _, rfl | ⟨b, off, rfl, hc⟩⟩ := h
  · cases a with
    | none => exact run_convert_bytes_nil w 274 5 Tryz.underlying274 Tryz.underlying5 0 cap 9 Tryz.underlying9
    | some a => exact run_convert_bytes_back w 274 9 5 a cap [] Tryz.underlying274 Tryz.underlying5 Tryz.underlying9 (by simp)
  · exact run_convert_bytes_arg w 274 5 Tryz.underlying274 Tryz.underlying5 b off l.length cap l rfl hc 9 Tryz.underlying9
theorem Reads.len {w : World} {v : Value} {l : List Int} (h : Reads w v l) : ∃ a cap, v = .slice a l.length cap := by
  obtain ⟨a, cap, hv, _, _, _, _⟩ := h; exact ⟨a, cap, hv⟩

/- Bytes read from a slice, appended to a slice of the call's own. -/
theorem wp_appS {w0 w : World} {ops : Array Oper} {rest : List Oper} {o : Oper} {a : Act} {Q : Exit → Act → World → Prop} (hgd : o.guard = none) (s x : Operand)
    (ho : o.op = .call { callee := .builtin .append, args := #[s, x], argTypes := #[274, 274] }) {base : Nat} {v u : Value} {l r : List Int}
    (hs : a.eval s = v) (hx : a.eval x = u) (hh : Has base w0 w v l) (hR : Reads w u r) (hlen : l.length + r.length ≤ 140737488355328)
    (h : ∀ v' w', Has base w0 w' v' (l ++ r) → wpList Tryz.prog ops Q rest (a.put o.dst v') w') :
    wpList Tryz.prog ops Q (o :: rest) a w := by
  obtain ⟨i0, hi, hz0, hz1, hz2⟩ := info_parts infoB
  obtain ⟨hown, hb, hle⟩ := hh
  have main : ∀ (ad : Addr) (c : Nat), u = .slice (some ad) r.length c → (∀ (j : Nat) (z : Value), (U8 r)[j]? = some z → w.cell? (ad.add j) = some z) → wpList Tryz.prog ops Q (o :: rest) a w := by
    intro ad c hu hn
    refine wpList_append_own _ hgd s x 274 ho base 5 i0 (.int .u8 0) 1 1 Tryz.underlying274 hi hz0 hz1 hz2 rfl (by decide) v l.length (U8 l) hs hown ad r.length c (U8 r) (hx.trans hu) (by simp [U8]) hn (by simp [U8, Value.oneCell']) (by unfold maxLen; omega) (by omega) hle ?_
    intro v' w' ho' hg _
    refine h v' w' ⟨?_, hb.grown hg hle (fun k hk => (hown.lt k hk).1), Nat.le_trans hle hg.size⟩
    rw [List.length_append, show U8 (l ++ r) = U8 l ++ U8 r from by simp [U8]]; exact ho'
  obtain ⟨ad, cap, hu, _, _, hn, hr⟩ := hR
  rcases hr with rfl | ⟨b, off, rfl, hc⟩
  · cases ad with
    | none =>
      have hc0 := hn rfl
      subst hc0
      refine wpList_append_own_none hgd s x 274 ho base 5 i0 1 Tryz.underlying274 hi v l.length (U8 l) hs hown (hx.trans hu) ?_
      rw [List.append_nil] at h
      exact h v w ⟨hown, hb, hle⟩
    | some ad => exact main ad cap hu (fun j z hz => by simp [U8] at hz)
  · refine main _ cap hu (fun j z hz => ?_)
    obtain ⟨hj, hz⟩ := List.getElem?_eq_some_iff.1 hz
    have hj' : j < r.length := by simpa [U8] using hj
    have := hc j hj'
    have e : (Addr.add ⟨b, off, none⟩ j) = ⟨b, off + j, none⟩ := by simp [Addr.add]
    rw [e, this, ← hz]
    simp [U8, List.getD, hj']

end Go.Proofs.YtahmjgmaaaegcaaGreatDoor
