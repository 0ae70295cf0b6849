/-
  Two cursors side by side, the program's and the document's, that agree; no statement is proved here.
-/
import Derived.Test.YtpkccnoipbgnmaaWith
import Derived.Test.YtpkccnoipbgnmaaDWith
namespace Go.Proofs.Ytpkccnoipbgnmaa
open Go.RowKit
set_option linter.unusedVariables false

/- Where a number's reading ends. -/
theorem scan_place {m : Nat} {ok : Int → Bool} {sg : Bool} (l : List Int) (i : Nat) (X n p : Int) (h : scan m ok sg l i X = (n, p, 0)) : ∃ k : Nat, p = k ∧ k ≤ i + l.length := by
  induction l generalizing i X with
  | nil => simp [scan] at h
  | cons c r ih =>
    rw [scan] at h
    by_cases h1 : i = m ∧ ok c = false
    · rw [if_pos h1] at h; simp at h
    · rw [if_neg h1] at h
      by_cases h2 : c < 128
      · rw [if_pos h2] at h
        simp only [Prod.mk.injEq] at h
        exact ⟨i + 1, by rw [← h.2.1]; simp, by simp⟩
      · rw [if_neg h2] at h
        obtain ⟨k, hk, hk'⟩ := ih _ _ h
        exact ⟨k, hk, by simp; omega⟩
theorem rd_place {b : Nat} {sg : Bool} {l : List Int} {F T : Nat} (h1 : F ≤ T) (h2 : T ≤ l.length) (h : (rd b sg l F T).2.2 = 0) : ∃ k : Nat, (rd b sg l F T).2.1 = k ∧ k ≤ T := by
  rcases hs : scan ((b + 6) / 7 - 1) (okB (b - 7 * ((b + 6) / 7 - 1)) sg) sg (seg l F T) 0 0 with ⟨n, p, q⟩
  have e := rd_in h1 h2 hs
  rw [e] at h ⊢
  simp only at h
  subst h
  obtain ⟨k, hk, hk'⟩ := scan_place _ _ _ _ _ hs
  rw [seg_len h1 h2] at hk'
  exact ⟨F + k, by rw [hk]; simp, by omega⟩
theorem fx_place {s : Nat} {l : List Int} {F T : Nat} (h1 : F ≤ T) (h2 : T ≤ l.length) (h : (fx s l F T).2.2 = 0) : ∃ k : Nat, (fx s l F T).2.1 = k ∧ k ≤ T := by
  by_cases hs : F + s ≤ T
  · rw [fx_in h2 hs]; exact ⟨F + s, by simp, hs⟩
  · rw [fx_short h1 h2 (by omega)] at h; simp at h
theorem stepN_place {r : Int × Int × Int} {F T : Nat} (pl wy : Int) (h1 : F ≤ T) (hr : r.2.2 = 0 → ∃ k : Nat, r.2.1 = k ∧ k ≤ T) : ∃ k : Nat, (stepN r F pl wy).2.1 = k ∧ k ≤ T := by
  unfold stepN
  split
  · split
    · rename_i h; exact hr h
    · exact ⟨F, rfl, h1⟩
  · exact ⟨F, rfl, h1⟩

/- The two cursors agree: pc, pd point to them; both stand at F, end at T, and know of the fault wy at pl (0: of none). -/
structure Two (B : Nat) (w0 w : World) (bc bd : Nat) (vb vB : Value) (l : List Int) (F T : Nat) (pl wy : Int) : Prop where
  c : w.heap[bc]? = some (ccur vb F T pl wy)
  d : w.heap[bd]? = some (dcur vB F T pl wy)
  own : OwnB w vb l
  reads : Reads w vB l
  hc : B ≤ bc
  hd : B ≤ bd
  below : Below B w0 w
  size : B ≤ w.heap.size
  ft : F ≤ T
  tl : T ≤ l.length
theorem Two.ne {B : Nat} {w0 w : World} {bc bd : Nat} {vb vB : Value} {l : List Int} {F T : Nat} {pl wy : Int} (h : Two B w0 w bc bd vb vB l F T pl wy) : bc ≠ bd := by
  rintro rfl
  have h1 := h.c
  rw [h.d] at h1
  simp [ccur, dcur] at h1
theorem Two.grow {B : Nat} {w0 w w' : World} {bc bd : Nat} {vb vB : Value} {l : List Int} {F T : Nat} {pl wy : Int} (h : Two B w0 w bc bd vb vB l F T pl wy) (hb : Below w.heap.size w w') : Two B w0 w' bc bd vb vB l F T pl wy :=
  ⟨(hb.block _ (lt_of_obj h.c)).trans h.c, (hb.block _ (lt_of_obj h.d)).trans h.d, h.own.below hb, h.reads.below hb, h.hc, h.hd, h.below.trans (hb.mono h.size), Nat.le_trans h.size hb.size, h.ft, h.tl⟩
/- Behind a turn of the program's cursor. -/
structure Half (B : Nat) (w0 w : World) (bc bd : Nat) (vb vB : Value) (l : List Int) (F T : Nat) (pl wy f' pl' wy' : Int) : Prop where
  c : w.heap[bc]? = some (ccur vb f' T pl' wy')
  d : w.heap[bd]? = some (dcur vB F T pl wy)
  own : OwnB w vb l
  reads : Reads w vB l
  hc : B ≤ bc
  hd : B ≤ bd
  below : Below B w0 w
  size : B ≤ w.heap.size
  ft : F ≤ T
  tl : T ≤ l.length
  ne : bc ≠ bd
theorem Two.first {B : Nat} {w0 w w' : World} {bc bd : Nat} {vb vB : Value} {l : List Int} {F T : Nat} {pl wy f' pl' wy' : Int} (h : Two B w0 w bc bd vb vB l F T pl wy) (hq : Put bc (ccur vb f' T pl' wy') w w') : Half B w0 w' bc bd vb vB l F T pl wy f' pl' wy' := by
  obtain ⟨a, n, hv⟩ := h.own.form
  have hc := h.c
  rw [hv] at hc
  exact ⟨hq.now, hq.other h.d h.ne.symm, h.own.put hc hq, h.reads.put hc ccur_no hq, h.hc, h.hd, h.below.trans (hq.below h.hc h.size), Nat.le_trans h.size hq.size, h.ft, h.tl, h.ne⟩
theorem Half.grow {B : Nat} {w0 w w' : World} {bc bd : Nat} {vb vB : Value} {l : List Int} {F T : Nat} {pl wy f' pl' wy' : Int} (h : Half B w0 w bc bd vb vB l F T pl wy f' pl' wy') (hb : Below w.heap.size w w') : Half B w0 w' bc bd vb vB l F T pl wy f' pl' wy' :=
  ⟨(hb.block _ (lt_of_obj h.c)).trans h.c, (hb.block _ (lt_of_obj h.d)).trans h.d, h.own.below hb, h.reads.below hb, h.hc, h.hd, h.below.trans (hb.mono h.size), Nat.le_trans h.size hb.size, h.ft, h.tl, h.ne⟩
theorem Half.second {B : Nat} {w0 w w' : World} {bc bd : Nat} {vb vB : Value} {l : List Int} {F T F' : Nat} {pl wy f' pl' wy' : Int} (h : Half B w0 w bc bd vb vB l F T pl wy f' pl' wy') (hq : Put bd (dcur vB f' T pl' wy') w w') (hf : f' = F') (hF : F' ≤ T) :
    Two B w0 w' bc bd vb vB l F' T pl' wy' := by
  subst hf
  obtain ⟨a, n, hv⟩ := h.reads.len
  have hd := h.d
  rw [hv] at hd
  exact ⟨hq.other h.c h.ne, hq.now, h.own.putD hd hq, h.reads.put hd dcur_no hq, h.hc, h.hd, h.below.trans (hq.below h.hd h.size), Nat.le_trans h.size hq.size, hF, h.tl⟩
/- All that lay there but the two cursors' blocks is as it was. -/
structure Keep (bc bd : Nat) (w w' : World) : Prop where
  size : w.heap.size ≤ w'.heap.size
  block : ∀ k, k < w.heap.size → k ≠ bc → k ≠ bd → w'.heap[k]? = w.heap[k]?
theorem Keep.of_below {bc bd : Nat} {w w' : World} (h : Below w.heap.size w w') : Keep bc bd w w' := ⟨h.size, fun k hk _ _ => h.block k hk⟩
theorem Keep.of_c {bc bd : Nat} {o : Obj} {w w' : World} (h : Put bc o w w') : Keep bc bd w w' := ⟨h.size, fun k hk h1 _ => h.block k hk h1⟩
theorem Keep.of_d {bc bd : Nat} {o : Obj} {w w' : World} (h : Put bd o w w') : Keep bc bd w w' := ⟨h.size, fun k hk _ h2 => h.block k hk h2⟩
theorem Keep.trans {bc bd : Nat} {a b c : World} (h : Keep bc bd a b) (k : Keep bc bd b c) : Keep bc bd a c :=
  ⟨Nat.le_trans h.size k.size, fun i hi h1 h2 => (k.block i (Nat.lt_of_lt_of_le hi h.size) h1 h2).trans (h.block i hi h1 h2)⟩
theorem Keep.obj {bc bd b : Nat} {o : Obj} {w w' : World} (h : Keep bc bd w w') (ho : w.heap[b]? = some o) (h1 : b ≠ bc) (h2 : b ≠ bd) : w'.heap[b]? = some o := (h.block b (lt_of_obj ho) h1 h2).trans ho
end Go.Proofs.Ytpkccnoipbgnmaa
