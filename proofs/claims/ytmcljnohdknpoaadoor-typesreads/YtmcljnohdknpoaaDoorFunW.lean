/-
  The walk of the reader's function; no statement is proved here.
-/
import Derived.Test.YtmcljnohdknpoaaDoorFieldW
namespace Go.Proofs.YtmcljnohdknpoaaDoor
open Go.RowKit
set_option linter.unusedVariables false
set_option linter.unusedSimpArgs false
set_option linter.constructorNameAsVariable false

def NILS : Value := .slice none 0 0
def cobj (k : Int) (pv rv fv : Value) : Obj := .cells #[.int .i64 k, pv, rv, fv] 60 (0, 0)
/- The value is the composite type; its rows lie from B on. -/
def CompQ (B : Nat) (w : World) (v : Value) (c : CT) : Prop := ∃ pv rv fv, v = .agg #[.int .i64 c.kind, pv, rv, fv] ∧ RowV B w pv c.params ∧ RowV B w rv c.results ∧ RowF B w fv c.fields
def AnsC (b : Nat) (s : ByteArray) (w : World) (r : Except Nat (CT × Nat)) (en : Ending) (w' : World) : Prop := match r with
  | .ok (c, q) => ∃ v, en = .returned v ∧ CompQ w.heap.size w' v c ∧ Turn [b] w w' ∧ RD w' b s q
  | .error f => en = .panicked (flt f) ∧ Turn [b] w w'
theorem RowV.turn {B : Nat} {w w' : World} {v : Value} {l : List VT} {S : List Nat} (h : RowV B w v l) (t : Turn S w w') (hS : ∀ x ∈ S, NoT w x 23) : RowV B w' v l := row_turn h t hS
theorem RowF.turn {B : Nat} {w w' : World} {v : Value} {l : List FT} {S : List Nat} (h : RowF B w v l) (t : Turn S w w') (hS : ∀ x ∈ S, NoT w x 94) : RowF B w' v l := row_turn h t hS
theorem RD.noV {w : World} {b : Nat} {s : ByteArray} {p : Nat} (h : RD w b s p) : ∀ x ∈ [b], NoT w x 23 := by intro x hx; simp at hx; subst hx; exact NoT.of h.1 (by decide)
theorem RD.noF {w : World} {b : Nat} {s : ByteArray} {p : Nat} (h : RD w b s p) : ∀ x ∈ [b], NoT w x 94 := by intro x hx; simp at hx; subst hx; exact NoT.of h.1 (by decide)
theorem RowV.set {B : Nat} {w : World} {v : Value} {l : List VT} (h : RowV B w v l) {q : Addr} {k : Int} {a b c : Value} (hq : w.heap[q.block]? = some (cobj k a b c)) (x : Value) : RowV B (w.setCell q x) v l := row_set h (NoT.of hq (by decide)) x
theorem RowF.set {B : Nat} {w : World} {v : Value} {l : List FT} (h : RowF B w v l) {q : Addr} {k : Int} {a b c : Value} (hq : w.heap[q.block]? = some (cobj k a b c)) (x : Value) : RowF B (w.setCell q x) v l := row_set h (NoT.of hq (by decide)) x
theorem cobj_set1 {w : World} {M : Nat} {k : Int} {a b c : Value} (h : w.heap[M]? = some (cobj k a b c)) (x : Value) : (w.setCell ⟨M, 1, none⟩ x).heap[M]? = some (cobj k x b c) := by rw [heap_set h]; rfl
theorem cobj_set2 {w : World} {M : Nat} {k : Int} {a b c : Value} (h : w.heap[M]? = some (cobj k a b c)) (x : Value) : (w.setCell ⟨M, 2, none⟩ x).heap[M]? = some (cobj k a x c) := by rw [heap_set h]; rfl
theorem cobj_set3 {w : World} {M : Nat} {k : Int} {a b c : Value} (h : w.heap[M]? = some (cobj k a b c)) (x : Value) : (w.setCell ⟨M, 3, none⟩ x).heap[M]? = some (cobj k a b x) := by rw [heap_set h]; rfl
/- What stands in the result's cells behind a store of all four. -/
theorem comp_end {w0 w : World} {b : Nat} {s : ByteArray} {q : Nat} {N : Nat} {c : CT} {pv rv fv : Value} {k' : Int} {a1 a2 a3 : Value} {B : Nat} (hN : w.heap[N]? = some (cobj k' a1 a2 a3)) (h0 : w0.heap.size ≤ N) (hB : w0.heap.size ≤ B)
    (hp : RowV B w pv c.params) (hr : RowV B w rv c.results) (hf : RowF B w fv c.fields) (t : Turn [b] w0 w) (hR : RD w b s q) :
    let w' := (((w.setCell ⟨N, 0, none⟩ (.int .i64 c.kind)).setCell ⟨N, 1, none⟩ pv).setCell ⟨N, 2, none⟩ rv).setCell ⟨N, 3, none⟩ fv
    CompQ w0.heap.size w' (.agg #[.int .i64 c.kind, pv, rv, fv]) c ∧ Turn [b] w0 w' ∧ RD w' b s q := by
  have hbN : b ≠ N := by
    rintro rfl
    rw [hR.1] at hN
    injection hN with hN
    injection hN with _ h2 _
    exact absurd h2 (by decide)
  have n1 : (w.setCell ⟨N, 0, none⟩ (.int .i64 c.kind)).heap[N]? = some (cobj c.kind a1 a2 a3) := by rw [heap_set hN]; rfl
  have n2 := cobj_set1 n1 pv
  have n3 := cobj_set2 n2 rv
  refine ⟨⟨pv, rv, fv, rfl, ?_, ?_, ?_⟩, t.set4 N h0 _ _ _ _, hR.set4 N hbN _ _ _ _⟩
  · exact row_low ((((hp.set (q := ⟨N, 0, none⟩) hN _).set (q := ⟨N, 1, none⟩) n1 _).set (q := ⟨N, 2, none⟩) n2 _).set (q := ⟨N, 3, none⟩) n3 _) hB
  · exact row_low ((((hr.set (q := ⟨N, 0, none⟩) hN _).set (q := ⟨N, 1, none⟩) n1 _).set (q := ⟨N, 2, none⟩) n2 _).set (q := ⟨N, 3, none⟩) n3 _) hB
  · exact row_low ((((hf.set (q := ⟨N, 0, none⟩) hN _).set (q := ⟨N, 1, none⟩) n1 _).set (q := ⟨N, 2, none⟩) n2 _).set (q := ⟨N, 3, none⟩) n3 _) hB
theorem Env.tb {w w' : World} {b B : Nat} (h : Env w) (t : TB b B w w') (hb : 8 ≤ b) (hB : 8 ≤ B) : Env w' := by
  have t' : Turn (b :: (List.range (w.heap.size - B)).map (· + B)) w w' := by
    refine ⟨t.os, t.tape, t.output, t.size, fun k hk hn => t.block k hk (fun h => hn (by simp [h])) ?_⟩
    rcases Nat.lt_or_ge k B with h | h
    · exact h
    · exfalso
      apply hn
      simp only [List.mem_cons, List.mem_map, List.mem_range]
      right
      exact ⟨k - B, by omega, by omega⟩
  refine h.turn t' ?_
  intro g hg
  simp only [List.mem_cons, List.mem_map, List.mem_range] at hg
  rcases hg with rfl | ⟨x, _, rfl⟩
  · exact hb
  · omega
end Go.Proofs.YtmcljnohdknpoaaDoor
