/-
  The walk of the reader's sub; no statement is proved here.
-/
import Derived.Test.YtmcljnohdknpoaaDoorSubW
namespace Go.Proofs.YtmcljnohdknpoaaDoor
open Go.RowKit
set_option linter.unusedVariables false
set_option linter.unusedSimpArgs false
set_option linter.constructorNameAsVariable false

theorem sobj_set1 {w : World} {M : Nat} {f : Bool} {sv : Value} {k : Int} {a b c : Value} (h : w.heap[M]? = some (sobj f sv k a b c)) (x : Value) : (w.setCell ⟨M, 1, none⟩ x).heap[M]? = some (sobj f x k a b c) := by rw [heap_set h]; rfl
theorem RowI.setS {B : Nat} {w : World} {v : Value} {l : List Int} (h : RowI B w v l) {q : Addr} {f : Bool} {sv : Value} {k : Int} {a b c : Value} (hq : w.heap[q.block]? = some (sobj f sv k a b c)) (x : Value) : RowI B (w.setCell q x) v l := row_set h (NoT.of hq (by decide)) x
theorem row_setS {w : World} {B : Nat} {e : TypeId} {k : Nat} {v : Value} {n : Nat} {cs : List Value} {q : Addr} {ds : Array Value} {fz : Nat × Nat} (h : w.ownsRow B e k v n cs) (hq : w.heap[q.block]? = some (.cells ds 62 fz)) (hne : 62 ≠ e) (x : Value) : (w.setCell q x).ownsRow B e k v n cs := row_set h (NoT.of hq hne) x
/- Six cells stored into a block of a type. -/
def set6 (w : World) (N : Nat) (x0 x1 x2 x3 x4 x5 : Value) : World := (((((w.setCell ⟨N, 0, none⟩ x0).setCell ⟨N, 1, none⟩ x1).setCell ⟨N, 2, none⟩ x2).setCell ⟨N, 3, none⟩ x3).setCell ⟨N, 4, none⟩ x4).setCell ⟨N, 5, none⟩ x5
theorem heap_sub {w : World} {N : Nat} {ds : Array Value} {fz : Nat × Nat} (h : w.heap[N]? = some (.cells ds 62 fz)) (j : Nat) (x : Value) : ∃ es, (w.setCell ⟨N, j, none⟩ x).heap[N]? = some (.cells es 62 fz) := ⟨_, heap_set h j x⟩
theorem row_set6 {w : World} {B : Nat} {e : TypeId} {k : Nat} {v : Value} {n : Nat} {cs : List Value} {N : Nat} {ds : Array Value} {fz : Nat × Nat} (h : w.ownsRow B e k v n cs) (hq : w.heap[N]? = some (.cells ds 62 fz)) (hne : 62 ≠ e) (x0 x1 x2 x3 x4 x5 : Value) : (set6 w N x0 x1 x2 x3 x4 x5).ownsRow B e k v n cs := by
  unfold set6
  obtain ⟨e0, h0⟩ := heap_sub hq 0 x0
  obtain ⟨e1, h1⟩ := heap_sub h0 1 x1
  obtain ⟨e2, h2⟩ := heap_sub h1 2 x2
  obtain ⟨e3, h3⟩ := heap_sub h2 3 x3
  obtain ⟨e4, h4⟩ := heap_sub h3 4 x4
  exact row_setS (row_setS (row_setS (row_setS (row_setS (row_setS h (q := ⟨N, 0, none⟩) hq hne x0) (q := ⟨N, 1, none⟩) h0 hne x1) (q := ⟨N, 2, none⟩) h1 hne x2) (q := ⟨N, 3, none⟩) h2 hne x3) (q := ⟨N, 4, none⟩) h3 hne x4) (q := ⟨N, 5, none⟩) h4 hne x5
theorem Turn.set6 {S : List Nat} {w w' : World} (h : Turn S w w') (N : Nat) (hN : w.heap.size ≤ N) (x0 x1 x2 x3 x4 x5 : Value) : Turn S w (Go.Proofs.YtmcljnohdknpoaaDoor.set6 w' N x0 x1 x2 x3 x4 x5) :=
  (((((h.set (p := ⟨N, 0, none⟩) (Or.inr hN) x0).set (p := ⟨N, 1, none⟩) (Or.inr hN) x1).set (p := ⟨N, 2, none⟩) (Or.inr hN) x2).set (p := ⟨N, 3, none⟩) (Or.inr hN) x3).set (p := ⟨N, 4, none⟩) (Or.inr hN) x4).set (p := ⟨N, 5, none⟩) (Or.inr hN) x5
theorem RD.set6 {w : World} {b : Nat} {s : ByteArray} {p : Nat} (h : RD w b s p) (N : Nat) (hN : b ≠ N) (x0 x1 x2 x3 x4 x5 : Value) : RD (Go.Proofs.YtmcljnohdknpoaaDoor.set6 w N x0 x1 x2 x3 x4 x5) b s p :=
  (((((h.set (q := ⟨N, 0, none⟩) hN x0).set (q := ⟨N, 1, none⟩) hN x1).set (q := ⟨N, 2, none⟩) hN x2).set (q := ⟨N, 3, none⟩) hN x3).set (q := ⟨N, 4, none⟩) hN x4).set (q := ⟨N, 5, none⟩) hN x5
theorem sub_end {w0 w : World} {b : Nat} {s : ByteArray} {q N B : Nat} {x : SB} {sv pv rv fv : Value} {ds : Array Value} {fz : Nat × Nat} (hN : w.heap[N]? = some (.cells ds 62 fz)) (h0 : w0.heap.size ≤ N) (hB : w0.heap.size ≤ B)
    (hi : RowI B w sv x.supers) (hp : RowV B w pv x.comp.params) (hr : RowV B w rv x.comp.results) (hf : RowF B w fv x.comp.fields) (t : Turn [b] w0 w) (hR : RD w b s q) (hb : b ≠ N) :
    SubC w0.heap.size (set6 w N (.bool x.final_) sv (.int .i64 x.comp.kind) pv rv fv) [.bool x.final_, sv, .int .i64 x.comp.kind, pv, rv, fv] x ∧ Turn [b] w0 (set6 w N (.bool x.final_) sv (.int .i64 x.comp.kind) pv rv fv) ∧ RD (set6 w N (.bool x.final_) sv (.int .i64 x.comp.kind) pv rv fv) b s q :=
  ⟨⟨sv, pv, rv, fv, rfl, row_low (row_set6 hi hN (by decide) _ _ _ _ _ _) hB, row_low (row_set6 hp hN (by decide) _ _ _ _ _ _) hB, row_low (row_set6 hr hN (by decide) _ _ _ _ _ _) hB, row_low (row_set6 hf hN (by decide) _ _ _ _ _ _) hB⟩, t.set6 N h0 _ _ _ _ _ _, hR.set6 N hb _ _ _ _ _ _⟩
set_option maxRecDepth 100000 in
set_option maxHeartbeats 2000000 in
theorem sub_comp {w : World} {b : Nat} {s : ByteArray} {p : Nat} (h : RD w b s p) (hs : s.size ≤ 65536) (he : Env w) (hb8 : 8 ≤ b) (h1 : tk s p ≠ WSUB) :
    Calls Tryd.prog 48 #[.pointer (some ⟨b, 0, none⟩)] w (AnsB b s w (mapS (fun c => (⟨true, [], c⟩ : SB)) (compS s p))) := by
  have hb : b < w.heap.size := lt_of_obj h.1
  have R0 : Hid (RD (w.alloc (.cells #[.bool false, .slice none 0 0, .int .i64 0, .slice none 0 0, .slice none 0 0, .slice none 0 0] 62)) b s p) := h.grew ((Grew.refl w).alloc _)
  have T0 : Hid (Turn [b] w (w.alloc (.cells #[.bool false, .slice none 0 0, .int .i64 0, .slice none 0 0, .slice none 0 0, .slice none 0 0] 62))) := (Turn.refl [b] w).alloc _
  have N0 : Hid ((w.alloc (.cells #[.bool false, .slice none 0 0, .int .i64 0, .slice none 0 0, .slice none 0 0, .slice none 0 0] 62)).heap[w.heap.size]? = some (sobj false NILS 0 NILS NILS NILS)) := heap_alloc_last _ _
  have C := skip_no R0.out WSUB h1
  have V := comp_any R0.out hs (he.grew ((Grew.refl w).alloc _)) hb8
  obtain ⟨r, hr⟩ : ∃ r, r = compS s p := ⟨_, rfl⟩
  rw [← hr] at V ⊢
  clear h he h1 hr R0
  go_enter Tryd.func48, Tryd.ntmps48
  go_wp2_with fail
  refine C.mono ?_
  rintro en w1 ⟨rfl, h1'⟩
  obtain rfl := h1'.symm
  clear C
  go_wp2_with fail
  refine V.mono ?_
  intro en w2 A2
  clear V
  cases r with
  | error f =>
    obtain ⟨rfl, t2⟩ := A2
    go_wp2_with fail
    exact ⟨rfl, rfl, T0.out.trans t2⟩
  | ok x =>
    obtain ⟨c, q⟩ := x
    obtain ⟨v, rfl, ⟨pv, rv, fv, rfl, WP, WR, WF⟩, t2, r2⟩ := A2
    have T2 : Hid (Turn [b] w w2) := T0.out.trans t2
    have R2 : Hid (RD w2 b s q) := r2
    have n2 := t2.other N0.out (by simp; omega)
    have N2 : Hid (w2.heap[w.heap.size]? = some (sobj false NILS 0 NILS NILS NILS)) := n2
    obtain ⟨pa, pc, hpv⟩ := row_one WP
    obtain ⟨ra, rc, hrv⟩ := row_one WR
    obtain ⟨fa, fc, hfv⟩ := row_one WF
    subst hpv
    subst hrv
    subst hfv
    have P2 : Hid (RowV w.heap.size w2 (.slice pa c.params.length pc) c.params) := WP.low (by simp)
    have Q2 : Hid (RowV w.heap.size w2 (.slice ra c.results.length rc) c.results) := WR.low (by simp)
    have F2 : Hid (RowF w.heap.size w2 (.slice fa c.fields.length fc) c.fields) := WF.low (by simp)
    have c0 := cell_of n2 0
    have c1 := cell_of n2 1
    have c2 := cell_of n2 2
    have c3 := cell_of n2 3
    have c4 := cell_of n2 4
    have c5 := cell_of n2 5
    have z0 := free_of n2 0
    have z1 := free_of n2 1
    have z2 := free_of n2 2
    have z3 := free_of n2 3
    have z4 := free_of n2 4
    have z5 := free_of n2 5
    simp [NILS] at c0 c1 c2 c3 c4 c5
    clear t2 r2 n2 WP WR WF
    go_wp2_with fail
    refine bodyPost_ret (v := .agg #[.bool true, .slice none 0 0, .int .i64 c.kind, .slice pa c.params.length pc, .slice ra c.results.length rc, .slice fa c.fields.length fc]) (by simp [results, Tryd.results48, go_sem, c0, c1, c2, c3, c4, c5]) rfl ?_
    exact ⟨[.bool true, .slice none 0 0, .int .i64 c.kind, .slice pa c.params.length pc, .slice ra c.results.length rc, .slice fa c.fields.length fc], rfl, sub_end (x := ⟨true, [], c⟩) N2.out (Nat.le_refl _) (B := w.heap.size) (Nat.le_refl _) (RowI.nil _ _) P2.out Q2.out F2.out T2.out R2.out (by omega)⟩
end Go.Proofs.YtmcljnohdknpoaaDoor
