/-
  The program's Roll and Unroll; no statement is proved here.
-/
import Derived.Test.YthchhehmbldmdaaDoorRep
namespace Go.Proofs.YthchhehmbldmdaaDoor
open Go.RowKit
set_option linter.unusedVariables false
set_option linter.unusedSimpArgs false

def rollN (first n : Int) : Int := if n < first then n else -100 - (n - first)
def unrollN (first n : Int) : Int := if -100 < n then n else first + (-100 - n)
set_option maxRecDepth 100000 in
set_option maxHeartbeats 1000000 in
theorem unroll_any {w : World} {tv : Value} {l : List SB} {ex : Bool} {first : Int} (h : LS w tv l) (hl : l.length ≤ 1048576) (hm : ∀ x ∈ l, Sml x) (h0 : 0 ≤ first) (h1 : first ≤ 2147483647)
    (hn : ∀ x ∈ l, ∀ n, Num x.cp n → -100 < n ∨ -100 - n < (l.length : Int)) :
    Calls Tryd.prog 13 #[.agg #[tv, .bool ex], .int .i64 first] w fun e w' => ∃ u, e = .returned (.tuple #[.agg #[u, .bool ex], .int .i64 0]) ∧ LS w' u (l.map fun x => x.cp.mp (unrollN first)) ∧ Grew w w' := by
  obtain ⟨a, cap, hv, hcap, hmax⟩ := h.one
  subst hv
  have hmf : ∀ (fn : Fn) (first cap : Array Value) (w : World), (Instr.makeFunc fn first cap).run Tryd.prog w = .ok (.func fn first cap) w := fun _ _ _ _ => rfl
  have HM : Hid (∀ x ∈ l, Sml x) := hm
  have HN : Hid (∀ x ∈ l, ∀ n, Num x.cp n → -100 < n ∨ -100 - n < (l.length : Int)) := hn
  have H : Hid (LS w (.slice a l.length cap) l) := h
  clear h hm hn
  go_enter Tryd.func13, Tryd.ntmps13
  go_wp2_with fail
  generalize hW : (((w.alloc (.cells #[.slice a l.length cap, .bool ex] 38)).alloc (.cells #[.int .i64 first] 3)).alloc (.cells #[NILS, .bool false] 38)) = W
  have G0 : Hid (Grew w W) := by rw [← hW]; exact (((Grew.refl w).alloc _).alloc _).alloc _
  obtain ⟨A0, A1, A2⟩ : Hid (W.heap[w.heap.size]? = some (robj (.slice a l.length cap) ex)) ∧ Hid (W.heap[w.heap.size + 1]? = some (iobj first)) ∧ Hid (W.heap[w.heap.size + 1 + 1]? = some (robj NILS false)) := by
    rw [← hW]
    have h1 : (w.alloc (.cells #[.slice a l.length cap, .bool ex] 38)).heap.size = w.heap.size + 1 := alloc_size _ _
    have h2 : ((w.alloc (.cells #[.slice a l.length cap, .bool ex] 38)).alloc (.cells #[.int .i64 first] 3)).heap.size = w.heap.size + 1 + 1 := by rw [alloc_size, alloc_size]
    refine ⟨heap_alloc (heap_alloc (heap_alloc_last _ _) _) _, ?_, ?_⟩
    · rw [← h1]; exact heap_alloc (heap_alloc_last _ _) _
    · rw [← h2]; exact heap_alloc_last _ _
  clear hW
  have D := rep_unroll (w := W) (ex := ex) (k1 := .pointer (some ⟨w.heap.size, 0, none⟩)) (k2 := .pointer (some ⟨w.heap.size + 1, 0, none⟩)) (unrollN first) (H.out.grew G0.out) hl HM.out (fun x hx n hn w' g => by
    have c0 := cell_of (g.other A0.out) 0
    have c1 := cell_of (g.other A1.out) 0
    simp at c0 c1
    unfold unrollN
    by_cases hlt : -100 < n
    · rw [if_pos hlt]
      exact unrollc_up c0 c1 hlt
    · rw [if_neg hlt]
      have := (HN.out x hx n hn).resolve_left hlt
      exact unrollc_own c0 c1 (by omega) this hl h0 h1)
  refine D.mono ?_
  rintro en w1 ⟨u, qs, hi', rfl, so, hq, g1⟩
  obtain ⟨ua, uc, hu, _⟩ := row_max so.1
  subst hu
  have SO : Hid (SubsO W.heap.size w1 (.slice ua qs.length uc) qs hi') := so
  have HQ : Hid (qs.map Prod.fst = (l.map fun x => x.cp.mp (unrollN first))) := hq
  have G1 : Hid (Grew w w1) := G0.out.trans g1
  have B2 := g1.other A2.out
  obtain ⟨y0, y1⟩ := box_r B2
  have zf0 := free_of B2 0
  have zf1 := free_of B2 1
  have hA2 := lt_of_obj A2.out
  clear D so g1 hq
  go_wp2_with fail
  have e1 := heap_set B2 0 (.slice ua qs.length uc)
  have e2 := heap_set e1 1 (.bool ex)
  have q0 := cell_of e1 0
  have q1 := cell_of e2 1
  simp at q0 q1
  refine bodyPost_ret (v := .tuple #[.agg #[.slice ua qs.length uc, .bool ex], .int .i64 0]) (by simp [results, Tryd.results13, go_sem, q0, q1]) rfl ?_
  have tp : TurnP (fun k => k = w.heap.size + 1 + 1) w1 ((w1.setCell ⟨w.heap.size + 1 + 1, 0, none⟩ (.slice ua qs.length uc)).setCell ⟨w.heap.size + 1 + 1, 1, none⟩ (.bool ex)) := ((TurnP.refl (fun k => k = w.heap.size + 1 + 1) w1).set (p := ⟨w.heap.size + 1 + 1, 0, none⟩) rfl _).set (p := ⟨w.heap.size + 1 + 1, 1, none⟩) rfl _
  refine ⟨_, rfl, ?_, tp.grew G1.out (fun k hk => by omega)⟩
  rw [← HQ.out]
  exact (SO.out.low tp (fun k hk => by omega)).lst
set_option maxRecDepth 100000 in
set_option maxHeartbeats 1000000 in
theorem roll_any {w : World} {v : Value} {L : List RT} {g : Nat} {r : RT} (h : LR w v L) (hs : SmlL L) (hr : L[g]? = some r)
    (hn : ∀ x ∈ r.types, ∀ n, Num x.cp n → 0 ≤ n ∧ n < ((cntT (L.take g) + r.types.length : Nat) : Int)) :
    Calls Tryd.prog 12 #[v, .int .i64 (g : Int)] w fun e w' => ∃ u, e = .returned (.tuple #[.agg #[u, .bool r.explicit], .int .i64 0]) ∧ LS w' u (r.types.map fun x => x.cp.mp (rollN (cntT (L.take g) : Int))) ∧ Grew w w' := by
  obtain ⟨a, cap, hv, hcap, hmax⟩ := h.one
  subst hv
  have hmf : ∀ (fn : Fn) (first cap : Array Value) (w : World), (Instr.makeFunc fn first cap).run Tryd.prog w = .ok (.func fn first cap) w := fun _ _ _ _ => rfl
  have hgl : g < L.length := (List.getElem?_eq_some_iff.1 hr).1
  obtain ⟨hs1, hs2, hs3⟩ := hs
  have HM : Hid (∀ x ∈ r.types, Sml x) := hs3 r (List.mem_of_getElem? hr)
  have hfst := cntT_take L g
  have hend := cntT_take L (g + 1)
  rw [cntT_snoc hr] at hend
  have hlg : (L.take g).length ≤ 1048576 := by rw [List.length_take]; omega
  have C := fun w' (gw : Grew w w') => count_any (w := w') (Lst.take (h.grew gw) g (by omega)) hlg (by omega)
  have H : Hid (LR w (.slice a L.length cap) L) := h
  have HR : Hid (L[g]? = some r) := hr
  generalize hfv : cntT (L.take g) = first at *
  have HN : Hid (∀ x ∈ r.types, ∀ n, Num x.cp n → 0 ≤ n ∧ n < ((first + r.types.length : Nat) : Int)) := hn
  have hgc : g ≤ cap := by omega
  clear h hs3 hn hr hfv
  obtain ⟨ts, ex⟩ := r
  simp only at *
  go_enter Tryd.func12, Tryd.ntmps12
  go_wp2_with fail
  refine (C _ ((Grew.refl w).alloc _)).mono ?_
  rintro en w1 ⟨rfl, g1⟩
  have A0 : Hid (w1.heap[w.heap.size]? = some (robj NILS false)) := g1.other (heap_alloc_last _ _)
  have G1 : Hid (Grew w w1) := ((Grew.refl w).alloc _).trans g1
  clear C g1
  go_wp2_with fail
  have F0 : Hid ((w1.alloc (.cells #[.int .i64 (first : Int)] 3)).heap[w1.heap.size]? = some (iobj first)) := heap_alloc_last _ _
  have B0 : Hid ((w1.alloc (.cells #[.int .i64 (first : Int)] 3)).heap[w.heap.size]? = some (robj NILS false)) := heap_alloc A0.out _
  have G2 : Hid (Grew w (w1.alloc (.cells #[.int .i64 (first : Int)] 3))) := G1.out.alloc _
  generalize (w1.alloc (.cells #[.int .i64 (first : Int)] 3)) = W1 at *
  generalize w1.heap.size = fb at *
  obtain ⟨b, off, ha, _, hE⟩ := (H.out.grew G2.out).get (by omega)
  subst ha
  obtain ⟨tv, ht, c0, c1⟩ := hE g _ HR.out
  obtain ⟨ta, tc, et, _⟩ := ht.one
  subst et
  simp only at ht c0 c1
  have HT : Hid (LS W1 (.slice ta ts.length tc) ts) := ht
  have f0 := cell_of F0.out 0
  have z1 := lt_of_cell c0
  have z2 := lt_of_obj F0.out
  simp at f0
  clear hE ht A0 G1
  have d2 : decide (g < L.length) = true := by simp; omega
  go_region_held3 (fun w' => w'.cell? ⟨fb, 0, none⟩ = some (.int .i64 (first : Int)) ∧ w'.cell? ⟨b, off + g * 2, none⟩ = some (.slice ta ts.length tc)) (go_keep) (fail)
  all_goals go_wp2_with fail
  have E2 : Hid (((W1.alloc (.cells #[.int .i64 ((first : Int) + (ts.length : Int))] 3)).drew).heap[W1.heap.size]? = some (iobj ((first : Int) + (ts.length : Int)))) := heap_alloc_last W1 _
  have g12 : Grew W1 ((W1.alloc (.cells #[.int .i64 ((first : Int) + (ts.length : Int))] 3)).drew) := ((Grew.refl W1).alloc _).drew
  have F2 : Hid (((W1.alloc (.cells #[.int .i64 ((first : Int) + (ts.length : Int))] 3)).drew).heap[fb]? = some (iobj first)) := g12.other F0.out
  have B2' : Hid (((W1.alloc (.cells #[.int .i64 ((first : Int) + (ts.length : Int))] 3)).drew).heap[w.heap.size]? = some (robj NILS false)) := g12.other B0.out
  have G3 : Hid (Grew w ((W1.alloc (.cells #[.int .i64 ((first : Int) + (ts.length : Int))] 3)).drew)) := G2.out.trans g12
  have HT2 : Hid (LS ((W1.alloc (.cells #[.int .i64 ((first : Int) + (ts.length : Int))] 3)).drew) (.slice ta ts.length tc) ts) := HT.out.grew g12
  generalize ((W1.alloc (.cells #[.int .i64 ((first : Int) + (ts.length : Int))] 3)).drew) = W2 at *
  generalize W1.heap.size = eb at *
  clear g12 F0 B0 G2 HT c0 c1 f0
  have D := rep_roll (w := W2) (ex := ex) (k1 := .pointer (some ⟨eb, 0, none⟩)) (k2 := .pointer (some ⟨fb, 0, none⟩)) (rollN (first : Int)) HT2.out (by omega) HM.out (fun x hx n hn w' gw => by
    have c0 := cell_of (gw.other E2.out) 0
    have c1 := cell_of (gw.other F2.out) 0
    simp at c0 c1
    have hh := HN.out x hx n hn
    rw [Int.natCast_add] at hh
    unfold rollN
    by_cases hlt : n < (first : Int)
    · rw [if_pos hlt]
      exact rollc_low c0 c1 hh.1 hlt hh.2
    · rw [if_neg hlt]
      exact rollc_own c0 c1 (by omega) (by omega) hh.2 (by omega))
  refine D.mono ?_
  rintro en w4 ⟨u, qs, hi', rfl, so, hq, g4⟩
  obtain ⟨ua, uc, hu, _⟩ := row_max so.1
  subst hu
  have SO : Hid (SubsO W2.heap.size w4 (.slice ua qs.length uc) qs hi') := so
  have HQ : Hid (qs.map Prod.fst = (ts.map fun x => x.cp.mp (rollN (first : Int)))) := hq
  have G4 : Hid (Grew w w4) := G3.out.trans g4
  have B4 := g4.other B2'.out
  obtain ⟨y0, y1⟩ := box_r B4
  have zf0 := free_of B4 0
  have zf1 := free_of B4 1
  have hA2 := lt_of_obj B2'.out
  clear D so g4 hq
  go_wp2_with fail
  have e1 := heap_set B4 0 (.slice ua qs.length uc)
  have e2 := heap_set e1 1 (.bool ex)
  have q0 := cell_of e1 0
  have q1 := cell_of e2 1
  simp at q0 q1
  refine bodyPost_ret (v := .tuple #[.agg #[.slice ua qs.length uc, .bool ex], .int .i64 0]) (by simp [results, Tryd.results12, go_sem, q0, q1]) rfl ?_
  have tp : TurnP (fun k => k = w.heap.size) w4 ((w4.setCell ⟨w.heap.size, 0, none⟩ (.slice ua qs.length uc)).setCell ⟨w.heap.size, 1, none⟩ (.bool ex)) := ((TurnP.refl (fun k => k = w.heap.size) w4).set (p := ⟨w.heap.size, 0, none⟩) rfl _).set (p := ⟨w.heap.size, 1, none⟩) rfl _
  refine ⟨_, rfl, ?_, tp.grew G4.out (fun k hk => by omega)⟩
  rw [← HQ.out]
  exact (SO.out.low tp (fun k hk => by omega)).lst
end Go.Proofs.YthchhehmbldmdaaDoor
