/-
  A table's lay; no statement is proved here.
-/
import Derived.Test.YthchhehmbldmdaaDoorPlcN
import Derived.Test.YthchhehmbldmdaaDoorRoll
import Derived.Test.YthchhehmbldmdaaDoorCpy
namespace Go.Proofs.YthchhehmbldmdaaDoor
open Go.RowKit
set_option linter.unusedVariables false
set_option linter.unusedSimpArgs false

set_option maxRecDepth 100000 in
set_option maxHeartbeats 1000000 in
theorem unrollO_any {w : World} {tv : Value} {l : List SB} {ex : Bool} {first : Int} (h : LS w tv l) (hl : l.length ≤ 1048576) (hm : ∀ x ∈ l, Sml x) (h0 : 0 ≤ first) (h1 : first ≤ 2147483647)
    (hn : ∀ x ∈ l, ∀ n, Num x.cp n → -100 < n ∨ -100 - n < (l.length : Int)) :
    Calls Tryd.prog 13 #[.agg #[tv, .bool ex], .int .i64 first] w fun e w' => ∃ u qs B hi, e = .returned (.tuple #[.agg #[u, .bool ex], .int .i64 0]) ∧ SubsO B w' u qs hi ∧ w.heap.size ≤ B ∧ qs.map Prod.fst = (l.map fun x => x.cp.mp (unrollN first)) ∧ Grew w w' := by
  obtain ⟨a, cap, hv, hcap, hmax⟩ := h.one
  subst hv
  have hmf : ∀ (fn : Fn) (first cap : Array Value) (w : World), (Instr.makeFunc fn first cap).run Tryd.prog w = .ok (.func fn first cap) w := fun _ _ _ _ => rfl
  have HM : Hid (∀ x ∈ l, Sml x) := hm
  have HN : Hid (∀ x ∈ l, ∀ n, Num x.cp n → -100 < n ∨ -100 - n < (l.length : Int)) := hn
  have H : Hid (LS w (.slice a l.length cap) l) := h
  clear h hm hn
  go_enter Tryd.func13, Tryd.ntmps13
  go_wp2_with fail
  generalize hW : (((w.alloc (.cells #[.slice a l.length cap, .bool ex] 38)).alloc (.cells #[.int .i64 first] 3)).alloc (.cells #[NILS, .bool false] 38)) = W
  have G0 : Hid (Grew w W) := by rw [← hW]; exact (((Grew.refl w).alloc _).alloc _).alloc _
  obtain ⟨A0, A1, A2⟩ : Hid (W.heap[w.heap.size]? = some (robj (.slice a l.length cap) ex)) ∧ Hid (W.heap[w.heap.size + 1]? = some (iobj first)) ∧ Hid (W.heap[w.heap.size + 1 + 1]? = some (robj NILS false)) := by
    rw [← hW]
    have h1 : (w.alloc (.cells #[.slice a l.length cap, .bool ex] 38)).heap.size = w.heap.size + 1 := alloc_size _ _
    have h2 : ((w.alloc (.cells #[.slice a l.length cap, .bool ex] 38)).alloc (.cells #[.int .i64 first] 3)).heap.size = w.heap.size + 1 + 1 := by rw [alloc_size, alloc_size]
    refine ⟨heap_alloc (heap_alloc (heap_alloc_last _ _) _) _, ?_, ?_⟩
    · rw [← h1]; exact heap_alloc (heap_alloc_last _ _) _
    · rw [← h2]; exact heap_alloc_last _ _
  clear hW
  have D := rep_unroll (w := W) (ex := ex) (k1 := .pointer (some ⟨w.heap.size, 0, none⟩)) (k2 := .pointer (some ⟨w.heap.size + 1, 0, none⟩)) (unrollN first) (H.out.grew G0.out) hl HM.out (fun x hx n hn w' g => by
    have c0 := cell_of (g.other A0.out) 0
    have c1 := cell_of (g.other A1.out) 0
    simp at c0 c1
    unfold unrollN
    by_cases hlt : -100 < n
    · rw [if_pos hlt]
      exact unrollc_up c0 c1 hlt
    · rw [if_neg hlt]
      have := (HN.out x hx n hn).resolve_left hlt
      exact unrollc_own c0 c1 (by omega) this hl h0 h1)
  refine D.mono ?_
  rintro en w1 ⟨u, qs, hi', rfl, so, hq, g1⟩
  obtain ⟨ua, uc, hu, _⟩ := row_max so.1
  subst hu
  have SO : Hid (SubsO W.heap.size w1 (.slice ua qs.length uc) qs hi') := so
  have HQ : Hid (qs.map Prod.fst = (l.map fun x => x.cp.mp (unrollN first))) := hq
  have G1 : Hid (Grew w w1) := G0.out.trans g1
  have B2 := g1.other A2.out
  obtain ⟨y0, y1⟩ := box_r B2
  have zf0 := free_of B2 0
  have zf1 := free_of B2 1
  have hA2 := lt_of_obj A2.out
  clear D so g1 hq
  go_wp2_with fail
  have e1 := heap_set B2 0 (.slice ua qs.length uc)
  have e2 := heap_set e1 1 (.bool ex)
  have q0 := cell_of e1 0
  have q1 := cell_of e2 1
  simp at q0 q1
  refine bodyPost_ret (v := .tuple #[.agg #[.slice ua qs.length uc, .bool ex], .int .i64 0]) (by simp [results, Tryd.results13, go_sem, q0, q1]) rfl ?_
  have tp : TurnP (fun k => k = w.heap.size + 1 + 1) w1 ((w1.setCell ⟨w.heap.size + 1 + 1, 0, none⟩ (.slice ua qs.length uc)).setCell ⟨w.heap.size + 1 + 1, 1, none⟩ (.bool ex)) := ((TurnP.refl (fun k => k = w.heap.size + 1 + 1) w1).set (p := ⟨w.heap.size + 1 + 1, 0, none⟩) rfl _).set (p := ⟨w.heap.size + 1 + 1, 1, none⟩) rfl _
  exact ⟨_, qs, W.heap.size, hi', rfl, SO.out.low tp (fun k hk => by omega), G0.out.2, HQ.out, tp.grew G1.out (fun k hk => by omega)⟩
theorem infoT : (Tryd.prog.info? 84).map (fun i => (i.zero, i.size, i.bytes)) = some (some (.agg #[.bool false, .slice none 0 0, .int .i64 0, .slice none 0 0, .slice none 0 0, .slice none 0 0, .int .i64 0, .int .i64 0]), 8, 128) := by kernel_rfl
/- Their lists are slices. -/
def Sh (q : Q4) : Prop := (∃ a n c, q.s = .slice a n c) ∧ (∃ a n c, q.p = .slice a n c) ∧ (∃ a n c, q.r = .slice a n c) ∧ ∃ a n c, q.f = .slice a n c
theorem Chain.sh {w : World} {l : List (SB × Q4)} {lo hi : Nat} (h : Chain w lo l hi) {i : Nat} {y : SB × Q4} (hy : l[i]? = some y) : Sh y.2 := by
  obtain ⟨h1, h2, h3, h4⟩ := h.all hy
  obtain ⟨a1, c1, e1, _⟩ := h1.one
  obtain ⟨a2, c2, e2, _⟩ := h2.one
  obtain ⟨a3, c3, e3, _⟩ := h3.one
  obtain ⟨a4, c4, e4, _⟩ := h4.one
  exact ⟨⟨_, _, _, e1⟩, ⟨_, _, _, e2⟩, ⟨_, _, _, e3⟩, ⟨_, _, _, e4⟩⟩
set_option maxRecDepth 100000 in
set_option maxHeartbeats 2000000 in
theorem lay_any {W : World} {tb kb n : Nat} {iv u : Value} {cs : List Value} {m : List SB} (hT : W.heap[tb]? = some (tobj kb iv)) (hr : W.ownsRow 0 84 8 iv n cs) (hn : n ≤ 2097152) (hS : LS W u m) (hm : m.length ≤ 1048576) (ho : Ok m) :
    Calls Tryd.prog 29 #[.pointer (some ⟨tb, 1, none⟩), .agg #[u, .bool false]] W fun en w' => en = .returned UNIT ∧ ∃ iv' cs', w'.heap[tb]? = some (tobj kb iv') ∧ w'.ownsRow 0 84 8 iv' (n + m.length) cs' ∧ TurnP (fun x => x = tb ∨ iv.ownBlock = some x) W w' ∧ (iv'.ownBlock = iv.ownBlock ∨ ∃ g, iv'.ownBlock = some g ∧ W.heap.size ≤ g) := by
  unfold UNIT
  have CU : Hid (∀ w', Grew W w' → Calls Tryd.prog 13 #[.agg #[u, .bool false], .int .i64 (n : Int)] w' fun e w'' => ∃ u qs B hi, e = .returned (.tuple #[.agg #[u, .bool false], .int .i64 0]) ∧ SubsO B w'' u qs hi ∧ w'.heap.size ≤ B ∧ qs.map Prod.fst = (m.map fun x => x.cp.mp (unrollN (n : Int))) ∧ Grew w' w'') := fun w' g => unrollO_any (hS.grew g) hm (fun x hx => (ho x hx).1) (by omega) (by omega) (fun x hx k hk => (ho x hx).2 k hk)
  obtain ⟨ua, uc, hu, _⟩ := hS.one
  subst hu
  obtain ⟨ia, ic, hi, _⟩ := row_max hr
  subst hi
  have HT : Hid (W.heap[tb]? = some (tobj kb (.slice ia n ic))) := hT
  have HR : Hid (W.ownsRow 0 84 8 (.slice ia n ic) n cs) := hr
  have t0 := cell_of hT 0
  have t1 := cell_of hT 1
  simp at t0 t1
  have htl := lt_of_obj hT
  clear hS ho hr hT
  generalize hk : m.length = k at *
  go_enter Tryd.func29, Tryd.ntmps29
  go_wp2_with fail
  have G0 : Grew W (W.alloc (.cells #[.slice ua k uc, .bool false] 38)) := (Grew.refl W).alloc _
  have B0 : (W.alloc (.cells #[.slice ua k uc, .bool false] 38)).heap[W.heap.size]? = some (.cells #[.slice ua k uc, .bool false] 38 (0, 0)) := heap_alloc_last _ _
  generalize (W.alloc (.cells #[.slice ua k uc, .bool false] 38)) = W0 at *
  refine (CU.out W0 G0).mono ?_
  rintro en w1 ⟨u', qs, B, hi, rfl, so, hB, hq, g1⟩
  have hql : Hid (qs.length = k) := (by have := congrArg List.length hq; simpa [hk] using this : qs.length = k)
  obtain ⟨va, vc, hv, hvc, hvm, _⟩ := row_max so.1
  subst hv
  have SH : Hid (∀ (j : Nat) (y : SB × Q4), qs[j]? = some y → Sh y.2) := fun j y hy => Chain.sh so.2.1 hy
  have SR : Hid (w1.ownsRow B 59 6 (.slice va qs.length vc) qs.length (qs.flatMap f6)) := so.1
  have G1 : Hid (Grew W w1) := G0.trans g1
  have T1 := G1.out.other HT.out
  have R1 : Hid (w1.ownsRow 0 84 8 (.slice ia n ic) n cs) := row_grew HR.out G1.out
  have B1 := g1.other B0
  have hBW : W.heap.size < B := by have := lt_of_obj B0; omega
  have HT1 : Hid (w1.heap[tb]? = some (tobj kb (.slice ia n ic))) := T1
  have HB1 : Hid (w1.heap[W.heap.size]? = some (.cells #[.slice ua k uc, .bool false] 38 (0, 0))) := B1
  have a0 := cell_of T1 0
  have a1 := cell_of T1 1
  have b0 := cell_of B1 0
  have b1 := cell_of B1 1
  simp at a0 a1 b0 b1
  have hqk : qs.length ≤ 1048576 := by rw [hql.out]; exact hm
  clear so hq g1 G0 B0 T1 B1 CU HR
  go_wp2_with fail
  have gz : Grew w1 (w1.alloc (.cells #[.slice va qs.length vc, .bool false] 38)) := (Grew.refl w1).alloc _
  have SR' : Hid ((w1.alloc (.cells #[.slice va qs.length vc, .bool false] 38)).ownsRow B 59 6 (.slice va qs.length vc) qs.length (qs.flatMap f6)) := row_grew SR.out gz
  have R1' : Hid ((w1.alloc (.cells #[.slice va qs.length vc, .bool false] 38)).ownsRow 0 84 8 (.slice ia n ic) n cs) := row_grew R1.out gz
  have HT1' : Hid ((w1.alloc (.cells #[.slice va qs.length vc, .bool false] 38)).heap[tb]? = some (tobj kb (.slice ia n ic))) := gz.other HT1.out
  have HB1' : Hid ((w1.alloc (.cells #[.slice va qs.length vc, .bool false] 38)).heap[W.heap.size]? = some (.cells #[.slice ua k uc, .bool false] 38 (0, 0))) := gz.other HB1.out
  have G1' : Hid (Grew W (w1.alloc (.cells #[.slice va qs.length vc, .bool false] 38))) := G1.out.trans gz
  generalize (w1.alloc (.cells #[.slice va qs.length vc, .bool false] 38)) = w2 at *
  clear SR R1 HT1 HB1 G1 gz a0 a1 b0 b1
  go_loopw [23] (fun j_ w' => ∃ (j : Nat) (iv' : Value) (cs' : List Value), j_ = .int .i64 j ∧ j ≤ qs.length ∧ Hid (w'.heap[tb]? = some (tobj kb iv')) ∧ Hid (w'.ownsRow 0 84 8 iv' (n + j) cs') ∧ Hid (w'.ownsRow B 59 6 (.slice va qs.length vc) qs.length (qs.flatMap f6)) ∧ Hid (w'.heap[W.heap.size]? = some (.cells #[.slice ua k uc, .bool false] 38 (0, 0))) ∧ Hid (TurnP (fun x => x = tb ∨ (Value.slice ia n ic).ownBlock = some x) W w') ∧ Hid (iv'.ownBlock = (Value.slice ia n ic).ownBlock ∨ ∃ g, iv'.ownBlock = some g ∧ W.heap.size ≤ g)) (fun j_ _ => qs.length - (intOf j_).toNat)
  case atStart => exact ⟨0, _, cs, rfl, Nat.zero_le _, HT1', R1', SR', HB1', G1'.out.turnP _, Or.inl rfl⟩
  case round =>
    clear SR' R1' HT1' HB1' G1'
    obtain ⟨j, iv', cs', rfl, hj, TJ, RJ, SJ, BJ, UJ, LJ⟩ := hrel
    obtain ⟨w3, hw3⟩ : ∃ w3, w3 = wr := ⟨_, rfl⟩
    rw [← hw3] at TJ RJ SJ BJ UJ ⊢
    clear hw3
    obtain ⟨ja, jc, hjv, _⟩ := row_max RJ.out
    subst hjv
    by_cases hlt : j < qs.length
    · obtain ⟨y, hy⟩ : ∃ y, qs[j]? = some y := ⟨_, List.getElem?_eq_getElem hlt⟩
      obtain ⟨g6, c6, hv6, hc6, ho6⟩ := row_at SJ.out (by omega)
      injection hv6 with hv6 _ hv7
      subst hv6 hv7
      have cl : ∀ t, t < 6 → w3.cell? ⟨g6, j * 6 + t, none⟩ = (f6 y)[t]? := fun t ht => by
        rw [SJ.out.cellAt (j * 6 + t) (by omega)]
        exact flat_at f6 6 (fun _ => rfl) qs j y t hy ht
      obtain ⟨⟨sa1, sn1, sc1, e1⟩, ⟨sa2, sn2, sc2, e2⟩, ⟨sa3, sn3, sc3, e3⟩, ⟨sa4, sn4, sc4, e4⟩⟩ := SH.out j y hy
      have p0 := cl 0 (by decide)
      have p1 := cl 1 (by decide)
      have p2 := cl 2 (by decide)
      have p3 := cl 3 (by decide)
      have p4 := cl 4 (by decide)
      have p5 := cl 5 (by decide)
      simp only [f6, List.getElem?_cons_zero, List.getElem?_cons_succ, e1, e2, e3, e4, Nat.add_zero] at p0 p1 p2 p3 p4 p5
      have d1 : decide ((j : Int) < (qs.length : Int)) = true := by simp; omega
      have d2 : decide (j < qs.length) = true := by simp; omega
      generalize y.1.final_ = fin at *
      generalize y.1.comp.kind = kin at *
      clear cl hy e1 e2 e3 e4
      go_wp2_with fail
      have gs : Grew w3 (w3.alloc (.cells #[.bool fin, .slice sa1 sn1 sc1, .int .i64 kin, .slice sa2 sn2 sc2, .slice sa3 sn3 sc3, .slice sa4 sn4 sc4] 59)) := (Grew.refl w3).alloc _
      have Bs : (w3.alloc (.cells #[.bool fin, .slice sa1 sn1 sc1, .int .i64 kin, .slice sa2 sn2 sc2, .slice sa3 sn3 sc3, .slice sa4 sn4 sc4] 59)).heap[w3.heap.size]? = some (.cells #[.bool fin, .slice sa1 sn1 sc1, .int .i64 kin, .slice sa2 sn2 sc2, .slice sa3 sn3 sc3, .slice sa4 sn4 sc4] 59 (0, 0)) := heap_alloc_last _ _
      generalize (w3.alloc (.cells #[.bool fin, .slice sa1 sn1 sc1, .int .i64 kin, .slice sa2 sn2 sc2, .slice sa3 sn3 sc3, .slice sa4 sn4 sc4] 59)) = w4 at *
      have T4 := gs.other TJ.out
      have B4 := gs.other BJ.out
      have R4 : Hid (w4.ownsRow 0 84 8 (.slice ja (n + j) jc) (n + j) cs') := row_grew RJ.out gs
      have S4 : Hid (w4.ownsRow B 59 6 (.slice (some ⟨g6, 0, none⟩) qs.length vc) qs.length (qs.flatMap f6)) := row_grew SJ.out gs
      have U4 : Hid (TurnP (fun x => x = tb ∨ (Value.slice ia n ic).ownBlock = some x) W w4) := UJ.out.trans (gs.turnP _)
      have HT4 : Hid (w4.heap[tb]? = some (tobj kb (.slice ja (n + j) jc))) := T4
      have HB4 : Hid (w4.heap[W.heap.size]? = some (.cells #[.slice ua k uc, .bool false] 38 (0, 0))) := B4
      have t0' := cell_of T4 0
      have t1' := cell_of T4 1
      have z1' := free_of T4 1
      have b0' := cell_of B4 0
      have b1' := cell_of B4 1
      have s0' := cell_of Bs 0
      have s1' := cell_of Bs 1
      have s2' := cell_of Bs 2
      have s3' := cell_of Bs 3
      have s4' := cell_of Bs 4
      have s5' := cell_of Bs 5
      simp at t0' t1' b0' b1' s0' s1' s2' s3' s4' s5'
      have l1 := lt_of_obj T4
      have l2 := lt_of_obj B4
      have l3 := lt_of_obj Bs
      have HOW : Hid (∀ g, (Value.slice ja (n + j) jc).ownBlock = some g → g ≠ tb ∧ g ≠ W.heap.size ∧ g < w4.heap.size) := fun g hg => by
        obtain ⟨cur, hc⟩ := row_tag R4.out hg
        refine ⟨fun e => ?_, fun e => ?_, (R4.out.lt g hg).2⟩
        · rw [e, HT4.out] at hc; unfold tobj at hc; injection hc with hc; injection hc with _ hc _; revert hc; decide
        · rw [e, HB4.out] at hc; injection hc with hc; injection hc with _ hc _; revert hc; decide
      have hnj : n + j ≤ 4194304 := by omega
      clear gs Bs T4 B4 p0 p1 p2 p3 p4 p5 TJ BJ RJ SJ UJ
      go_region_law (first
        | (refine step_app1a (v := .slice ja (n + j) jc) (n := n + j) (cs := cs') (B := 0) (new := [.bool fin, .slice sa1 sn1 sc1, .int .i64 kin, .slice sa2 sn2 sc2, .slice sa3 sn3 sc3, .slice sa4 sn4 sc4, .int .i64 (n : Int), .int .i64 (k : Int)]) (gx := w4.heap.size) rfl _ _ 49 84 8 128 _ Tryd.underlying49 infoT rfl (by decide) (by decide) rfl rfl rfl (row_grew R4.out (by first | exact ((Grew.refl w4).alloc _).drew | exact ((Grew.refl w4).drew).alloc _ | exact (Grew.refl w4).alloc _)) (Nat.zero_le _) rfl ?_ (by simp [Value.oneCell']) hnj ?_
           · intro j' hj'
             first | exact cell_of (heap_alloc_last w4 _) j' | (simp; done)
           intro v5 w5 hO5 hT5 hL5
           obtain ⟨a5, q5, ev5, _⟩ := row_max hO5
           subst ev5
           have hz5 : w4.heap.size ≤ w5.heap.size := by have := hT5.size; simp at this; omega
           have k5 : ∀ x, x < w4.heap.size → (Value.slice ja (n + j) jc).ownBlock ≠ some x → w5.heap[x]? = w4.heap[x]? := fun x hx hne => (hT5.block x (by simp; omega) hne).trans (Below.heap_alloc _ _ _ hx)
           have D5 : w5.heap[tb]? = some (tobj kb (.slice ja (n + j) jc)) := (k5 tb l1 (fun e => (HOW.out tb e).1 rfl)).trans HT4.out
           have e1' := cell_of D5 1
           have y1' := free_of D5 1
           simp at e1'
           have HD5 : Hid (w5.heap[tb]? = some (tobj kb (.slice ja (n + j) jc))) := D5
           have HB5 : Hid (w5.heap[W.heap.size]? = some (.cells #[.slice ua k uc, .bool false] 38 (0, 0))) := (k5 _ l2 (fun e => (HOW.out _ e).2.1 rfl)).trans HB4.out
           have O5 : Hid (w5.ownsRow 0 84 8 (.slice a5 (n + j + 1) q5) (n + j + 1) (cs' ++ [.bool fin, .slice sa1 sn1 sc1, .int .i64 kin, .slice sa2 sn2 sc2, .slice sa3 sn3 sc3, .slice sa4 sn4 sc4, .int .i64 (n : Int), .int .i64 (k : Int)])) := hO5
           have S5 : Hid (w5.ownsRow B 59 6 (.slice (some ⟨g6, 0, none⟩) qs.length vc) qs.length (qs.flatMap f6)) := row_same S4.out (fun g hg => k5 g (S4.out.lt g hg).2 (fun e => by
             obtain ⟨cur, hc⟩ := row_tag S4.out hg
             obtain ⟨cur', hc'⟩ := row_tag R4.out e
             rw [hc] at hc'
             injection hc' with q'
             injection q' with _ q' _
             revert q'; decide))
           have U5 : Hid (TurnP (fun x => x = tb ∨ (Value.slice ia n ic).ownBlock = some x) W w5) := U4.out.trans' (S' := fun x => (Value.slice ja (n + j) jc).ownBlock = some x) ⟨hT5.os, hT5.tape, hT5.output, hz5, fun x hx hne => k5 x hx hne⟩ (fun x hx => by
             rcases LJ.out with h | ⟨g, h, hg⟩
             · rw [h] at hx; exact Or.inl (Or.inr hx)
             · rw [h] at hx; injection hx with hx; subst hx; exact Or.inr hg)
           have L5 : Hid ((Value.slice a5 (n + j + 1) q5).ownBlock = (Value.slice ia n ic).ownBlock ∨ ∃ g, (Value.slice a5 (n + j + 1) q5).ownBlock = some g ∧ W.heap.size ≤ g) := by
             rcases hL5 with h | ⟨g, h, hg⟩
             · rw [h]; exact LJ.out
             · exact Or.inr ⟨g, h, by have := U4.out.size; simp at hg; omega⟩
           have hl5 : tb < w5.heap.size := lt_of_obj D5
           clear hO5 hT5 hL5 k5 D5))
      all_goals go_wp2_with fail
      all_goals
        go_roundw
        case rel =>
          refine ⟨j + 1, .slice a5 (n + j + 1) q5, cs' ++ [.bool fin, .slice sa1 sn1 sc1, .int .i64 kin, .slice sa2 sn2 sc2, .slice sa3 sn3 sc3, .slice sa4 sn4 sc4, .int .i64 (n : Int), .int .i64 (k : Int)], by go_num, by omega, heap_set HD5.out 1 _, ?_, ?_, ?_, ?_, L5⟩
          · refine row_set O5.out (fun cur f hx => ?_) _
            have := HD5.out
            rw [this] at hx
            unfold tobj at hx
            injection hx with hx
            injection hx with _ hx _
            revert hx; decide
          · refine row_set S5.out (fun cur f hx => ?_) _
            have := HD5.out
            rw [this] at hx
            unfold tobj at hx
            injection hx with hx
            injection hx with _ hx _
            revert hx; decide
          · exact heap_other HB5.out (fun e => by simp only at e; omega) _
          · exact U5.out.trans ((TurnP.refl (fun x => x = tb ∨ (Value.slice ia n ic).ownBlock = some x) w5).set (p := ⟨tb, 1, none⟩) (Or.inl rfl) _)
        case measure => simp [intOf]; omega
    · have d1 : decide ((j : Int) < (qs.length : Int)) = false := by simp; omega
      have hje : j = qs.length := by omega
      have HR' : Hid (w3.ownsRow 0 84 8 (.slice ja (n + j) jc) (n + k) cs') := by
        have := RJ.out
        rw [hje, hql.out] at this
        rw [hje, hql.out]
        exact this
      clear hje RJ
      go_wp2_with fail
      try go_end0
      exact ⟨rfl, _, cs', TJ.out, HR'.out, UJ.out, LJ.out⟩
end Go.Proofs.YthchhehmbldmdaaDoor
