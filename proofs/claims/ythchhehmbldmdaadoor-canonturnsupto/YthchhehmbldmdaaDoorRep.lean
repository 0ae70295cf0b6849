/-
  The program's replaced; no statement is proved here.
-/
import Derived.Test.YthchhehmbldmdaaDoorRepS
namespace Go.Proofs.YthchhehmbldmdaaDoor
open Go.RowKit
set_option linter.unusedVariables false
set_option linter.unusedSimpArgs false

theorem sml_cp {x : SB} (h : Sml x) : Sml x.cp := by
  have := ofK_sml h
  unfold SB.cp CT.cp Sml
  simp only [List.length_map]
  exact ⟨h.1, this⟩
theorem fst_set {l : List (SB × Q4)} {i : Nat} {y : SB} {q : Q4} : (l.set i (y, q)).map Prod.fst = (l.map Prod.fst).set i y := by
  rw [List.map_set]
theorem f6_set {l : List (SB × Q4)} {i : Nat} {y y' : SB} {q : Q4} (h : l[i]? = some (y, q)) (h1 : y'.final_ = y.final_) (h2 : y'.comp.kind = y.comp.kind) : (l.set i (y', q)).flatMap f6 = l.flatMap f6 := by
  induction l generalizing i with
  | nil => simp
  | cons z l ih =>
    cases i with
    | zero =>
      simp only [List.getElem?_cons_zero, Option.some.injEq] at h
      subst h
      rw [List.set_cons_zero, List.flatMap_cons, List.flatMap_cons]
      congr 1
      unfold f6
      simp only [h1, h2]
    | succ i =>
      rw [List.getElem?_cons_succ] at h
      rw [List.set_cons_succ, List.flatMap_cons, List.flatMap_cons, ih h]
def fnobj (v : Value) : Obj := .cells #[v] 81 (0, 0)
set_option maxRecDepth 100000 in
set_option maxHeartbeats 2000000 in
theorem rep_roll {w : World} {tv : Value} {l : List SB} {ex : Bool} {k1 k2 : Value} (σ : Int → Int) (h : LS w tv l) (hl : l.length ≤ 1048576) (hm : ∀ x ∈ l, Sml x)
    (hswap : ∀ x ∈ l, ∀ n, Num x.cp n → ∀ w', Grew w w' → Calls Tryd.prog 33 #[.int .i64 n, k1, k2] w' fun e w'' => e = .returned (.tuple #[.int .i64 (σ n), .bool true]) ∧ w'' = w') :
    Calls Tryd.prog 32 #[.agg #[tv, .bool ex], (.func (.func 33) #[] #[k1, k2])] w fun e w' => ∃ u qs hi, e = .returned (.tuple #[.agg #[u, .bool ex], .int .i64 0]) ∧ SubsO w.heap.size w' u qs hi ∧ qs.map Prod.fst = (l.map fun x => x.cp.mp σ) ∧ Grew w w' := by
  obtain ⟨a, cap, hv, hcap, hmax⟩ := h.one
  subst hv
  have hmf : ∀ (fn : Fn) (first cap : Array Value) (w : World), (Instr.makeFunc fn first cap).run Tryd.prog w = .ok (.func fn first cap) w := fun _ _ _ _ => rfl
  have HM : Hid (∀ x ∈ l, Sml x) := hm
  have HSW : Hid (∀ x ∈ l, ∀ n, Num x.cp n → ∀ w', Grew w w' → Calls Tryd.prog 33 #[.int .i64 n, k1, k2] w' fun e w'' => e = .returned (.tuple #[.int .i64 (σ n), .bool true]) ∧ w'' = w') := hswap
  have H : Hid (LS w (.slice a l.length cap) l) := h
  clear h hm hswap
  go_enter Tryd.func32, Tryd.ntmps32
  go_wp2_with fail
  have C := fun g => copied_any (w := (((w.alloc (.cells #[.slice a l.length cap, .bool ex] 38)).alloc (.cells #[.func (.func 33) #[] #[k1, k2]] 81)).alloc (.cells #[NILS, .bool false] 38))) (ex := ex) (H.out.grew g) hl HM.out
  generalize hW : (((w.alloc (.cells #[.slice a l.length cap, .bool ex] 38)).alloc (.cells #[.func (.func 33) #[] #[k1, k2]] 81)).alloc (.cells #[NILS, .bool false] 38)) = W at *
  have G0 : Hid (Grew w W) := by rw [← hW]; exact (((Grew.refl w).alloc _).alloc _).alloc _
  have S0 : Hid (W.heap.size = w.heap.size + 1 + 1 + 1) := (by rw [← hW, alloc_size, alloc_size, alloc_size] : W.heap.size = w.heap.size + 1 + 1 + 1)
  obtain ⟨A1, A2⟩ : Hid (W.heap[w.heap.size + 1]? = some (fnobj (.func (.func 33) #[] #[k1, k2]))) ∧ Hid (W.heap[w.heap.size + 1 + 1]? = some (robj NILS false)) := by
    rw [← hW]
    have h1 : (w.alloc (.cells #[.slice a l.length cap, .bool ex] 38)).heap.size = w.heap.size + 1 := alloc_size _ _
    have h2 : ((w.alloc (.cells #[.slice a l.length cap, .bool ex] 38)).alloc (.cells #[.func (.func 33) #[] #[k1, k2]] 81)).heap.size = w.heap.size + 1 + 1 := by rw [alloc_size, alloc_size]
    refine ⟨?_, ?_⟩
    · rw [← h1]; exact heap_alloc (heap_alloc_last _ _) _
    · rw [← h2]; exact heap_alloc_last _ _
  clear hW
  refine (C G0.out).mono ?_
  rintro en w1 ⟨u, qs, hi', rfl, so, hq, g1⟩
  obtain ⟨ua, uc, hu, hul, _, _⟩ := row_max so.1
  subst hu
  have HQ : Hid (qs.map Prod.fst = l.map SB.cp) := hq
  have HQL : Hid (qs.length = l.length) := (by have := congrArg List.length hq; simpa using this : qs.length = l.length)
  have hql : qs.length ≤ 1048576 := by have := HQL.out; omega
  have G1 : Hid (Grew W w1) := g1
  have SO : Hid (SubsO W.heap.size w1 (.slice ua qs.length uc) qs hi') := so
  clear C so hq g1
  go_wp2_with fail
  have AO3 : Hid (((w1.alloc (.cells #[.slice ua qs.length uc, .bool ex] 38)).alloc (.cells #[.bool true] 4)).heap[w1.heap.size]? = some (robj (.slice ua qs.length uc) ex)) := heap_alloc (heap_alloc_last _ _) _
  have OK3 : Hid (((w1.alloc (.cells #[.slice ua qs.length uc, .bool ex] 38)).alloc (.cells #[.bool true] 4)).heap[w1.heap.size + 1]? = some (bobj true)) := by
    have h1 : (w1.alloc (.cells #[.slice ua qs.length uc, .bool ex] 38)).heap.size = w1.heap.size + 1 := alloc_size _ _
    rw [← h1]; exact heap_alloc_last _ _
  have G3 : Hid (Grew w1 ((w1.alloc (.cells #[.slice ua qs.length uc, .bool ex] 38)).alloc (.cells #[.bool true] 4))) := ((Grew.refl w1).alloc _).alloc _
  generalize ((w1.alloc (.cells #[.slice ua qs.length uc, .bool ex] 38)).alloc (.cells #[.bool true] 4)) = W3 at *
  have SO3 : Hid (SubsO W.heap.size W3 (.slice ua qs.length uc) qs hi') := SO.out.grew G3.out
  have hhi := SO.out.2.2
  have hB1 := G1.out.2
  have B1 : Hid (W3.heap[w.heap.size + 1]? = some (fnobj (.func (.func 33) #[] #[k1, k2]))) := (G1.out.trans G3.out).other A1.out
  have B2 : Hid (W3.heap[w.heap.size + 1 + 1]? = some (robj NILS false)) := (G1.out.trans G3.out).other A2.out
  have GW : Hid (Grew w W3) := G0.out.trans (G1.out.trans G3.out)
  have hS0 := S0.out
  clear SO A1 A2
  go_loopw [15] (fun i_ w' => ∃ (i : Nat) (m : List (SB × Q4)), i_ = .int .i64 i ∧ i ≤ qs.length ∧ Hid (m.length = qs.length) ∧ Hid (m.map Prod.fst = mapTo (SB.mp σ) i (l.map SB.cp)) ∧ Hid (SubsO W.heap.size w' (.slice ua qs.length uc) m hi') ∧ Hid (w'.heap[w1.heap.size]? = some (robj (.slice ua qs.length uc) ex)) ∧ Hid (w'.heap[w1.heap.size + 1]? = some (bobj true)) ∧ Hid (TurnP (fun k => W.heap.size ≤ k) W3 w')) (fun i_ _ => qs.length - (intOf i_).toNat)
  case atStart => exact ⟨0, qs, rfl, Nat.zero_le _, rfl, (by rw [mapTo_zero]; exact HQ.out : qs.map Prod.fst = mapTo (SB.mp σ) 0 (l.map SB.cp)), SO3, AO3, OK3, TurnP.refl _ _⟩
  case round =>
    clear SO3 AO3 OK3
    obtain ⟨i, m, rfl, hi, HML, HMM, SO, AO, OK, T⟩ := hrel
    obtain ⟨w0, hw0⟩ : ∃ w0, w0 = wr := ⟨_, rfl⟩
    rw [← hw0] at SO AO OK T ⊢
    clear hw0
    have Gw : Hid (Grew w w0) := T.out.grew GW.out (fun k hk => by have := G0.out.2; omega)
    have C1 := T.out.other B1.out (by omega)
    have C2 := T.out.other B2.out (by omega)
    by_cases hlt : i < qs.length
    · obtain ⟨⟨y, q⟩, hyq⟩ : ∃ yq, m[i]? = some yq := ⟨_, List.getElem?_eq_getElem (by have := HML.out; omega)⟩
      obtain ⟨x, hx⟩ : ∃ x, l[i]? = some x := ⟨_, List.getElem?_eq_getElem (by have := HQL.out; omega)⟩
      have hxc : (l.map SB.cp)[i]? = some x.cp := by rw [List.getElem?_map, hx]; rfl
      have hyx : y = x.cp := by
        have h1 : (m.map Prod.fst)[i]? = some y := by rw [List.getElem?_map, hyq]; rfl
        rw [HMM.out, mapTo_get _ hxc] at h1
        exact (Option.some.inj h1).symm
      subst hyx
      obtain ⟨a', b', ha', hb', sub, upd⟩ := SO.out.2.1.at hyq
      have so1 : w0.ownsRow W.heap.size 59 6 (.slice ua m.length uc) m.length (m.flatMap f6) := by have := SO.out.1; rw [HML.out] at this ⊢; exact this
      obtain ⟨g, c, hv, hgb, hglo, hc, hz⟩ := row_cells (f := f6) (k := 6) (fun _ => rfl) so1 hyq
      injection hv with e1 _ e3
      subst e1
      subst e3
      have c0 := hc 0 (by decide)
      have c1 := hc 1 (by decide)
      have c2 := hc 2 (by decide)
      have c3 := hc 3 (by decide)
      have c4 := hc 4 (by decide)
      have c5 := hc 5 (by decide)
      have d1 : decide ((i : Int) < (qs.length : Int)) = true := by simp; omega
      have d2 : decide (i < qs.length) = true := by simp; omega
      have HU : Hid (∀ (w' : World) (S : Nat → Prop) (x' : SB), TurnP S w0 w' → (∀ g, S g → a' ≤ g ∧ g < b' ∨ hi' ≤ g) → SubO a' b' w' x' q → Chain w' W.heap.size (m.set i (x', q)) hi') := upd
      have HSUB : Hid (SubO a' b' w0 x.cp q) := sub
      have HYQ : Hid (m[i]? = some (x.cp, q)) := hyq
      have hsm := sml_cp (HM.out x (List.mem_of_getElem? hx))
      have HX : Hid ((l.map SB.cp)[i]? = some x.cp) := hxc
      have HSX : Hid (∀ n, Num x.cp n → ∀ w', Grew w w' → Calls Tryd.prog 33 #[.int .i64 n, k1, k2] w' fun e w'' => e = .returned (.tuple #[.int .i64 (σ n), .bool true]) ∧ w'' = w') := HSW.out x (List.mem_of_getElem? hx)
      have hkin : Kin x.cp.comp := Kin.cp x.comp
      clear hyq hx hxc upd sub hc hz so1
      have D := fun (gw : Grew w0 (w0.alloc (.cells #[.bool x.cp.final_, q.s, .int .i64 x.cp.comp.kind, q.p, q.r, q.f] 59))) => sub_roll (w := (w0.alloc (.cells #[.bool x.cp.final_, q.s, .int .i64 x.cp.comp.kind, q.p, q.r, q.f] 59))) (okb := w1.heap.size + 1) (swb := w.heap.size + 1) (k1 := k1) (k2 := k2) σ (HSUB.out.turnP (gw.turnP (fun _ => False)) (fun _ _ _ h => h)) hkin hsm (gw.other OK.out) (cell_of (gw.other C1) 0) (by omega) (by omega) (Or.inr (by omega)) (fun n hn w' t => HSX.out n hn w' (t.grew (Gw.out.trans gw) (fun k hk => hk.elim (fun h => by have := (HSUB.out.owns h).1; have := G0.out.2; omega) (fun h => by have := G0.out.2; omega))))
      replace D := D ((Grew.refl w0).alloc _)
      have HO : Hid (∀ k, q.owns k → a' ≤ k ∧ k < b' ∧ k < w0.heap.size) := fun k h => HSUB.out.owns h
      have HNT : Hid (∀ k, q.owns k → NoT w0 k 59) := fun k h => HSUB.out.noT h
      obtain ⟨sa, sc, e1, _⟩ := row_max HSUB.out.1
      obtain ⟨pa, pc, e2, _⟩ := row_max HSUB.out.2.1
      obtain ⟨ra, rc, e3, _⟩ := row_max HSUB.out.2.2.1
      obtain ⟨fa, fc, e4, _⟩ := row_max HSUB.out.2.2.2.1
      have hqe : q = ⟨.slice sa x.cp.supers.length sc, .slice pa x.cp.comp.params.length pc, .slice ra x.cp.comp.results.length rc, .slice fa x.cp.comp.fields.length fc⟩ := by
        obtain ⟨q1, q2, q3, q4⟩ := q
        simp only at e1 e2 e3 e4
        rw [e1, e2, e3, e4]
      have HQE : Hid (q = ⟨.slice sa x.cp.supers.length sc, .slice pa x.cp.comp.params.length pc, .slice ra x.cp.comp.results.length rc, .slice fa x.cp.comp.fields.length fc⟩) := hqe
      rw [e1, e2, e3, e4] at D
      simp only [f6, List.getElem?_cons_zero, List.getElem?_cons_succ, Nat.add_zero, e1, e2, e3, e4] at c0 c1 c2 c3 c4 c5
      clear e1 e2 e3 e4 hqe
      generalize hz1 : x.cp.supers.length = z1 at *
      generalize hz2 : x.cp.comp.params.length = z2 at *
      generalize hz3 : x.cp.comp.results.length = z3 at *
      generalize hz4 : x.cp.comp.fields.length = z4 at *
      generalize hz5 : x.cp.final_ = z5 at *
      generalize hz6 : x.cp.comp.kind = z6 at *
      clear hz1 hz2 hz3 hz4
      have E5 : Hid (x.cp.final_ = z5) := hz5
      have E6 : Hid (x.cp.comp.kind = z6) := hz6
      clear hz5 hz6 hsm hkin
      go_wp2_with fail
      refine D.mono ?_
      rintro en w2 ⟨rfl, ⟨ok2, sub2⟩, t2⟩
      have t02 : TurnP (fun k => q.owns k ∨ k = w1.heap.size + 1) w0 w2 := (((Grew.refl w0).alloc _).turnP _).trans t2
      have so2 : SubsO W.heap.size w2 (.slice (some ⟨g, 0, none⟩) qs.length uc) (m.set i (x.cp.mp σ, q)) hi' := by
        refine ⟨?_, HU.out w2 _ _ t02 (fun k hk => hk.elim (fun h => Or.inl ⟨(HO.out k h).1, (HO.out k h).2.1⟩) (fun h => Or.inr (by omega))) sub2, Nat.le_trans SO.out.2.2 t02.size⟩
        rw [f6_set (y' := x.cp.mp σ) HYQ.out rfl rfl, List.length_set]
        refine row_turnP SO.out.1 t02 (fun k hk hx => ?_)
        obtain ⟨cur, hcur⟩ := row_tag SO.out.1 hk
        rcases hx with h | h
        · exact HNT.out k h _ _ hcur
        · subst h
          rw [OK.out] at hcur
          injection hcur with q'
          unfold bobj at q'
          injection q' with _ q2 _
          exact absurd q2 (by decide)
      have SO2 : Hid (SubsO W.heap.size w2 (.slice (some ⟨g, 0, none⟩) qs.length uc) (m.set i (x.cp.mp σ, q)) hi') := so2
      have AO2 : Hid (w2.heap[w1.heap.size]? = some (robj (.slice (some ⟨g, 0, none⟩) qs.length uc) ex)) := t02.other AO.out (fun hx => hx.elim (fun h => by have := (HO.out _ h).2.1; omega) (fun h => by omega))
      have OK2 : Hid (w2.heap[w1.heap.size + 1]? = some (bobj true)) := ok2
      have T2 : Hid (TurnP (fun k => W.heap.size ≤ k) W3 w2) := T.out.trans (t02.mono (fun k _ hx => hx.elim (fun h => by have := (HO.out _ h).1; omega) (fun h => by omega)))
      have HM2 : Hid ((m.set i (x.cp.mp σ, q)).map Prod.fst = mapTo (SB.mp σ) (i + 1) (l.map SB.cp)) := (by rw [fst_set, HMM.out, mapTo_succ (SB.mp σ) HX.out] : (m.set i (x.cp.mp σ, q)).map Prod.fst = mapTo (SB.mp σ) (i + 1) (l.map SB.cp))
      have HL2 : Hid ((m.set i (x.cp.mp σ, q)).length = qs.length) := (by rw [List.length_set]; exact HML.out : (m.set i (x.cp.mp σ, q)).length = qs.length)
      generalize (m.set i (x.cp.mp σ, q)) = m2 at *
      unfold UNIT
      clear D t02 so2 ok2 sub2 t2 C1 C2 SO AO OK T c0 c1 c2 c3 c4 c5
      go_wp2_with fail
      go_roundw
      case rel => exact ⟨i + 1, m2, by go_num, by omega, HL2, HM2, SO2, AO2, OK2, T2⟩
      case measure => simp [intOf]; omega
    · have d1 : decide ((i : Int) < (qs.length : Int)) = false := by simp; omega
      have hin : mapTo (SB.mp σ) i (l.map SB.cp) = (l.map SB.cp).map (SB.mp σ) := by
        have e : i = (l.map SB.cp).length := by rw [List.length_map]; have := HQL.out; omega
        rw [e, mapTo_full]
      have co := cell_of OK.out 0
      obtain ⟨z0, z1⟩ := box_r AO.out
      obtain ⟨y0, y1⟩ := box_r C2
      have zf0 := free_of C2 0
      have zf1 := free_of C2 1
      simp at co
      go_wp2_with fail
      have h1 := heap_set C2 0 (.slice ua qs.length uc)
      have h2 := heap_set h1 1 (.bool ex)
      have q0 := cell_of h1 0
      have q1 := cell_of h2 1
      simp at q0 q1
      refine bodyPost_ret (v := .tuple #[.agg #[.slice ua qs.length uc, .bool ex], .int .i64 0]) (by simp [results, Tryd.results32, go_sem, q0, q1]) rfl ?_
      have tp : TurnP (fun k => k = w.heap.size + 1 + 1) w0 ((w0.setCell ⟨w.heap.size + 1 + 1, 0, none⟩ (.slice ua qs.length uc)).setCell ⟨w.heap.size + 1 + 1, 1, none⟩ (.bool ex)) := ((TurnP.refl (fun k => k = w.heap.size + 1 + 1) w0).set (p := ⟨w.heap.size + 1 + 1, 0, none⟩) rfl _).set (p := ⟨w.heap.size + 1 + 1, 1, none⟩) rfl _
      have so := SO.out.low tp (fun k hk => by omega)
      have hw := G0.out.2
      exact ⟨_, m, hi', rfl, ⟨row_low so.1 hw, so.2.1.low hw, so.2.2⟩, by rw [HMM.out, hin, List.map_map]; rfl, tp.grew Gw.out (fun k hk => by omega)⟩
set_option maxRecDepth 100000 in
set_option maxHeartbeats 2000000 in
theorem rep_unroll {w : World} {tv : Value} {l : List SB} {ex : Bool} {k1 k2 : Value} (σ : Int → Int) (h : LS w tv l) (hl : l.length ≤ 1048576) (hm : ∀ x ∈ l, Sml x)
    (hswap : ∀ x ∈ l, ∀ n, Num x.cp n → ∀ w', Grew w w' → Calls Tryd.prog 34 #[.int .i64 n, k1, k2] w' fun e w'' => e = .returned (.tuple #[.int .i64 (σ n), .bool true]) ∧ w'' = w') :
    Calls Tryd.prog 32 #[.agg #[tv, .bool ex], (.func (.func 34) #[] #[k1, k2])] w fun e w' => ∃ u qs hi, e = .returned (.tuple #[.agg #[u, .bool ex], .int .i64 0]) ∧ SubsO w.heap.size w' u qs hi ∧ qs.map Prod.fst = (l.map fun x => x.cp.mp σ) ∧ Grew w w' := by
  obtain ⟨a, cap, hv, hcap, hmax⟩ := h.one
  subst hv
  have hmf : ∀ (fn : Fn) (first cap : Array Value) (w : World), (Instr.makeFunc fn first cap).run Tryd.prog w = .ok (.func fn first cap) w := fun _ _ _ _ => rfl
  have HM : Hid (∀ x ∈ l, Sml x) := hm
  have HSW : Hid (∀ x ∈ l, ∀ n, Num x.cp n → ∀ w', Grew w w' → Calls Tryd.prog 34 #[.int .i64 n, k1, k2] w' fun e w'' => e = .returned (.tuple #[.int .i64 (σ n), .bool true]) ∧ w'' = w') := hswap
  have H : Hid (LS w (.slice a l.length cap) l) := h
  clear h hm hswap
  go_enter Tryd.func32, Tryd.ntmps32
  go_wp2_with fail
  have C := fun g => copied_any (w := (((w.alloc (.cells #[.slice a l.length cap, .bool ex] 38)).alloc (.cells #[.func (.func 34) #[] #[k1, k2]] 81)).alloc (.cells #[NILS, .bool false] 38))) (ex := ex) (H.out.grew g) hl HM.out
  generalize hW : (((w.alloc (.cells #[.slice a l.length cap, .bool ex] 38)).alloc (.cells #[.func (.func 34) #[] #[k1, k2]] 81)).alloc (.cells #[NILS, .bool false] 38)) = W at *
  have G0 : Hid (Grew w W) := by rw [← hW]; exact (((Grew.refl w).alloc _).alloc _).alloc _
  have S0 : Hid (W.heap.size = w.heap.size + 1 + 1 + 1) := (by rw [← hW, alloc_size, alloc_size, alloc_size] : W.heap.size = w.heap.size + 1 + 1 + 1)
  obtain ⟨A1, A2⟩ : Hid (W.heap[w.heap.size + 1]? = some (fnobj (.func (.func 34) #[] #[k1, k2]))) ∧ Hid (W.heap[w.heap.size + 1 + 1]? = some (robj NILS false)) := by
    rw [← hW]
    have h1 : (w.alloc (.cells #[.slice a l.length cap, .bool ex] 38)).heap.size = w.heap.size + 1 := alloc_size _ _
    have h2 : ((w.alloc (.cells #[.slice a l.length cap, .bool ex] 38)).alloc (.cells #[.func (.func 34) #[] #[k1, k2]] 81)).heap.size = w.heap.size + 1 + 1 := by rw [alloc_size, alloc_size]
    refine ⟨?_, ?_⟩
    · rw [← h1]; exact heap_alloc (heap_alloc_last _ _) _
    · rw [← h2]; exact heap_alloc_last _ _
  clear hW
  refine (C G0.out).mono ?_
  rintro en w1 ⟨u, qs, hi', rfl, so, hq, g1⟩
  obtain ⟨ua, uc, hu, hul, _, _⟩ := row_max so.1
  subst hu
  have HQ : Hid (qs.map Prod.fst = l.map SB.cp) := hq
  have HQL : Hid (qs.length = l.length) := (by have := congrArg List.length hq; simpa using this : qs.length = l.length)
  have hql : qs.length ≤ 1048576 := by have := HQL.out; omega
  have G1 : Hid (Grew W w1) := g1
  have SO : Hid (SubsO W.heap.size w1 (.slice ua qs.length uc) qs hi') := so
  clear C so hq g1
  go_wp2_with fail
  have AO3 : Hid (((w1.alloc (.cells #[.slice ua qs.length uc, .bool ex] 38)).alloc (.cells #[.bool true] 4)).heap[w1.heap.size]? = some (robj (.slice ua qs.length uc) ex)) := heap_alloc (heap_alloc_last _ _) _
  have OK3 : Hid (((w1.alloc (.cells #[.slice ua qs.length uc, .bool ex] 38)).alloc (.cells #[.bool true] 4)).heap[w1.heap.size + 1]? = some (bobj true)) := by
    have h1 : (w1.alloc (.cells #[.slice ua qs.length uc, .bool ex] 38)).heap.size = w1.heap.size + 1 := alloc_size _ _
    rw [← h1]; exact heap_alloc_last _ _
  have G3 : Hid (Grew w1 ((w1.alloc (.cells #[.slice ua qs.length uc, .bool ex] 38)).alloc (.cells #[.bool true] 4))) := ((Grew.refl w1).alloc _).alloc _
  generalize ((w1.alloc (.cells #[.slice ua qs.length uc, .bool ex] 38)).alloc (.cells #[.bool true] 4)) = W3 at *
  have SO3 : Hid (SubsO W.heap.size W3 (.slice ua qs.length uc) qs hi') := SO.out.grew G3.out
  have hhi := SO.out.2.2
  have hB1 := G1.out.2
  have B1 : Hid (W3.heap[w.heap.size + 1]? = some (fnobj (.func (.func 34) #[] #[k1, k2]))) := (G1.out.trans G3.out).other A1.out
  have B2 : Hid (W3.heap[w.heap.size + 1 + 1]? = some (robj NILS false)) := (G1.out.trans G3.out).other A2.out
  have GW : Hid (Grew w W3) := G0.out.trans (G1.out.trans G3.out)
  have hS0 := S0.out
  clear SO A1 A2
  go_loopw [15] (fun i_ w' => ∃ (i : Nat) (m : List (SB × Q4)), i_ = .int .i64 i ∧ i ≤ qs.length ∧ Hid (m.length = qs.length) ∧ Hid (m.map Prod.fst = mapTo (SB.mp σ) i (l.map SB.cp)) ∧ Hid (SubsO W.heap.size w' (.slice ua qs.length uc) m hi') ∧ Hid (w'.heap[w1.heap.size]? = some (robj (.slice ua qs.length uc) ex)) ∧ Hid (w'.heap[w1.heap.size + 1]? = some (bobj true)) ∧ Hid (TurnP (fun k => W.heap.size ≤ k) W3 w')) (fun i_ _ => qs.length - (intOf i_).toNat)
  case atStart => exact ⟨0, qs, rfl, Nat.zero_le _, rfl, (by rw [mapTo_zero]; exact HQ.out : qs.map Prod.fst = mapTo (SB.mp σ) 0 (l.map SB.cp)), SO3, AO3, OK3, TurnP.refl _ _⟩
  case round =>
    clear SO3 AO3 OK3
    obtain ⟨i, m, rfl, hi, HML, HMM, SO, AO, OK, T⟩ := hrel
    obtain ⟨w0, hw0⟩ : ∃ w0, w0 = wr := ⟨_, rfl⟩
    rw [← hw0] at SO AO OK T ⊢
    clear hw0
    have Gw : Hid (Grew w w0) := T.out.grew GW.out (fun k hk => by have := G0.out.2; omega)
    have C1 := T.out.other B1.out (by omega)
    have C2 := T.out.other B2.out (by omega)
    by_cases hlt : i < qs.length
    · obtain ⟨⟨y, q⟩, hyq⟩ : ∃ yq, m[i]? = some yq := ⟨_, List.getElem?_eq_getElem (by have := HML.out; omega)⟩
      obtain ⟨x, hx⟩ : ∃ x, l[i]? = some x := ⟨_, List.getElem?_eq_getElem (by have := HQL.out; omega)⟩
      have hxc : (l.map SB.cp)[i]? = some x.cp := by rw [List.getElem?_map, hx]; rfl
      have hyx : y = x.cp := by
        have h1 : (m.map Prod.fst)[i]? = some y := by rw [List.getElem?_map, hyq]; rfl
        rw [HMM.out, mapTo_get _ hxc] at h1
        exact (Option.some.inj h1).symm
      subst hyx
      obtain ⟨a', b', ha', hb', sub, upd⟩ := SO.out.2.1.at hyq
      have so1 : w0.ownsRow W.heap.size 59 6 (.slice ua m.length uc) m.length (m.flatMap f6) := by have := SO.out.1; rw [HML.out] at this ⊢; exact this
      obtain ⟨g, c, hv, hgb, hglo, hc, hz⟩ := row_cells (f := f6) (k := 6) (fun _ => rfl) so1 hyq
      injection hv with e1 _ e3
      subst e1
      subst e3
      have c0 := hc 0 (by decide)
      have c1 := hc 1 (by decide)
      have c2 := hc 2 (by decide)
      have c3 := hc 3 (by decide)
      have c4 := hc 4 (by decide)
      have c5 := hc 5 (by decide)
      have d1 : decide ((i : Int) < (qs.length : Int)) = true := by simp; omega
      have d2 : decide (i < qs.length) = true := by simp; omega
      have HU : Hid (∀ (w' : World) (S : Nat → Prop) (x' : SB), TurnP S w0 w' → (∀ g, S g → a' ≤ g ∧ g < b' ∨ hi' ≤ g) → SubO a' b' w' x' q → Chain w' W.heap.size (m.set i (x', q)) hi') := upd
      have HSUB : Hid (SubO a' b' w0 x.cp q) := sub
      have HYQ : Hid (m[i]? = some (x.cp, q)) := hyq
      have hsm := sml_cp (HM.out x (List.mem_of_getElem? hx))
      have HX : Hid ((l.map SB.cp)[i]? = some x.cp) := hxc
      have HSX : Hid (∀ n, Num x.cp n → ∀ w', Grew w w' → Calls Tryd.prog 34 #[.int .i64 n, k1, k2] w' fun e w'' => e = .returned (.tuple #[.int .i64 (σ n), .bool true]) ∧ w'' = w') := HSW.out x (List.mem_of_getElem? hx)
      have hkin : Kin x.cp.comp := Kin.cp x.comp
      clear hyq hx hxc upd sub hc hz so1
      have D := fun (gw : Grew w0 (w0.alloc (.cells #[.bool x.cp.final_, q.s, .int .i64 x.cp.comp.kind, q.p, q.r, q.f] 59))) => sub_unroll (w := (w0.alloc (.cells #[.bool x.cp.final_, q.s, .int .i64 x.cp.comp.kind, q.p, q.r, q.f] 59))) (okb := w1.heap.size + 1) (swb := w.heap.size + 1) (k1 := k1) (k2 := k2) σ (HSUB.out.turnP (gw.turnP (fun _ => False)) (fun _ _ _ h => h)) hkin hsm (gw.other OK.out) (cell_of (gw.other C1) 0) (by omega) (by omega) (Or.inr (by omega)) (fun n hn w' t => HSX.out n hn w' (t.grew (Gw.out.trans gw) (fun k hk => hk.elim (fun h => by have := (HSUB.out.owns h).1; have := G0.out.2; omega) (fun h => by have := G0.out.2; omega))))
      replace D := D ((Grew.refl w0).alloc _)
      have HO : Hid (∀ k, q.owns k → a' ≤ k ∧ k < b' ∧ k < w0.heap.size) := fun k h => HSUB.out.owns h
      have HNT : Hid (∀ k, q.owns k → NoT w0 k 59) := fun k h => HSUB.out.noT h
      obtain ⟨sa, sc, e1, _⟩ := row_max HSUB.out.1
      obtain ⟨pa, pc, e2, _⟩ := row_max HSUB.out.2.1
      obtain ⟨ra, rc, e3, _⟩ := row_max HSUB.out.2.2.1
      obtain ⟨fa, fc, e4, _⟩ := row_max HSUB.out.2.2.2.1
      have hqe : q = ⟨.slice sa x.cp.supers.length sc, .slice pa x.cp.comp.params.length pc, .slice ra x.cp.comp.results.length rc, .slice fa x.cp.comp.fields.length fc⟩ := by
        obtain ⟨q1, q2, q3, q4⟩ := q
        simp only at e1 e2 e3 e4
        rw [e1, e2, e3, e4]
      have HQE : Hid (q = ⟨.slice sa x.cp.supers.length sc, .slice pa x.cp.comp.params.length pc, .slice ra x.cp.comp.results.length rc, .slice fa x.cp.comp.fields.length fc⟩) := hqe
      rw [e1, e2, e3, e4] at D
      simp only [f6, List.getElem?_cons_zero, List.getElem?_cons_succ, Nat.add_zero, e1, e2, e3, e4] at c0 c1 c2 c3 c4 c5
      clear e1 e2 e3 e4 hqe
      generalize hz1 : x.cp.supers.length = z1 at *
      generalize hz2 : x.cp.comp.params.length = z2 at *
      generalize hz3 : x.cp.comp.results.length = z3 at *
      generalize hz4 : x.cp.comp.fields.length = z4 at *
      generalize hz5 : x.cp.final_ = z5 at *
      generalize hz6 : x.cp.comp.kind = z6 at *
      clear hz1 hz2 hz3 hz4
      have E5 : Hid (x.cp.final_ = z5) := hz5
      have E6 : Hid (x.cp.comp.kind = z6) := hz6
      clear hz5 hz6 hsm hkin
      go_wp2_with fail
      refine D.mono ?_
      rintro en w2 ⟨rfl, ⟨ok2, sub2⟩, t2⟩
      have t02 : TurnP (fun k => q.owns k ∨ k = w1.heap.size + 1) w0 w2 := (((Grew.refl w0).alloc _).turnP _).trans t2
      have so2 : SubsO W.heap.size w2 (.slice (some ⟨g, 0, none⟩) qs.length uc) (m.set i (x.cp.mp σ, q)) hi' := by
        refine ⟨?_, HU.out w2 _ _ t02 (fun k hk => hk.elim (fun h => Or.inl ⟨(HO.out k h).1, (HO.out k h).2.1⟩) (fun h => Or.inr (by omega))) sub2, Nat.le_trans SO.out.2.2 t02.size⟩
        rw [f6_set (y' := x.cp.mp σ) HYQ.out rfl rfl, List.length_set]
        refine row_turnP SO.out.1 t02 (fun k hk hx => ?_)
        obtain ⟨cur, hcur⟩ := row_tag SO.out.1 hk
        rcases hx with h | h
        · exact HNT.out k h _ _ hcur
        · subst h
          rw [OK.out] at hcur
          injection hcur with q'
          unfold bobj at q'
          injection q' with _ q2 _
          exact absurd q2 (by decide)
      have SO2 : Hid (SubsO W.heap.size w2 (.slice (some ⟨g, 0, none⟩) qs.length uc) (m.set i (x.cp.mp σ, q)) hi') := so2
      have AO2 : Hid (w2.heap[w1.heap.size]? = some (robj (.slice (some ⟨g, 0, none⟩) qs.length uc) ex)) := t02.other AO.out (fun hx => hx.elim (fun h => by have := (HO.out _ h).2.1; omega) (fun h => by omega))
      have OK2 : Hid (w2.heap[w1.heap.size + 1]? = some (bobj true)) := ok2
      have T2 : Hid (TurnP (fun k => W.heap.size ≤ k) W3 w2) := T.out.trans (t02.mono (fun k _ hx => hx.elim (fun h => by have := (HO.out _ h).1; omega) (fun h => by omega)))
      have HM2 : Hid ((m.set i (x.cp.mp σ, q)).map Prod.fst = mapTo (SB.mp σ) (i + 1) (l.map SB.cp)) := (by rw [fst_set, HMM.out, mapTo_succ (SB.mp σ) HX.out] : (m.set i (x.cp.mp σ, q)).map Prod.fst = mapTo (SB.mp σ) (i + 1) (l.map SB.cp))
      have HL2 : Hid ((m.set i (x.cp.mp σ, q)).length = qs.length) := (by rw [List.length_set]; exact HML.out : (m.set i (x.cp.mp σ, q)).length = qs.length)
      generalize (m.set i (x.cp.mp σ, q)) = m2 at *
      unfold UNIT
      clear D t02 so2 ok2 sub2 t2 C1 C2 SO AO OK T c0 c1 c2 c3 c4 c5
      go_wp2_with fail
      go_roundw
      case rel => exact ⟨i + 1, m2, by go_num, by omega, HL2, HM2, SO2, AO2, OK2, T2⟩
      case measure => simp [intOf]; omega
    · have d1 : decide ((i : Int) < (qs.length : Int)) = false := by simp; omega
      have hin : mapTo (SB.mp σ) i (l.map SB.cp) = (l.map SB.cp).map (SB.mp σ) := by
        have e : i = (l.map SB.cp).length := by rw [List.length_map]; have := HQL.out; omega
        rw [e, mapTo_full]
      have co := cell_of OK.out 0
      obtain ⟨z0, z1⟩ := box_r AO.out
      obtain ⟨y0, y1⟩ := box_r C2
      have zf0 := free_of C2 0
      have zf1 := free_of C2 1
      simp at co
      go_wp2_with fail
      have h1 := heap_set C2 0 (.slice ua qs.length uc)
      have h2 := heap_set h1 1 (.bool ex)
      have q0 := cell_of h1 0
      have q1 := cell_of h2 1
      simp at q0 q1
      refine bodyPost_ret (v := .tuple #[.agg #[.slice ua qs.length uc, .bool ex], .int .i64 0]) (by simp [results, Tryd.results32, go_sem, q0, q1]) rfl ?_
      have tp : TurnP (fun k => k = w.heap.size + 1 + 1) w0 ((w0.setCell ⟨w.heap.size + 1 + 1, 0, none⟩ (.slice ua qs.length uc)).setCell ⟨w.heap.size + 1 + 1, 1, none⟩ (.bool ex)) := ((TurnP.refl (fun k => k = w.heap.size + 1 + 1) w0).set (p := ⟨w.heap.size + 1 + 1, 0, none⟩) rfl _).set (p := ⟨w.heap.size + 1 + 1, 1, none⟩) rfl _
      have so := SO.out.low tp (fun k hk => by omega)
      have hw := G0.out.2
      exact ⟨_, m, hi', rfl, ⟨row_low so.1 hw, so.2.1.low hw, so.2.2⟩, by rw [HMM.out, hin, List.map_map]; rfl, tp.grew Gw.out (fun k hk => by omega)⟩
end Go.Proofs.YthchhehmbldmdaaDoor
