/-
  The program's copied; no statement is proved here.
-/
import Derived.Test.YthchhehmbldmdaaDoorOwn
import Derived.Test.YthchhehmbldmdaaDoorCut
namespace Go.Proofs.YthchhehmbldmdaaDoor
open Go.RowKit
set_option linter.unusedVariables false
set_option linter.unusedSimpArgs false

def CT.cp (c : CT) : CT := ⟨c.kind, c.ofK.params.map VT.cnt, c.ofK.results.map VT.cnt, c.ofK.fields.map FT.cnt⟩
def SB.cp (x : SB) : SB := ⟨x.final_, x.supers, x.comp.cp⟩
theorem ofK_rd {w : World} {x : SB} {sv pv rv fv : Value} (h : SubR w x sv pv rv fv) : LV w (KP x.comp.kind pv) x.comp.ofK.params ∧ LV w (KP x.comp.kind rv) x.comp.ofK.results ∧ LF w (KF x.comp.kind fv) x.comp.ofK.fields := by
  obtain ⟨h1, h2, h3, h4⟩ := h
  unfold KP KF CT.ofK
  by_cases k1 : x.comp.kind = 1
  · rw [if_pos k1, if_pos k1, if_pos k1, if_neg (by omega)]
    exact ⟨h2, h3, Lst.nil _ _ _⟩
  · rw [if_neg k1, if_neg k1, if_neg k1]
    by_cases k2 : x.comp.kind = 2 ∨ x.comp.kind = 3
    · rw [if_pos k2, if_pos k2]
      exact ⟨Lst.nil _ _ _, Lst.nil _ _ _, h4⟩
    · rw [if_neg k2, if_neg k2]
      exact ⟨Lst.nil _ _ _, Lst.nil _ _ _, Lst.nil _ _ _⟩
theorem ofK_sml {x : SB} (h : Sml x) : x.comp.ofK.params.length ≤ 1048576 ∧ x.comp.ofK.results.length ≤ 1048576 ∧ x.comp.ofK.fields.length ≤ 1048576 := by
  obtain ⟨h1, h2, h3, h4⟩ := h
  unfold CT.ofK
  split
  · exact ⟨h2, h3, by simp⟩
  · split
    · exact ⟨by simp, by simp, h4⟩
    · exact ⟨by simp, by simp, by simp⟩
theorem call_cv (p : Value) (w : World) : (callFunc 60 #[p]).run Tryd.prog w = .ok (.enter 60 #[p]) w := by kernel_rfl
theorem call_cf (p : Value) (w : World) : (callFunc 61 #[p]).run Tryd.prog w = .ok (.enter 61 #[p]) w := by kernel_rfl
theorem step_cv {ops : Array Oper} {o : Oper} {a : Act} {w : World} {K : Act → World → Prop} {Q : Exit → Act → World → Prop} {E : Prop} (x : Operand) {v : Value} {l m : List VT} (hl : LV w v l) (hm : Hid (m = l.map VT.cnt)) (hsz : l.length ≤ 1048576)
    (hop : o.op = .call { callee := .value (.func 60), args := #[x], argTypes := #[54] }) (hg : o.guard = none) (hx : a.eval x = v)
    (h : ∀ ua uc w', RowV w.heap.size w' (.slice ua m.length uc) m → Grew w w' → K (a.put o.dst (.slice ua m.length uc)) w') :
    if Region.wanted o (yielded ops a.tmps) = true then Oper.wp Tryd.prog o a w K Q else E :=
  step_callF hop (by simp [Region.wanted, hg]) (args := #[v]) (by simp [hx]) (call_cv _ w) (copiedVals_any hl hsz) (by
    rintro e w' ⟨u, rfl, r, g⟩
    rw [← hm.out] at r
    obtain ⟨ua, uc, hu, _⟩ := row_max r
    subst hu
    exact Or.inl ⟨_, rfl, h _ _ w' r g⟩)
theorem step_cf {ops : Array Oper} {o : Oper} {a : Act} {w : World} {K : Act → World → Prop} {Q : Exit → Act → World → Prop} {E : Prop} (x : Operand) {v : Value} {l m : List FT} (hl : LF w v l) (hm : Hid (m = l.map FT.cnt)) (hsz : l.length ≤ 1048576)
    (hop : o.op = .call { callee := .value (.func 61), args := #[x], argTypes := #[55] }) (hg : o.guard = none) (hx : a.eval x = v)
    (h : ∀ ua uc w', RowF w.heap.size w' (.slice ua m.length uc) m → Grew w w' → K (a.put o.dst (.slice ua m.length uc)) w') :
    if Region.wanted o (yielded ops a.tmps) = true then Oper.wp Tryd.prog o a w K Q else E :=
  step_callF hop (by simp [Region.wanted, hg]) (args := #[v]) (by simp [hx]) (call_cf _ w) (copiedFields_any hl hsz) (by
    rintro e w' ⟨u, rfl, r, g⟩
    rw [← hm.out] at r
    obtain ⟨ua, uc, hu, _⟩ := row_max r
    subst hu
    exact Or.inl ⟨_, rfl, h _ _ w' r g⟩)
/- append([]int(nil), l...) inside a region that draws. -/
set_option maxRecDepth 100000 in
theorem step_appNil {ops : Array Oper} {o : Oper} {a : Act} {w : World} {K : Act → World → Prop} {Q : Exit → Act → World → Prop} {E : Prop} (hgd : o.guard = none) (s x : Operand)
    (ho : o.op = .call { callee := .builtin .append, args := #[s, x], argTypes := #[31, 31] }) {u : Value} {l : List Int}
    (hs : a.eval s = NILS) (hx : a.eval x = u) (hr : LI w u l) (hn : l.length ≤ 1048576)
    (h : ∀ ua uc w', RowI w.heap.size w' (.slice ua l.length uc) l → Grew w w' → K (a.put o.dst (.slice ua l.length uc)) w') :
    if Region.wanted o (yielded ops a.tmps) = true then Oper.wp Tryd.prog o a w K Q else E := by
  have hw : Region.wanted o (yielded ops a.tmps) = true := by simp [Region.wanted, hgd]
  rw [if_pos hw]
  obtain ⟨i0, hi0, hz0, hz1, hz2⟩ := info_parts infoI
  obtain ⟨a0, cap, rfl, hc1, hc2, hz', h3⟩ := hr
  cases a0 with
  | none =>
    obtain rfl := hz' rfl
    have : l = [] := List.eq_nil_of_length_eq_zero (by omega)
    subst this
    have := h none 0 w (RowI.nil _ _) (Grew.refl _)
    have hrun := run_append_owned_none (P := Tryd.prog) (w := w) w.heap.size 31 o.type 3 i0 1 Tryd.underlying31 hi0 NILS 0 [] (World.ownsRow_nil _ _ _ _)
    simp only [List.length_nil] at hx
    unfold Oper.wp
    simp [execOp, ho, resolve, invoke, builtin, hs, hx, hrun, Result.andThen]
    exact this
  | some ad =>
    have hlen : (l.flatMap ic1).length = l.length * 1 := by
      clear h h3 hx hn hc1
      induction l with
      | nil => simp
      | cons y l ih => rw [List.flatMap_cons, List.length_append, ih, List.length_cons]; simp [ic1]; omega
    refine wp_append_own _ s x 31 ho w.heap.size 3 i0 (.int .i64 0) 1 8 Tryd.underlying31 hi0 hz0 hz1 hz2 rfl (by decide) NILS 0 [] hs (World.ownsRow_nil _ _ _ _) ad l.length cap (l.flatMap ic1) hx hlen ?_ ?_ (by unfold maxLen; omega) (by omega) (Nat.le_refl _) ?_
    · intro j c hj
      have hjl := (List.getElem?_eq_some_iff.1 hj).1
      rw [hlen] at hjl
      rcases h3 with rfl | ⟨b', off, ha, hc⟩
      · simp at hj
      · injection ha with ha
        subst ha
        have e1 : (Addr.add ⟨b', off, none⟩ j) = ⟨b', off + j, none⟩ := by unfold Addr.add; split <;> simp_all
        have hq : j < l.length := by omega
        have hx' := hc j _ (List.getElem?_eq_getElem hq)
        unfold EI at hx'
        have := flat_at ic1 1 (fun _ => rfl) l j _ 0 (List.getElem?_eq_getElem hq) (by omega)
        rw [Nat.mul_one, Nat.add_zero] at this
        rw [Nat.mul_one] at hx'
        rw [e1, hx', ← hj, this]
        rfl
    · intro c hc
      obtain ⟨y, _, hy⟩ := List.mem_flatMap.1 hc
      exact one_i y c hy
    · intro v' w' ho' hg' _
      rw [Nat.zero_add, List.nil_append] at ho'
      obtain ⟨ua, uc, hu, _⟩ := row_max ho'
      subst hu
      exact h _ _ _ ho' ⟨⟨hg'.os, hg'.tape, hg'.output, hg'.size, fun k hk => hg'.block k hk (by simp [Value.ownBlock])⟩, hg'.size⟩
theorem cp_snoc {l : List SB} {m : List (SB × Q4)} {i : Nat} {x : SB} {q : Q4} (hx : l[i]? = some x) (hm : m.map Prod.fst = (l.take i).map SB.cp) : (m ++ [(x.cp, q)]).map Prod.fst = (l.take (i + 1)).map SB.cp := by
  rw [List.map_append, hm, take_snoc hx, List.map_append]; rfl
set_option maxRecDepth 100000 in
set_option maxHeartbeats 4000000 in
theorem copied_any {w : World} {tv : Value} {l : List SB} {ex : Bool} (h : LS w tv l) (hl : l.length ≤ 1048576) (hm : ∀ x ∈ l, Sml x) :
    Calls Tryd.prog 45 #[.agg #[tv, .bool ex]] w fun en w' => ∃ u qs hi, en = .returned (.agg #[u, .bool ex]) ∧ SubsO w.heap.size w' u qs hi ∧ qs.map Prod.fst = l.map SB.cp ∧ Grew w w' := by
  obtain ⟨a, cap, hv, hcap, hmax⟩ := h.one
  subst hv
  have H : Hid (LS w (.slice a l.length cap) l) := h
  have HM : Hid (∀ x ∈ l, Sml x) := hm
  clear h hm
  go_enter Tryd.func45, Tryd.ntmps45
  go_wp2_with fail
  generalize hW : (((w.alloc (.cells #[.slice a l.length cap, .bool ex] 38)).alloc (.cells #[NILS, .bool false] 38)).alloc (.cells #[NILS, .bool ex] 38)) = W
  have G0 : Hid (Grew w W) := by rw [← hW]; exact (((Grew.refl w).alloc _).alloc _).alloc _
  have S0 : Hid (W.heap.size = w.heap.size + 1 + 1 + 1) := (by rw [← hW, alloc_size, alloc_size, alloc_size] : W.heap.size = w.heap.size + 1 + 1 + 1)
  obtain ⟨A0, A1, A2⟩ : Hid (W.heap[w.heap.size]? = some (robj (.slice a l.length cap) ex)) ∧ Hid (W.heap[w.heap.size + 1]? = some (robj NILS false)) ∧ Hid (W.heap[w.heap.size + 1 + 1]? = some (robj NILS ex)) := by
    rw [← hW]
    have h1 : (w.alloc (.cells #[.slice a l.length cap, .bool ex] 38)).heap.size = w.heap.size + 1 := alloc_size _ _
    have h2 : ((w.alloc (.cells #[.slice a l.length cap, .bool ex] 38)).alloc (.cells #[NILS, .bool false] 38)).heap.size = w.heap.size + 1 + 1 := by rw [alloc_size, alloc_size]
    refine ⟨heap_alloc (heap_alloc (heap_alloc_last _ _) _) _, ?_, ?_⟩
    · rw [← h1]; exact heap_alloc (heap_alloc_last _ _) _
    · rw [← h2]; exact heap_alloc_last _ _
  clear hW
  go_loopw [13] (fun i_ w' => ∃ (i : Nat) (m : List (SB × Q4)) (v : Value) (hi : Nat), i_ = .int .i64 i ∧ i ≤ l.length ∧ Hid (m.map Prod.fst = (l.take i).map SB.cp) ∧ m.length ≤ i ∧ Hid (w'.heap[w.heap.size + 1 + 1]? = some (robj v ex)) ∧ Hid (SubsO (w.heap.size + 1 + 1 + 1) w' v m hi) ∧ Hid (TurnP (fun k => w.heap.size + 1 + 1 ≤ k) W w')) (fun i_ _ => l.length - (intOf i_).toNat)
  case atStart => exact ⟨0, [], NILS, W.heap.size, rfl, Nat.zero_le _, rfl, by simp, A2, SubsO.nil _ _ (by have := S0.out; omega), TurnP.refl _ _⟩
  case round =>
    obtain ⟨i, m, v, hi', rfl, hi, HMM, hml, AO, SO, T⟩ := hrel
    obtain ⟨w0, hw0⟩ : ∃ w0, w0 = wr := ⟨_, rfl⟩
    rw [← hw0] at AO SO T ⊢
    clear hw0
    obtain ⟨va, vc, ev, _, _, _⟩ := row_max SO.out.1
    subst ev
    have Gw : Hid (Grew w w0) := T.out.grew G0.out (fun k hk => by omega)
    by_cases hlt : i < l.length
    · obtain ⟨x, hx⟩ : ∃ x, l[i]? = some x := ⟨_, List.getElem?_eq_getElem hlt⟩
      obtain ⟨b, off, ha, hc', hE⟩ := (H.out.grew Gw.out).get (by omega)
      subst ha
      obtain ⟨sv, pv, rv, fv, hsub, c0, c1, c2, c3, c4, c5⟩ := hE i x hx
      obtain ⟨sa, sc, e1, _⟩ := hsub.1.one
      obtain ⟨pa, pc, e2, _⟩ := hsub.2.1.one
      obtain ⟨ra, rc, e3, _⟩ := hsub.2.2.1.one
      obtain ⟨fa, fc, e4, _⟩ := hsub.2.2.2.one
      subst e1 e2 e3 e4
      have d1 : decide ((i : Int) < (l.length : Int)) = true := by simp; omega
      have d2 : decide (i < l.length) = true := by simp; omega
      have HS : ∀ q, Hid ((m ++ [(x.cp, q)]).map Prod.fst = (l.take (i + 1)).map SB.cp) := fun q => cp_snoc hx HMM.out
      have hsm := HM.out x (List.mem_of_getElem? hx)
      have ksm := ofK_sml hsm
      have HSUP : Hid (LI w0 (.slice sa x.supers.length sc) x.supers) := hsub.1
      obtain ⟨k1, k2, k3⟩ := ofK_rd hsub
      have K1 : Hid (LV w0 (KP x.comp.kind (.slice pa x.comp.params.length pc)) x.comp.ofK.params) := k1
      have K2 : Hid (LV w0 (KP x.comp.kind (.slice ra x.comp.results.length rc)) x.comp.ofK.results) := k2
      have K3 : Hid (LF w0 (KF x.comp.kind (.slice fa x.comp.fields.length fc)) x.comp.ofK.fields) := k3
      obtain ⟨pa', pc', e2', _⟩ := k1.one
      obtain ⟨ra', rc', e3', _⟩ := k2.one
      obtain ⟨fa', fc', e4', _⟩ := k3.one
      have C := fun w' => ofKind_any x.comp.kind (.slice pa x.comp.params.length pc) (.slice ra x.comp.results.length rc) (.slice fa x.comp.fields.length fc) w' ⟨_, _, _, rfl⟩ ⟨_, _, _, rfl⟩ ⟨_, _, _, rfl⟩
      rw [e2'] at K1 C
      rw [e3'] at K2 C
      rw [e4'] at K3 C
      have hcp : x.cp = ⟨x.final_, x.supers, ⟨x.comp.kind, x.comp.ofK.params.map VT.cnt, x.comp.ofK.results.map VT.cnt, x.comp.ofK.fields.map FT.cnt⟩⟩ := rfl
      rw [hcp] at HS
      clear hE hsub k1 k2 k3 e2' e3' e4' hcp hx
      have hsm1 := hsm.1
      clear hsm
      generalize x.comp.ofK.params = P at *
      generalize x.comp.ofK.results = R at *
      generalize x.comp.ofK.fields = F at *
      generalize x.final_ = fin at *
      generalize x.supers = sup at *
      generalize x.comp.kind = kind at *
      generalize x.comp.params.length = np at *
      generalize x.comp.results.length = nr at *
      generalize x.comp.fields.length = nf at *
      go_wp2_with fail
      refine (C _).mono ?_
      rintro en w1 ⟨rfl, g1⟩
      have A5' : w1.heap[w0.heap.size]? = some (sobj fin (.slice sa sup.length sc) kind (.slice pa np pc) (.slice ra nr rc) (.slice fa nf fc)) := g1.other (heap_alloc_last _ _)
      have g01 : Grew w0 w1 := ((Grew.refl w0).alloc _).trans g1
      clear g1 C c0 c1 c2 c3 c4 c5
      go_wp2_with fail
      have A5 : Hid ((w1.alloc (.cells #[.int .i64 kind, .slice pa' P.length pc', .slice ra' R.length rc', .slice fa' F.length fc'] 57)).heap[w0.heap.size]? = some (sobj fin (.slice sa sup.length sc) kind (.slice pa np pc) (.slice ra nr rc) (.slice fa nf fc))) := heap_alloc A5' _
      have A6 : Hid ((w1.alloc (.cells #[.int .i64 kind, .slice pa' P.length pc', .slice ra' R.length rc', .slice fa' F.length fc'] 57)).heap[w1.heap.size]? = some (cobj kind (.slice pa' P.length pc') (.slice ra' R.length rc') (.slice fa' F.length fc'))) := heap_alloc_last _ _
      have G2 : Hid (Grew w0 (w1.alloc (.cells #[.int .i64 kind, .slice pa' P.length pc', .slice ra' R.length rc', .slice fa' F.length fc'] 57))) := g01.alloc _
      have h01 := g01.2
      generalize (w1.alloc (.cells #[.int .i64 kind, .slice pa' P.length pc', .slice ra' R.length rc', .slice fa' F.length fc'] 57)) = W2 at *
      clear A5' g01
      have AO2 : Hid (W2.heap[w.heap.size + 1 + 1]? = some (robj (.slice va m.length vc) ex)) := G2.out.other AO.out
      have SO2 : Hid (SubsO (w.heap.size + 1 + 1 + 1) W2 (.slice va m.length vc) m hi') := SO.out.grew G2.out
      have L0 : Hid (LI W2 (.slice sa sup.length sc) sup) := HSUP.out.grew G2.out
      have L1 : Hid (LV W2 (.slice pa' P.length pc') P) := K1.out.grew G2.out
      have L2 : Hid (LV W2 (.slice ra' R.length rc') R) := K2.out.grew G2.out
      have L3 : Hid (LF W2 (.slice fa' F.length fc') F) := K3.out.grew G2.out
      obtain ⟨mP, hmP⟩ : ∃ y, y = P.map VT.cnt := ⟨_, rfl⟩
      obtain ⟨mR, hmR⟩ : ∃ y, y = R.map VT.cnt := ⟨_, rfl⟩
      obtain ⟨mF, hmF⟩ : ∃ y, y = F.map FT.cnt := ⟨_, rfl⟩
      rw [← hmP, ← hmR, ← hmF] at HS
      have HP : Hid (mP = P.map VT.cnt) := hmP
      have HR : Hid (mR = R.map VT.cnt) := hmR
      have HF : Hid (mF = F.map FT.cnt) := hmF
      obtain ⟨z0, _⟩ := box_r AO2.out
      obtain ⟨z1, z2, _⟩ := box_s A5.out
      obtain ⟨z3, z4, z5, z6⟩ := box_c A6.out
      have HB : Hid (∀ g, (Value.slice va m.length vc).ownBlock = some g → w.heap.size + 1 + 1 + 1 ≤ g ∧ g < w0.heap.size) := fun g hg => SO.out.1.lt g hg
      have hz2 := G2.out.2
      have hzW := Gw.out.2
      have hS0 := T.out.size
      have hS1 := S0.out
      have hk1 : w1.heap.size < W2.heap.size := lt_of_obj A6.out
      have zf := free_of AO2.out 0
      clear hmP hmR hmF SO HSUP K1 K2 K3 AO
      refine wp_region_cutF (fun w' => w'.cell? ⟨w.heap.size + 1 + 1, 0, none⟩ = some (.slice va m.length vc) ∧ w'.cell? ⟨w0.heap.size, 0, none⟩ = some (.bool fin) ∧ w'.cell? ⟨w0.heap.size, 1, none⟩ = some (.slice sa sup.length sc) ∧ w'.cell? ⟨w1.heap.size, 0, none⟩ = some (.int .i64 kind) ∧ w'.cell? ⟨w1.heap.size, 1, none⟩ = some (.slice pa' P.length pc') ∧ w'.cell? ⟨w1.heap.size, 2, none⟩ = some (.slice ra' R.length rc') ∧ w'.cell? ⟨w1.heap.size, 3, none⟩ = some (.slice fa' F.length fc')) rfl (by kernel_rfl) (by kernel_rfl) (by kernel_rfl) (by kernel_rfl) (by kernel_rfl) ?_
      simp only [List.dropLast_cons_cons, List.dropLast_singleton, List.length_cons, List.length_nil, Nat.zero_add, Nat.reduceAdd]
      have hD : { W2 with drawn := W2.drawn + 1 } = W2.drew := rfl
      rw [hD]
      clear hD
      have gDr : Grew W2 W2.drew := (Grew.refl _).drew
      have hHeld : (fun w' => w'.cell? ⟨w.heap.size + 1 + 1, 0, none⟩ = some (.slice va m.length vc) ∧ w'.cell? ⟨w0.heap.size, 0, none⟩ = some (.bool fin) ∧ w'.cell? ⟨w0.heap.size, 1, none⟩ = some (.slice sa sup.length sc) ∧ w'.cell? ⟨w1.heap.size, 0, none⟩ = some (.int .i64 kind) ∧ w'.cell? ⟨w1.heap.size, 1, none⟩ = some (.slice pa' P.length pc') ∧ w'.cell? ⟨w1.heap.size, 2, none⟩ = some (.slice ra' R.length rc') ∧ w'.cell? ⟨w1.heap.size, 3, none⟩ = some (.slice fa' F.length fc')) W2.drew := ⟨cell_grew z0 gDr, cell_grew z1 gDr, cell_grew z2 gDr, cell_grew z3 gDr, cell_grew z4 gDr, cell_grew z5 gDr, cell_grew z6 gDr⟩
      have L0d : Hid (LI W2.drew (.slice sa sup.length sc) sup) := L0.out.grew gDr
      clear gDr
      refine wpAnyH_take (i := 0) (oi := { dst := some 20, op := Op.fieldAddr 38 (Operand.tmp 3) 0, type := 0, pos := "roll.go:113", after := #[], guard := none }) (v := .pointer (some ⟨w.heap.size + 1 + 1, 0, none⟩)) rfl (by kernel_rfl) (by kernel_rfl) (by kernel_rfl) (fun _ _ _ h => h) (Or.inl ⟨by rfl, fun w' hSw => ?_⟩) (by assumption) ?_
      · go_simp
        done
      try simp only [Act.put, List.setIfInBounds_toArray, List.set_cons_zero, List.set_cons_succ]
      refine wpAnyH_take (i := 1) (oi := { dst := some 21, op := Op.load 36 (Operand.tmp 20), type := 36, pos := "roll.go:113", after := #[{ on := 0, ground := Ground.data }], guard := none }) (v := .slice va m.length vc) rfl (by kernel_rfl) (by kernel_rfl) (by kernel_rfl) (fun _ _ _ h => h) (Or.inl ⟨by rfl, fun w' hSw => ?_⟩) (by assumption) ?_
      · go_simp
        done
      try simp only [Act.put, List.setIfInBounds_toArray, List.set_cons_zero, List.set_cons_succ]
      refine wpAnyH_take (i := 2) (oi := { dst := some 22, op := Op.fieldAddr 59 (Operand.tmp 5) 0, type := 0, pos := "roll.go:113", after := #[], guard := none }) (v := .pointer (some ⟨w0.heap.size, 0, none⟩)) rfl (by kernel_rfl) (by kernel_rfl) (by kernel_rfl) (fun _ _ _ h => h) (Or.inl ⟨by rfl, fun w' hSw => ?_⟩) (by assumption) ?_
      · go_simp
        done
      try simp only [Act.put, List.setIfInBounds_toArray, List.set_cons_zero, List.set_cons_succ]
      refine wpAnyH_take (i := 3) (oi := { dst := some 23, op := Op.load 4 (Operand.tmp 22), type := 4, pos := "roll.go:113", after := #[{ on := 2, ground := Ground.data }], guard := none }) (v := .bool fin) rfl (by kernel_rfl) (by kernel_rfl) (by kernel_rfl) (fun _ _ _ h => h) (Or.inl ⟨by rfl, fun w' hSw => ?_⟩) (by assumption) ?_
      · go_simp
        done
      try simp only [Act.put, List.setIfInBounds_toArray, List.set_cons_zero, List.set_cons_succ]
      refine wpAnyH_take (i := 4) (oi := { dst := some 24, op := Op.fieldAddr 59 (Operand.tmp 5) 1, type := 0, pos := "roll.go:113", after := #[], guard := none }) (v := .pointer (some ⟨w0.heap.size, 1, none⟩)) rfl (by kernel_rfl) (by kernel_rfl) (by kernel_rfl) (fun _ _ _ h => h) (Or.inl ⟨by rfl, fun w' hSw => ?_⟩) (by assumption) ?_
      · go_simp
        done
      try simp only [Act.put, List.setIfInBounds_toArray, List.set_cons_zero, List.set_cons_succ]
      refine wpAnyH_take (i := 5) (oi := { dst := some 25, op := Op.load 31 (Operand.tmp 24), type := 31, pos := "roll.go:113", after := #[{ on := 4, ground := Ground.data }], guard := none }) (v := .slice sa sup.length sc) rfl (by kernel_rfl) (by kernel_rfl) (by kernel_rfl) (fun _ _ _ h => h) (Or.inl ⟨by rfl, fun w' hSw => ?_⟩) (by assumption) ?_
      · go_simp
        done
      try simp only [Act.put, List.setIfInBounds_toArray, List.set_cons_zero, List.set_cons_succ]
      refine wpAnyH_take (i := 7) (oi := { dst := some 27, op := Op.fieldAddr 57 (Operand.tmp 6) 0, type := 0, pos := "roll.go:113", after := #[], guard := none }) (v := .pointer (some ⟨w1.heap.size, 0, none⟩)) rfl (by kernel_rfl) (by kernel_rfl) (by kernel_rfl) (fun _ _ _ h => h) (Or.inl ⟨by rfl, fun w' hSw => ?_⟩) (by assumption) ?_
      · go_simp
        done
      try simp only [Act.put, List.setIfInBounds_toArray, List.set_cons_zero, List.set_cons_succ]
      refine wpAnyH_take (i := 8) (oi := { dst := some 28, op := Op.load 3 (Operand.tmp 27), type := 3, pos := "roll.go:113", after := #[{ on := 7, ground := Ground.data }], guard := none }) (v := .int .i64 kind) rfl (by kernel_rfl) (by kernel_rfl) (by kernel_rfl) (fun _ _ _ h => h) (Or.inl ⟨by rfl, fun w' hSw => ?_⟩) (by assumption) ?_
      · go_simp
        done
      try simp only [Act.put, List.setIfInBounds_toArray, List.set_cons_zero, List.set_cons_succ]
      refine wpAnyH_take (i := 9) (oi := { dst := some 29, op := Op.fieldAddr 57 (Operand.tmp 6) 1, type := 0, pos := "roll.go:113", after := #[], guard := none }) (v := .pointer (some ⟨w1.heap.size, 1, none⟩)) rfl (by kernel_rfl) (by kernel_rfl) (by kernel_rfl) (fun _ _ _ h => h) (Or.inl ⟨by rfl, fun w' hSw => ?_⟩) (by assumption) ?_
      · go_simp
        done
      try simp only [Act.put, List.setIfInBounds_toArray, List.set_cons_zero, List.set_cons_succ]
      refine wpAnyH_take (i := 10) (oi := { dst := some 30, op := Op.load 54 (Operand.tmp 29), type := 54, pos := "roll.go:113", after := #[{ on := 9, ground := Ground.data }], guard := none }) (v := (.slice pa' P.length pc')) rfl (by kernel_rfl) (by kernel_rfl) (by kernel_rfl) (fun _ _ _ h => h) (Or.inl ⟨by rfl, fun w' hSw => ?_⟩) (by assumption) ?_
      · go_simp
        done
      try simp only [Act.put, List.setIfInBounds_toArray, List.set_cons_zero, List.set_cons_succ]
      refine wpAnyH_take (i := 12) (oi := { dst := some 32, op := Op.fieldAddr 57 (Operand.tmp 6) 2, type := 0, pos := "roll.go:113", after := #[], guard := none }) (v := .pointer (some ⟨w1.heap.size, 2, none⟩)) rfl (by kernel_rfl) (by kernel_rfl) (by kernel_rfl) (fun _ _ _ h => h) (Or.inl ⟨by rfl, fun w' hSw => ?_⟩) (by assumption) ?_
      · go_simp
        done
      try simp only [Act.put, List.setIfInBounds_toArray, List.set_cons_zero, List.set_cons_succ]
      refine wpAnyH_take (i := 13) (oi := { dst := some 33, op := Op.load 54 (Operand.tmp 32), type := 54, pos := "roll.go:113", after := #[{ on := 12, ground := Ground.data }], guard := none }) (v := (.slice ra' R.length rc')) rfl (by kernel_rfl) (by kernel_rfl) (by kernel_rfl) (fun _ _ _ h => h) (Or.inl ⟨by rfl, fun w' hSw => ?_⟩) (by assumption) ?_
      · go_simp
        done
      try simp only [Act.put, List.setIfInBounds_toArray, List.set_cons_zero, List.set_cons_succ]
      refine wpAnyH_take (i := 15) (oi := { dst := some 35, op := Op.fieldAddr 57 (Operand.tmp 6) 3, type := 0, pos := "roll.go:113", after := #[], guard := none }) (v := .pointer (some ⟨w1.heap.size, 3, none⟩)) rfl (by kernel_rfl) (by kernel_rfl) (by kernel_rfl) (fun _ _ _ h => h) (Or.inl ⟨by rfl, fun w' hSw => ?_⟩) (by assumption) ?_
      · go_simp
        done
      try simp only [Act.put, List.setIfInBounds_toArray, List.set_cons_zero, List.set_cons_succ]
      refine wpAnyH_take (i := 16) (oi := { dst := some 36, op := Op.load 55 (Operand.tmp 35), type := 55, pos := "roll.go:113", after := #[{ on := 15, ground := Ground.data }], guard := none }) (v := (.slice fa' F.length fc')) rfl (by kernel_rfl) (by kernel_rfl) (by kernel_rfl) (fun _ _ _ h => h) (Or.inl ⟨by rfl, fun w' hSw => ?_⟩) (by assumption) ?_
      · go_simp
        done
      try simp only [Act.put, List.setIfInBounds_toArray, List.set_cons_zero, List.set_cons_succ]
      refine wpAnyH_ready (rs := [6]) (by kernel_rfl) (by simp) ?_
      refine AllReadyH.cons (o := { dst := some 26, op := Op.call { callee := Callee.builtin Builtin.append, args := #[Operand.const (Value.slice none 0 0), Operand.tmp 25], argTypes := #[31, 31] }, type := 31, pos := "roll.go:113", after := #[{ on := 5, ground := Ground.data }], guard := none }) rfl (fun K hK => ?_) AllReadyH.nil
      refine step_appNil rfl _ (.tmp 25) rfl rfl rfl L0d.out hsm1 ?_
      intro ua uc wA rA gA
      have ggwA : Grew W2 wA := ((Grew.refl _).drew).trans gA
      have z0wA := cell_grew z0 ggwA
      have z1wA := cell_grew z1 ggwA
      have z2wA := cell_grew z2 ggwA
      have z3wA := cell_grew z3 ggwA
      have z4wA := cell_grew z4 ggwA
      have z5wA := cell_grew z5 ggwA
      have z6wA := cell_grew z6 ggwA
      have RA : Hid (RowI W2.heap.size wA (.slice ua sup.length uc) sup) := rA
      have GA : Hid (Grew W2 wA) := ggwA
      have K1A : Hid (LV wA (.slice pa' P.length pc') P) := L1.out.grew ggwA
      clear gA rA ggwA
      refine hK.out _ _ ⟨z0wA, z1wA, z2wA, z3wA, z4wA, z5wA, z6wA⟩ (fun hHeld6 => ?_)
      try simp only [Act.put, List.setIfInBounds_toArray, List.set_cons_zero, List.set_cons_succ]
      refine wpAnyH_ready (rs := [11]) (by kernel_rfl) (by simp) ?_
      refine AllReadyH.cons (o := { dst := some 31, op := Op.call { callee := Callee.value (Operand.func 60), args := #[Operand.tmp 30], argTypes := #[54] }, type := 54, pos := "roll.go:116", after := #[{ on := 10, ground := Ground.data }, { on := 6, ground := Ground.chain }], guard := none }) rfl (fun K hK => ?_) AllReadyH.nil
      refine step_cv (.tmp 30) K1A.out HP ksm.1 rfl rfl rfl ?_
      intro pu pw wB rB gB
      have ggwA := GA.out
      have ggwB : Grew W2 wB := ggwA.trans gB
      have z0wB := cell_grew z0 ggwB
      have z1wB := cell_grew z1 ggwB
      have z2wB := cell_grew z2 ggwB
      have z3wB := cell_grew z3 ggwB
      have z4wB := cell_grew z4 ggwB
      have z5wB := cell_grew z5 ggwB
      have z6wB := cell_grew z6 ggwB
      have RB : Hid (RowV wA.heap.size wB (.slice pu mP.length pw) mP) := rB
      have RA2 : Hid (RowI W2.heap.size wB (.slice ua sup.length uc) sup) := RA.out.grew gB
      have GB : Hid (Grew W2 wB) := ggwB
      have K2B : Hid (LV wB (.slice ra' R.length rc') R) := L2.out.grew ggwB
      have hAB := GA.out.2
      clear gB rB ggwA ggwB
      refine hK.out _ _ ⟨z0wB, z1wB, z2wB, z3wB, z4wB, z5wB, z6wB⟩ (fun hHeld11 => ?_)
      try simp only [Act.put, List.setIfInBounds_toArray, List.set_cons_zero, List.set_cons_succ]
      refine wpAnyH_ready (rs := [14]) (by kernel_rfl) (by simp) ?_
      refine AllReadyH.cons (o := { dst := some 34, op := Op.call { callee := Callee.value (Operand.func 60), args := #[Operand.tmp 33], argTypes := #[54] }, type := 54, pos := "roll.go:116", after := #[{ on := 13, ground := Ground.data }, { on := 11, ground := Ground.chain }], guard := none }) rfl (fun K hK => ?_) AllReadyH.nil
      refine step_cv (.tmp 33) K2B.out HR ksm.2.1 rfl rfl rfl ?_
      intro ru rw_ wC rC gC
      have ggwB := GB.out
      have ggwC : Grew W2 wC := ggwB.trans gC
      have z0wC := cell_grew z0 ggwC
      have z1wC := cell_grew z1 ggwC
      have z2wC := cell_grew z2 ggwC
      have z3wC := cell_grew z3 ggwC
      have z4wC := cell_grew z4 ggwC
      have z5wC := cell_grew z5 ggwC
      have z6wC := cell_grew z6 ggwC
      have RC : Hid (RowV wB.heap.size wC (.slice ru mR.length rw_) mR) := rC
      have RB2 : Hid (RowV wA.heap.size wC (.slice pu mP.length pw) mP) := RB.out.grew gC
      have RA3 : Hid (RowI W2.heap.size wC (.slice ua sup.length uc) sup) := RA2.out.grew gC
      have AP : Hid (Apart (.slice pu mP.length pw) (.slice ru mR.length rw_)) := fun g h1 h2 => by
        have := (World.ownsRow.lt RB.out g h1).2
        have := (World.ownsRow.lt rC g h2).1
        omega
      have GC : Hid (Grew W2 wC) := ggwC
      have K3C : Hid (LF wC (.slice fa' F.length fc') F) := L3.out.grew ggwC
      have hBC := GB.out.2
      clear gC rC ggwB ggwC
      refine hK.out _ _ ⟨z0wC, z1wC, z2wC, z3wC, z4wC, z5wC, z6wC⟩ (fun hHeld14 => ?_)
      try simp only [Act.put, List.setIfInBounds_toArray, List.set_cons_zero, List.set_cons_succ]
      refine wpAnyH_ready (rs := [17]) (by kernel_rfl) (by simp) ?_
      refine AllReadyH.cons (o := { dst := some 37, op := Op.call { callee := Callee.value (Operand.func 61), args := #[Operand.tmp 36], argTypes := #[55] }, type := 55, pos := "roll.go:116", after := #[{ on := 16, ground := Ground.data }, { on := 14, ground := Ground.chain }], guard := none }) rfl (fun K hK => ?_) AllReadyH.nil
      refine step_cf (.tmp 36) K3C.out HF ksm.2.2 rfl rfl rfl ?_
      intro fu fw wD rD gD
      have ggwC := GC.out
      have ggwD : Grew W2 wD := ggwC.trans gD
      have z0wD := cell_grew z0 ggwD
      have z1wD := cell_grew z1 ggwD
      have z2wD := cell_grew z2 ggwD
      have z3wD := cell_grew z3 ggwD
      have z4wD := cell_grew z4 ggwD
      have z5wD := cell_grew z5 ggwD
      have z6wD := cell_grew z6 ggwD
      have hCD := GC.out.2
      have hhi := SO2.out.2.2
      have hDD := ggwD.2
      have SB1 : Hid (SubO hi' wD.heap.size wD ⟨fin, sup, ⟨kind, mP, mR, mF⟩⟩ ⟨.slice ua sup.length uc, .slice pu mP.length pw, .slice ru mR.length rw_, .slice fu mF.length fw⟩) := by
        have q1 := RA3.out.grew gD
        have q2 := RB2.out.grew gD
        have q3 := RC.out.grew gD
        exact ⟨row_low q1 hhi, row_low q2 (by omega), row_low q3 (by omega), row_low rD (by omega), AP.out, fun g hg => (World.ownsRow.lt q1 g hg).2, fun g hg => (World.ownsRow.lt q2 g hg).2, fun g hg => (World.ownsRow.lt q3 g hg).2, fun g hg => (World.ownsRow.lt rD g hg).2⟩
      have SOD : Hid (SubsO (w.heap.size + 1 + 1 + 1) wD (.slice va m.length vc) m hi') := SO2.out.grew ggwD
      have GD : Hid (Grew W2 wD) := ggwD
      clear gD rD ggwC ggwD hhi
      refine hK.out _ _ ⟨z0wD, z1wD, z2wD, z3wD, z4wD, z5wD, z6wD⟩ (fun hHeld17 => ?_)
      try simp only [Act.put, List.setIfInBounds_toArray, List.set_cons_zero, List.set_cons_succ]
      refine wpAnyH_take (i := 18) (oi := { dst := some 38, op := Op.build 57 #[(0, Operand.tmp 28), (1, Operand.tmp 31), (2, Operand.tmp 34), (3, Operand.tmp 37)], type := 57, pos := "roll.go:113", after := #[{ on := 8, ground := Ground.data }, { on := 11, ground := Ground.data }, { on := 14, ground := Ground.data }, { on := 17, ground := Ground.data }], guard := none }) (v := .agg #[.int .i64 kind, .slice pu mP.length pw, .slice ru mR.length rw_, .slice fu mF.length fw]) rfl (by kernel_rfl) (by kernel_rfl) (by kernel_rfl) (fun _ _ _ h => h) (Or.inl ⟨by rfl, fun w' hSw => ?_⟩) (by assumption) ?_
      · go_simp
        done
      try simp only [Act.put, List.setIfInBounds_toArray, List.set_cons_zero, List.set_cons_succ]
      refine wpAnyH_take (i := 19) (oi := { dst := some 39, op := Op.build 59 #[(0, Operand.tmp 23), (1, Operand.tmp 26), (2, Operand.tmp 38)], type := 59, pos := "roll.go:113", after := #[{ on := 3, ground := Ground.data }, { on := 6, ground := Ground.data }, { on := 18, ground := Ground.data }], guard := none }) (v := .agg #[.bool fin, .slice ua sup.length uc, .int .i64 kind, .slice pu mP.length pw, .slice ru mR.length rw_, .slice fu mF.length fw]) rfl (by kernel_rfl) (by kernel_rfl) (by kernel_rfl) (fun _ _ _ h => h) (Or.inl ⟨by rfl, fun w' hSw => ?_⟩) (by assumption) ?_
      · go_simp
        done
      try simp only [Act.put, List.setIfInBounds_toArray, List.set_cons_zero, List.set_cons_succ]
      refine wpAnyH_ready (rs := [20]) (by kernel_rfl) (by simp) ?_
      refine AllReadyH.cons (o := { dst := some 40, op := Op.buildSlice 36 1 #[(0, Operand.tmp 39)], type := 36, pos := "roll.go:113", after := #[{ on := 19, ground := Ground.data }], guard := none }) rfl (fun K hK => ?_) AllReadyH.nil
      go_simp
      have ggE := (Grew.refl wD).alloc (.cells #[.bool fin, .slice ua sup.length uc, .int .i64 kind, .slice pu mP.length pw, .slice ru mR.length rw_, .slice fu mF.length fw] 59)
      refine hK.out _ _ ⟨cell_grew z0wD ggE, cell_grew z1wD ggE, cell_grew z2wD ggE, cell_grew z3wD ggE, cell_grew z4wD ggE, cell_grew z5wD ggE, cell_grew z6wD ggE⟩ (fun hHeld20 => ?_)
      try simp only [Act.put, List.setIfInBounds_toArray, List.set_cons_zero, List.set_cons_succ]
      refine wpAnyH_ready (rs := [21]) (by kernel_rfl) (by simp) ?_
      refine AllReadyH.cons (o := { dst := some 41, op := Op.call { callee := Callee.builtin Builtin.append, args := #[Operand.tmp 21, Operand.tmp 40], argTypes := #[36, 36] }, type := 36, pos := "roll.go:113", after := #[{ on := 1, ground := Ground.data }, { on := 20, ground := Ground.data }, { on := 17, ground := Ground.chain }], guard := none }) rfl (fun K hK => ?_) AllReadyH.nil
      refine step_app1 (v := .slice va m.length vc) (n := m.length) (cs := m.flatMap f6) (B := w.heap.size + 1 + 1 + 1) (new := f6 (⟨fin, sup, ⟨kind, mP, mR, mF⟩⟩, ⟨.slice ua sup.length uc, .slice pu mP.length pw, .slice ru mR.length rw_, .slice fu mF.length fw⟩)) rfl _ _ 36 59 6 112 _ Tryd.underlying36 infoS rfl (by decide) (by decide) rfl (w.heap.size + 1 + 1 + 1) rfl rfl (row_grew SOD.out.1 ((Grew.refl _).alloc _)) (by simp; omega) rfl ?_ (by simp [f6, Value.oneCell']) (by omega) ?_
      · intro j hj
        rw [cell_of (heap_alloc_last _ _)]
        match j, hj with
        | 0, _ => rfl
        | 1, _ => rfl
        | 2, _ => rfl
        | 3, _ => rfl
        | 4, _ => rfl
        | 5, _ => rfl
      intro v3 w3 hO3 hT3 hG3
      obtain ⟨a3, q3, ev3, _, _, _⟩ := row_max hO3
      subst ev3
      have lD := GD.out.2
      have B5 := (hG3 w0.heap.size (by simp; omega) (fun hh => by have := (HB.out _ hh.symm).2; omega)).trans (heap_alloc (GD.out.other A5.out) _)
      have B6 := (hG3 w1.heap.size (by simp; omega) (fun hh => by have := (HB.out _ hh.symm).2; omega)).trans (heap_alloc (GD.out.other A6.out) _)
      have BO := (hG3 (w.heap.size + 1 + 1) (by simp; omega) (fun hh => by have := (HB.out _ hh.symm).1; omega)).trans (heap_alloc (GD.out.other AO2.out) _)
      obtain ⟨y0, _⟩ := box_r BO
      obtain ⟨y1, y2, _⟩ := box_s B5
      obtain ⟨y3, y4, y5, y6⟩ := box_c B6
      have yf := free_of BO 0
      have BOH : Hid (w3.heap[w.heap.size + 1 + 1]? = some (robj (.slice va m.length vc) ex)) := BO
      have T3 : Hid (TurnP (fun k => (Value.slice va m.length vc).ownBlock = some k) wD w3) := ⟨hT3.os, hT3.tape, hT3.output, by have := hT3.size; simp at this; omega, fun k hk hn => by rw [hG3 k (by simp; omega) (fun hh => hn hh.symm), Below.heap_alloc _ _ _ hk]⟩
      have O3 : Hid (w3.ownsRow (w.heap.size + 1 + 1 + 1) 59 6 (.slice a3 (m.length + 1) q3) (m.length + 1) (m.flatMap f6 ++ f6 (⟨fin, sup, ⟨kind, mP, mR, mF⟩⟩, ⟨.slice ua sup.length uc, .slice pu mP.length pw, .slice ru mR.length rw_, .slice fu mF.length fw⟩))) := hO3
      have ne1 : ¬ w.heap.size + 1 + 1 = w0.heap.size := (by omega)
      have ne2 : ¬ w.heap.size + 1 + 1 = w1.heap.size := (by omega)
      clear B5 B6 BO hG3 hT3 hO3
      refine hK.out _ _ ⟨y0, y1, y2, y3, y4, y5, y6⟩ (fun hHeld21 => ?_)
      try simp only [Act.put, List.setIfInBounds_toArray, List.set_cons_zero, List.set_cons_succ]
      refine wpAnyH_take (i := 22) (oi := { dst := some 42, op := Op.fieldAddr 38 (Operand.tmp 3) 0, type := 0, pos := "roll.go:113", after := #[{ on := 0, ground := Ground.phase }, { on := 1, ground := Ground.phase }, { on := 2, ground := Ground.phase }, { on := 3, ground := Ground.phase }, { on := 4, ground := Ground.phase }, { on := 5, ground := Ground.phase }, { on := 6, ground := Ground.phase }, { on := 7, ground := Ground.phase }, { on := 8, ground := Ground.phase }, { on := 9, ground := Ground.phase }, { on := 10, ground := Ground.phase }, { on := 11, ground := Ground.phase }, { on := 12, ground := Ground.phase }, { on := 13, ground := Ground.phase }, { on := 14, ground := Ground.phase }, { on := 15, ground := Ground.phase }, { on := 16, ground := Ground.phase }, { on := 17, ground := Ground.phase }, { on := 18, ground := Ground.phase }, { on := 19, ground := Ground.phase }, { on := 20, ground := Ground.phase }, { on := 21, ground := Ground.phase }], guard := none }) (v := .pointer (some ⟨w.heap.size + 1 + 1, 0, none⟩)) rfl (by kernel_rfl) (by kernel_rfl) (by kernel_rfl) (fun _ _ _ h => h) (Or.inl ⟨by rfl, fun w' hSw => ?_⟩) (by assumption) ?_
      · go_simp
        done
      try simp only [Act.put, List.setIfInBounds_toArray, List.set_cons_zero, List.set_cons_succ]
      refine wpAnyH_done (by kernel_rfl) ?_ _
      refine cut_fin (o := { dst := none, op := Op.store 36 (Operand.tmp 42) (Operand.tmp 41), type := 0, pos := "roll.go:113", after := #[{ on := 22, ground := Ground.data }, { on := 21, ground := Ground.data }, { on := 21, ground := Ground.chain }, { on := 0, ground := Ground.phase }, { on := 1, ground := Ground.phase }, { on := 2, ground := Ground.phase }, { on := 3, ground := Ground.phase }, { on := 4, ground := Ground.phase }, { on := 5, ground := Ground.phase }, { on := 6, ground := Ground.phase }, { on := 7, ground := Ground.phase }, { on := 8, ground := Ground.phase }, { on := 9, ground := Ground.phase }, { on := 10, ground := Ground.phase }, { on := 11, ground := Ground.phase }, { on := 12, ground := Ground.phase }, { on := 13, ground := Ground.phase }, { on := 14, ground := Ground.phase }, { on := 15, ground := Ground.phase }, { on := 16, ground := Ground.phase }, { on := 17, ground := Ground.phase }, { on := 18, ground := Ground.phase }, { on := 19, ground := Ground.phase }, { on := 20, ground := Ground.phase }, { on := 21, ground := Ground.phase }], guard := none }) rfl rfl (fun K hK => ?_)
      go_simp
      refine hK _ _ ?_
      try simp only [Act.put, List.setIfInBounds_toArray, List.set_cons_zero, List.set_cons_succ]
      go_wp2_with fail
      go_roundw
      case rel =>
        have hO := O3.out
        have hgt : ∀ g, (Value.slice va m.length vc).ownBlock = some g → NoT wD g 3 ∧ NoT wD g 100 ∧ NoT wD g 104 := fun g hg => by
          obtain ⟨cur, hcur⟩ := row_tag SOD.out.1 hg
          exact ⟨NoT.of hcur (by decide), NoT.of hcur (by decide), NoT.of hcur (by decide)⟩
        have ch := Chain.turnK T3.out hgt (Chain.snoc SOD.out.2.1 SOD.out.2.2 SB1.out)
        have so : SubsO (w.heap.size + 1 + 1 + 1) w3 (.slice a3 (m.length + 1) q3) (m ++ [(⟨fin, sup, ⟨kind, mP, mR, mF⟩⟩, ⟨.slice ua sup.length uc, .slice pu mP.length pw, .slice ru mR.length rw_, .slice fu mF.length fw⟩)]) wD.heap.size := by
          refine ⟨?_, ch, T3.out.size⟩
          rw [List.length_append, List.flatMap_append]
          simpa using hO
        have tp : TurnP (fun k => k = w.heap.size + 1 + 1) w3 (w3.setCell ⟨w.heap.size + 1 + 1, 0, none⟩ (.slice a3 (m.length + 1) q3)) := (TurnP.refl (fun k => k = w.heap.size + 1 + 1) w3).set (p := ⟨w.heap.size + 1 + 1, 0, none⟩) rfl _
        refine ⟨i + 1, _, _, wD.heap.size, by go_num, by omega, HS _, by simp; omega, ?_, so.low tp (fun g hg => by omega), ?_⟩
        · have := heap_set BOH.out 0 (.slice a3 (m.length + 1) q3)
          exact this
        · exact (T.out.trans ((G2.out.trans GD.out).turnP _)).trans ((T3.out.mono (fun k hk hx => by have := (HB.out k hx).1; omega)).trans (tp.mono (fun k _ hk => by omega)))
      case measure => simp [intOf]; omega
    · have d1 : decide ((i : Int) < (l.length : Int)) = false := by simp; omega
      have hin : l.take i = l := List.take_of_length_le (by omega)
      have AR := T.out.other A1.out (by omega)
      obtain ⟨z0, z1⟩ := box_r AO.out
      obtain ⟨y0, y1⟩ := box_r AR
      have zf0 := free_of AR 0
      have zf1 := free_of AR 1
      go_wp2_with fail
      have h1 := heap_set AR 0 (.slice va m.length vc)
      have h2 := heap_set h1 1 (.bool ex)
      have q0 := cell_of h1 0
      have q1 := cell_of h2 1
      simp at q0 q1
      refine bodyPost_ret (v := .agg #[.slice va m.length vc, .bool ex]) (by simp [results, Tryd.results45, go_sem, q0, q1]) rfl ?_
      have tp : TurnP (fun k => k = w.heap.size + 1) w0 ((w0.setCell ⟨w.heap.size + 1, 0, none⟩ (.slice va m.length vc)).setCell ⟨w.heap.size + 1, 1, none⟩ (.bool ex)) := ((TurnP.refl (fun k => k = w.heap.size + 1) w0).set (p := ⟨w.heap.size + 1, 0, none⟩) rfl _).set (p := ⟨w.heap.size + 1, 1, none⟩) rfl _
      have so := SO.out.low tp (fun g hg => by omega)
      refine ⟨_, m, hi', rfl, ⟨row_low so.1 (by omega), ?_, so.2.2⟩, by rw [HMM.out, hin], tp.grew Gw.out (fun k hk => by omega)⟩
      exact so.2.1.low (by omega)
end Go.Proofs.YthchhehmbldmdaaDoor
