/-
  The program's abstract, counted, ofKind, copiedVals, copiedFields; no statement is proved here.
-/
import Derived.Test.YthchhehmbldmdaaDoorDCl
import Derived.Deep.RegionHeld3
namespace Go.Proofs.YthchhehmbldmdaaDoor
open Go.RowKit
set_option linter.unusedVariables false
set_option linter.unusedSimpArgs false

def absB (h : Int) : Bool := decide (-12 ≤ h) && decide (h ≤ -1)
def VT.cnt (x : VT) : VT := if x.num = 5 then x else ⟨x.num, false, 0⟩
def FT.cnt (x : FT) : FT := ⟨x.ty.cnt, x.mut_⟩
def CT.ofK (c : CT) : CT := if c.kind = 1 then ⟨c.kind, c.params, c.results, []⟩ else if c.kind = 2 ∨ c.kind = 3 then ⟨c.kind, [], [], c.fields⟩ else ⟨c.kind, [], [], []⟩
set_option maxRecDepth 100000 in
theorem abstract_any (h : Int) (w : World) : Calls Tryd.prog 67 #[.int .i64 h] w fun en w' => en = .returned (.bool (absB h)) ∧ w' = w := by
  by_cases h1 : -12 ≤ h
  · by_cases h2 : h ≤ -1
    · have e : absB h = true := by unfold absB; simp; omega
      rw [e]
      go_enter Tryd.func67, Tryd.ntmps67
      go_wp2_with fail
      go_ret
      exact ⟨rfl, rfl⟩
    · have e : absB h = false := by unfold absB; simp; omega
      rw [e]
      go_enter Tryd.func67, Tryd.ntmps67
      go_wp2_with fail
      go_ret
      exact ⟨rfl, rfl⟩
  · have e : absB h = false := by unfold absB; simp; omega
    rw [e]
    go_enter Tryd.func67, Tryd.ntmps67
    go_wp2_with fail
    go_ret
    exact ⟨rfl, rfl⟩
set_option maxRecDepth 100000 in
theorem counted_any (x : VT) (w : World) : Calls Tryd.prog 68 #[x.v] w fun en w' => en = .returned x.cnt.v ∧ Grew w w' := by
  obtain ⟨n, nul, h⟩ := x
  unfold VT.v VT.cnt
  simp only
  by_cases h5 : n = 5
  · subst h5
    rw [if_pos rfl]
    go_enter Tryd.func68, Tryd.ntmps68
    go_wp2_with fail
    refine bodyPost_ret (v := .agg #[.int .i64 5, .bool nul, .int .i64 h]) (by simp [results, Tryd.results68, go_sem]) rfl ?_
    exact ⟨rfl, ((Grew.refl w).alloc _).alloc _⟩
  · rw [if_neg h5]
    have d : (n != 5) = true := by simpa using h5
    go_enter Tryd.func68, Tryd.ntmps68
    go_wp2_with fail
    refine bodyPost_ret (v := .agg #[.int .i64 n, .bool false, .int .i64 0]) (by simp [results, Tryd.results68, go_sem]) rfl ?_
    exact ⟨rfl, ((Grew.refl w).alloc _).alloc _⟩
def KP (k : Int) (v : Value) : Value := if k = 1 then v else NILS
def KF (k : Int) (v : Value) : Value := if k = 2 ∨ k = 3 then v else NILS
set_option maxRecDepth 100000 in
theorem ofKind_any (k : Int) (pv rv fv : Value) (w : World) (hp : ∃ a n c, pv = .slice a n c) (hr : ∃ a n c, rv = .slice a n c) (hf : ∃ a n c, fv = .slice a n c) :
    Calls Tryd.prog 58 #[.agg #[.int .i64 k, pv, rv, fv]] w fun en w' => en = .returned (.agg #[.int .i64 k, KP k pv, KP k rv, KF k fv]) ∧ Grew w w' := by
  obtain ⟨pa, pn, pc, rfl⟩ := hp
  obtain ⟨ra, rn, rc, rfl⟩ := hr
  obtain ⟨fa, fn, fc, rfl⟩ := hf
  unfold KP KF
  by_cases h1 : k = 1
  · subst h1
    rw [if_pos rfl, if_pos rfl, if_neg (by decide)]
    go_enter Tryd.func58, Tryd.ntmps58
    go_wp2_with fail
    refine bodyPost_ret (v := .agg #[.int .i64 1, .slice pa pn pc, .slice ra rn rc, NILS]) (by simp [results, Tryd.results58, go_sem]) rfl ?_
    exact ⟨rfl, ((Grew.refl w).alloc _).alloc _⟩
  · rw [if_neg h1, if_neg h1]
    by_cases h2 : k = 2
    · subst h2
      rw [if_pos (Or.inl rfl)]
      go_enter Tryd.func58, Tryd.ntmps58
      go_wp2_with fail
      refine bodyPost_ret (v := .agg #[.int .i64 2, NILS, NILS, .slice fa fn fc]) (by simp [results, Tryd.results58, go_sem]) rfl ?_
      exact ⟨rfl, ((Grew.refl w).alloc _).alloc _⟩
    · by_cases h3 : k = 3
      · subst h3
        rw [if_pos (Or.inr rfl)]
        go_enter Tryd.func58, Tryd.ntmps58
        go_wp2_with fail
        refine bodyPost_ret (v := .agg #[.int .i64 3, NILS, NILS, .slice fa fn fc]) (by simp [results, Tryd.results58, go_sem]) rfl ?_
        exact ⟨rfl, ((Grew.refl w).alloc _).alloc _⟩
      · rw [if_neg (by omega)]
        have d1 : (k == 1) = false := by simpa using h1
        have d2 : (k == 2) = false := by simpa using h2
        have d3 : (k == 3) = false := by simpa using h3
        go_enter Tryd.func58, Tryd.ntmps58
        go_wp2_with fail
        refine bodyPost_ret (v := .agg #[.int .i64 k, NILS, NILS, NILS]) (by simp [results, Tryd.results58, go_sem]) rfl ?_
        exact ⟨rfl, ((Grew.refl w).alloc _).alloc _⟩
set_option maxRecDepth 100000 in
theorem copiedVals_any {w : World} {v : Value} {l : List VT} (h : LV w v l) (hl : l.length ≤ 1048576) :
    Calls Tryd.prog 60 #[v] w fun en w' => ∃ u, en = .returned u ∧ RowV w.heap.size w' u (l.map VT.cnt) ∧ Grew w w' := by
  obtain ⟨a, cap, hv, hcap, hmax⟩ := h.one
  subst hv
  have H : Hid (LV w (.slice a l.length cap) l) := h
  clear h
  go_enter Tryd.func60, Tryd.ntmps60
  go_wp2_with fail
  go_loopw [3, 8] (fun v_ i_ w' => ∃ (i : Nat) (m : List VT), i_ = .int .i64 i ∧ i ≤ l.length ∧ Hid (m = (l.take i).map VT.cnt) ∧ m.length ≤ i ∧ Hid (RowV w.heap.size w' v_ m) ∧ Hid (Grew w w')) (fun _ i_ _ => l.length - (intOf i_).toNat)
  case atStart => exact ⟨0, [], rfl, Nat.zero_le _, rfl, by simp, RowV.nil _ _, Grew.refl _⟩
  case round =>
    obtain ⟨i, m, rfl, hi, HM, hml, R, G⟩ := hrel
    obtain ⟨w0, hw0⟩ : ∃ w0, w0 = wr := ⟨_, rfl⟩
    rw [← hw0] at G R ⊢
    clear hw0
    obtain ⟨ra, rc, hra, hrc, hrm, _⟩ := row_max R.out
    subst hra
    by_cases hlt : i < l.length
    · obtain ⟨x, hx⟩ : ∃ x, l[i]? = some x := ⟨_, List.getElem?_eq_getElem hlt⟩
      obtain ⟨b, off, ha, hc', hE⟩ := (H.out.grew G.out).get (by omega)
      subst ha
      obtain ⟨c0, c1, c2⟩ := hE i x hx
      clear hE
      have d1 : decide ((i : Int) < (l.length : Int)) = true := by simp; omega
      have d2 : decide (i < l.length) = true := by simp; omega
      have HS : Hid ((l.take (i + 1)).map VT.cnt = m ++ [x.cnt]) := (by rw [HM.out, take_snoc hx, List.map_append]; rfl : (l.take (i + 1)).map VT.cnt = m ++ [x.cnt])
      have C := counted_any x
      unfold VT.v at C
      generalize x.cnt = y at *
      obtain ⟨tn, tz, th⟩ := x
      obtain ⟨yn, yz, yh⟩ := y
      simp only at c0 c1 c2 C
      clear hx
      go_wp2_with fail
      refine (C _).mono ?_
      rintro en w1 ⟨rfl, g1⟩
      have gg : Grew w0 w1 := ((Grew.refl w0).alloc _).trans g1
      have R1 : Hid (RowV w.heap.size w1 (.slice ra m.length rc) m) := R.out.grew gg
      have G1 : Hid (Grew w w1) := G.out.trans gg
      have hgs := G1.out.2
      clear gg g1 C R c0 c1 c2
      go_wp2_with (at_builtin; refine wp_app1 (v := .slice ra m.length rc) (n := m.length) (cs := m.flatMap VT.c) (B := w.heap.size) rfl _ _ 54 100 3 24 _ Tryd.underlying54 infoV rfl (by decide) (by decide) rfl w.heap.size rfl rfl R1.out hgs rfl (by simp [Value.oneCell']) (by omega) ?_; intro v3 w3 hO3 hT3 hG3)
      go_roundw
      case rel => exact ⟨i + 1, m ++ [(⟨yn, yz, yh⟩ : VT)], by go_num, by omega, HS.out.symm, by simp; omega, RowV.snoc (a := ⟨yn, yz, yh⟩) hO3, hT3.grew' G1.out (Nat.le_refl _) (Nat.le_refl _)⟩
      case measure => simp [intOf]; omega
    · have d1 : decide ((i : Int) < (l.length : Int)) = false := by simp; omega
      have hin : l.take i = l := List.take_of_length_le (by omega)
      have e : l.map VT.cnt = m := by rw [HM.out, hin]
      go_wp2_with fail
      go_ret
      exact ⟨_, rfl, by rw [e]; exact R.out, G.out⟩
theorem step_callF {f : Nat} {args : Array Value} {argTs : Array TypeId} {argOs : Array Operand} {R : Ending → World → Prop} {ops : Array Oper} {o : Oper} {a : Act} {w : World} {K : Act → World → Prop} {Q : Exit → Act → World → Prop} {E : Prop}
    (hop : o.op = .call { callee := .value (.func f), args := argOs, argTypes := argTs }) (hw : Region.wanted o (yielded ops a.tmps) = true) (hargs : argOs.map a.eval = args) (hf : (callFunc f args).run Tryd.prog w = .ok (.enter f args) w)
    (hc : Calls Tryd.prog f args w R) (h : ∀ e w', R e w' → (∃ u, e = .returned u ∧ K (a.put o.dst u) w') ∨ ∃ ch, e = .panicked ch ∧ Q (.panic ch) a w') :
    if Region.wanted o (yielded ops a.tmps) = true then Oper.wp Tryd.prog o a w K Q else E := by
  rw [if_pos hw]
  unfold Oper.wp
  subst hargs
  simp [execOp, hop, resolve, invoke, go_sem, hf, Oper.upon_enter]
  refine hc.mono ?_
  intro e w' he
  rcases h e w' he with ⟨u, rfl, hk⟩ | ⟨ch, rfl, hk⟩
  · exact hk
  · exact hk
theorem call_counted (p : Value) (w : World) : (callFunc 68 #[p]).run Tryd.prog w = .ok (.enter 68 #[p]) w := by kernel_rfl
theorem step_counted {ops : Array Oper} {o : Oper} {a : Act} {w : World} {K : Act → World → Prop} {Q : Exit → Act → World → Prop} {E : Prop} (x : Operand) (y z : VT) (hz : Hid (y.cnt = z))
    (hop : o.op = .call { callee := .value (.func 68), args := #[x], argTypes := #[100] }) (hg : o.guard = none) (hx : a.eval x = .agg #[.int .i64 y.num, .bool y.null, .int .i64 y.heap])
    (h : ∀ w', Grew w w' → K (a.put o.dst (.agg #[.int .i64 z.num, .bool z.null, .int .i64 z.heap])) w') :
    if Region.wanted o (yielded ops a.tmps) = true then Oper.wp Tryd.prog o a w K Q else E :=
  step_callF hop (by simp [Region.wanted, hg]) (args := #[y.v]) (by simp [hx, VT.v]) (call_counted _ w) (counted_any y w) (by rintro e w' ⟨rfl, g⟩; refine Or.inl ⟨_, rfl, ?_⟩; have := h w' g; rw [← hz.out] at this; exact this)
/- An append of one element inside a region that draws. -/
theorem step_app1 {ops : Array Oper} {o : Oper} {a : Act} {w : World} {K : Act → World → Prop} {Q : Exit → Act → World → Prop} {E : Prop} (hgd : o.guard = none) (s x : Operand) (t e : TypeId) (k bytes : Nat) (z : Value)
    (hu : Tryd.prog.underlying t = some (.slice e)) (hi : (Tryd.prog.info? e).map (fun i => (i.zero, i.size, i.bytes)) = some (some z, k, bytes)) (hz : z.cells.size = k) (hk : 0 < k) (hbt : bytes ≤ 1000)
    (ho : o.op = .call { callee := .builtin .append, args := #[s, x], argTypes := #[t, t] }) {B : Nat} {v : Value} {n : Nat} {cs new : List Value} {gx cp : Nat} (b : Nat)
    (hs : a.eval s = v) (hx : a.eval x = .slice (some ⟨gx, 0, none⟩) 1 cp) (hh : w.ownsRow B e k v n cs) (hB : B ≤ w.heap.size) (hsz : new.length = k) (hc : ∀ j, j < k → w.cell? ⟨gx, j, none⟩ = new[j]?) (h1 : ∀ u ∈ new, u.oneCell' = true) (hn : n ≤ 4194304)
    (h : ∀ v' w', w'.ownsRow B e k v' (n + 1) (cs ++ new) → TB b B w w' → (∀ x < w.heap.size, some x ≠ v.ownBlock → w'.heap[x]? = w.heap[x]?) → K (a.put o.dst v') w') :
    if Region.wanted o (yielded ops a.tmps) = true then Oper.wp Tryd.prog o a w K Q else E := by
  have hw : Region.wanted o (yielded ops a.tmps) = true := by simp [Region.wanted, hgd]
  rw [if_pos hw]
  obtain ⟨i0, hi0, hz0, hz1, hz2⟩ := info_parts hi
  refine wp_append_own _ s x t ho B e i0 z k bytes hu hi0 hz0 hz1 hz2 hz hk v n cs hs hh ⟨gx, 0, none⟩ 1 cp new hx (by omega) ?_ h1 (by unfold maxLen; omega) ?_ hB ?_
  · intro j u hj
    have hjl := (List.getElem?_eq_some_iff.1 hj).1
    have e1 : (Addr.add ⟨gx, 0, none⟩ j) = ⟨gx, j, none⟩ := by unfold Addr.add; split <;> simp_all
    rw [e1, hc j (by omega)]
    exact hj
  · have : (n + 1) * bytes ≤ 4194305 * 1000 := Nat.mul_le_mul (by omega) hbt
    omega
  · intro v' w' ho' hg' _
    exact h v' w' ho' (own_turn hh hg') (fun x hx hne => hg'.block x hx hne)
set_option maxRecDepth 100000 in
set_option maxHeartbeats 1000000 in
theorem copiedFields_any {w : World} {v : Value} {l : List FT} (h : LF w v l) (hl : l.length ≤ 1048576) :
    Calls Tryd.prog 61 #[v] w fun en w' => ∃ u, en = .returned u ∧ RowF w.heap.size w' u (l.map FT.cnt) ∧ Grew w w' := by
  obtain ⟨a, cap, hv, hcap, hmax⟩ := h.one
  subst hv
  have H : Hid (LF w (.slice a l.length cap) l) := h
  clear h
  go_enter Tryd.func61, Tryd.ntmps61
  go_wp2_with fail
  go_loopw [3, 8] (fun v_ i_ w' => ∃ (i : Nat) (m : List FT), i_ = .int .i64 i ∧ i ≤ l.length ∧ Hid (m = (l.take i).map FT.cnt) ∧ m.length ≤ i ∧ Hid (RowF w.heap.size w' v_ m) ∧ Hid (Grew w w')) (fun _ i_ _ => l.length - (intOf i_).toNat)
  case atStart => exact ⟨0, [], rfl, Nat.zero_le _, rfl, by simp, RowF.nil _ _, Grew.refl _⟩
  case round =>
    obtain ⟨i, m, rfl, hi, HM, hml, R, G⟩ := hrel
    obtain ⟨w0, hw0⟩ : ∃ w0, w0 = wr := ⟨_, rfl⟩
    rw [← hw0] at G R ⊢
    clear hw0
    obtain ⟨ra, rc, hra, hrc, hrm, _⟩ := row_max R.out
    subst hra
    by_cases hlt : i < l.length
    · obtain ⟨x, hx⟩ : ∃ x, l[i]? = some x := ⟨_, List.getElem?_eq_getElem hlt⟩
      obtain ⟨b, off, ha, hc', hE⟩ := (H.out.grew G.out).get (by omega)
      subst ha
      obtain ⟨⟨c0, c1, c2⟩, c3⟩ := hE i x hx
      clear hE
      have d1 : decide ((i : Int) < (l.length : Int)) = true := by simp; omega
      have d2 : decide (i < l.length) = true := by simp; omega
      have HS : Hid ((l.take (i + 1)).map FT.cnt = m ++ [x.cnt]) := (by rw [HM.out, take_snoc hx, List.map_append]; rfl : (l.take (i + 1)).map FT.cnt = m ++ [x.cnt])
      unfold FT.cnt at HS
      obtain ⟨z, hz⟩ : ∃ z, x.ty.cnt = z := ⟨_, rfl⟩
      have HZ : Hid (x.ty.cnt = z) := hz
      rw [hz] at HS
      obtain ⟨⟨tn, tz, th⟩, mu⟩ := x
      obtain ⟨yn, yz, yh⟩ := z
      simp only at c0 c1 c2 c3 HZ HS
      clear hx hz
      go_wp2_with fail
      have G0 : Hid (Grew w (w0.alloc (.cells #[.int .i64 tn, .bool tz, .int .i64 th, .bool mu] 104))) := G.out.alloc _
      have A0 : Hid ((w0.alloc (.cells #[.int .i64 tn, .bool tz, .int .i64 th, .bool mu] 104)).heap[w0.heap.size]? = some (fobj ⟨⟨tn, tz, th⟩, mu⟩)) := heap_alloc_last _ _
      have R0 : Hid (RowF w.heap.size (w0.alloc (.cells #[.int .i64 tn, .bool tz, .int .i64 th, .bool mu] 104)) (.slice ra m.length rc) m) := R.out.grew ((Grew.refl _).alloc _)
      generalize (w0.alloc (.cells #[.int .i64 tn, .bool tz, .int .i64 th, .bool mu] 104)) = W at *
      have k0 := cell_of A0.out 0
      have k1 := cell_of A0.out 1
      have k2 := cell_of A0.out 2
      have k3 := cell_of A0.out 3
      simp at k0 k1 k2 k3
      have hk : w0.heap.size < W.heap.size := lt_of_obj A0.out
      go_region_held3 (fun w' => w'.cell? ⟨w0.heap.size, 0, none⟩ = some (.int .i64 tn) ∧ w'.cell? ⟨w0.heap.size, 1, none⟩ = some (.bool tz) ∧ w'.cell? ⟨w0.heap.size, 2, none⟩ = some (.int .i64 th) ∧ w'.cell? ⟨w0.heap.size, 3, none⟩ = some (.bool mu)) (go_keep)
        (first
        | (refine step_counted (.tmp 14) ⟨tn, tz, th⟩ ⟨yn, yz, yh⟩ HZ rfl rfl rfl ?_
           intro w6 g6
           have g6' : Grew W w6 := (by first | exact g6 | exact ((Grew.refl _).drew).trans g6 | exact ((Grew.refl _).drewN _).trans g6)
           have G6 : Hid (Grew W w6) := g6'
           have j0 := cell_grew k0 g6'
           have j1 := cell_grew k1 g6'
           have j2 := cell_grew k2 g6'
           have j3 := cell_grew k3 g6'
           have R6 : Hid (RowF w.heap.size w6 (.slice ra m.length rc) m) := R0.out.grew g6'
           have A6 : Hid (w6.heap[w0.heap.size]? = some (fobj ⟨⟨tn, tz, th⟩, mu⟩)) := g6'.other A0.out
           have G6w : Hid (Grew w w6) := G0.out.trans g6'
           have hgs : w.heap.size ≤ w6.heap.size := G6w.out.2
           clear g6 g6')
        | (refine step_app1 (v := .slice ra m.length rc) (n := m.length) (cs := m.flatMap FT.c) (B := w.heap.size) (new := FT.c ⟨⟨yn, yz, yh⟩, mu⟩) rfl _ _ 55 104 4 32 _ Tryd.underlying55 infoF rfl (by decide) (by decide) rfl w.heap.size rfl rfl (row_grew R6.out ((Grew.refl _).alloc _)) (by simp; omega) rfl ?_ (by simp [FT.c, Value.oneCell']) (by omega) ?_
           · intro j hj
             rw [cell_of (heap_alloc_last _ _)]
             match j, hj with
             | 0, _ => rfl
             | 1, _ => rfl
             | 2, _ => rfl
             | 3, _ => rfl
           intro v3 w3 hO3 hT3 hG3
           have A3 := (hG3 w0.heap.size (by have := lt_of_obj A6.out; simp; omega) (fun hh => by have := (World.ownsRow.lt R.out _ hh.symm).2; omega)).trans (heap_alloc A6.out _)
           have j0' := cell_of A3 0
           have j1' := cell_of A3 1
           have j2' := cell_of A3 2
           have j3' := cell_of A3 3
           simp at j0' j1' j2' j3'
           ))
      all_goals
        go_wp2_with fail
        go_roundw
        case rel => exact ⟨i + 1, m ++ [(⟨⟨yn, yz, yh⟩, mu⟩ : FT)], by go_num, by omega, HS.out.symm, by simp; omega, RowF.snoc (a := ⟨⟨yn, yz, yh⟩, mu⟩) hO3, hT3.grew' (G6w.out.alloc _) (Nat.le_refl _) (Nat.le_refl _)⟩
        case measure => simp [intOf]; omega
    · have d1 : decide ((i : Int) < (l.length : Int)) = false := by simp; omega
      have hin : l.take i = l := List.take_of_length_le (by omega)
      have e : l.map FT.cnt = m := by rw [HM.out, hin]
      go_wp2_with fail
      go_ret
      exact ⟨_, rfl, by rw [e]; exact R.out, G.out⟩
end Go.Proofs.YthchhehmbldmdaaDoor
