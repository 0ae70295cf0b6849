/-
  The program's rolledUp: a group by the ids of the types ahead; no statement is proved here.
-/
import Derived.Test.YtnmbniojejckpaaGreatDoorCSw
set_option maxRecDepth 100000
set_option maxHeartbeats 8000000
namespace Go.Proofs.YtnmbniojejckpaaGreatDoor
open Go.RowKit
set_option linter.unusedVariables false
set_option linter.unusedSimpArgs false
theorem ruc2_any {w : World} {x : SB} {sv pv rv fv k1 k2 : Value} {f : Int → Int} {D : Int → Prop} {tb : Nat} (h : SubR w x sv pv rv fv) (hm : Sml x) (ht : Tells w k1 k2 f D) (hb : BX w tb 219 (SWAP k1 k2)) (hd : In D x) :
    Calls Tryz.prog 160 #[.agg #[.bool x.final_, sv, .int .i64 x.comp.kind, pv, rv, fv], .pointer (some ⟨tb, 0, none⟩)] w fun en w' => ∃ s' p' r' f', en = .returned (.agg #[.bool x.final_, s', .int .i64 x.comp.kind, p', r', f']) ∧ SubT w.heap.size w' (x.sw f) ⟨s', p', r', f'⟩ ∧ Grew w w' := by
  have C : Hid (∀ W, Grew w W → Calls Tryz.prog 161 #[.agg #[.bool x.final_, sv, .int .i64 x.comp.kind, pv, rv, fv], SWAP k1 k2] W fun en w' => ∃ s' p' r' f', en = .returned (.agg #[.bool x.final_, s', .int .i64 x.comp.kind, p', r', f']) ∧ SubT W.heap.size w' (x.sw f) ⟨s', p', r', f'⟩ ∧ Grew W w') := fun W g => swapped_any ⟨h.1.grew g, h.2.1.grew g, h.2.2.1.grew g, h.2.2.2.grew g⟩ hm (ht.grew g) hd
  have c0 := cell_of hb 0
  have hlt := lt_of_obj hb
  obtain ⟨hs, hp, hr, hf⟩ := h
  obtain ⟨sa, scap, rfl, _, _⟩ := hs.one
  obtain ⟨pa, pcap, rfl, _, _⟩ := hp.one
  obtain ⟨ra, rcap, rfl, _, _⟩ := hr.one
  obtain ⟨fa, fcap, rfl, _, _⟩ := hf.one
  generalize x.sw f = y at *
  obtain ⟨fin, sup, ⟨kind, ps, rs, fs⟩⟩ := x
  simp only at *
  unfold SWAP at *
  simp at c0
  clear hs hp hr hf hb ht hd hm
  go_enter Tryz.func160, Tryz.ntmps160
  go_wp2_with fail
  refine (C.out _ (((Grew.refl w).alloc _).alloc _)).mono ?_
  rintro en w1 ⟨s', p', r', f', rfl, hS, g1⟩
  obtain ⟨a1, c1, h1, _⟩ := row_max hS.1
  obtain ⟨a2, c2, h2, _⟩ := row_max hS.2.1
  obtain ⟨a3, c3, h3, _⟩ := row_max hS.2.2.1
  obtain ⟨a4, c4, h4, _⟩ := row_max hS.2.2.2
  simp only at h1 h2 h3 h4
  subst h1 h2 h3 h4
  have BB : Hid (w1.heap[w.heap.size + 1]? = some (.cells #[.bool false, .slice none 0 0, .int .i64 0, .slice none 0 0, .slice none 0 0, .slice none 0 0] 108 (0, 0))) := by
    refine g1.other ?_
    rw [← alloc_size w (.cells #[.bool fin, .slice sa sup.length scap, .int .i64 kind, .slice pa ps.length pcap, .slice ra rs.length rcap, .slice fa fs.length fcap] 108)]
    exact heap_alloc_last _ _
  have G1 : Hid (Grew w w1) := (((Grew.refl w).alloc _).alloc _).trans g1
  have HS : Hid (SubT w.heap.size w1 y ⟨.slice a1 y.supers.length c1, .slice a2 y.comp.params.length c2, .slice a3 y.comp.results.length c3, .slice a4 y.comp.fields.length c4⟩) := hS.low (by simp; omega)
  have y0 := cell_of BB.out 0
  have y1 := cell_of BB.out 1
  have y2 := cell_of BB.out 2
  have y3 := cell_of BB.out 3
  have y4 := cell_of BB.out 4
  have y5 := cell_of BB.out 5
  have z0 := free_of BB.out 0
  have z1 := free_of BB.out 1
  have z2 := free_of BB.out 2
  have z3 := free_of BB.out 3
  have z4 := free_of BB.out 4
  have z5 := free_of BB.out 5
  simp at y0 y1 y2 y3 y4 y5
  have hl1 := lt_of_obj BB.out
  clear g1 C hS
  go_wp2_with fail
  have e0 := heap_set BB.out 0 (.bool fin)
  have e1 := heap_set e0 1 (.slice a1 y.supers.length c1)
  have e2 := heap_set e1 2 (.int .i64 kind)
  have e3 := heap_set e2 3 (.slice a2 y.comp.params.length c2)
  have e4 := heap_set e3 4 (.slice a3 y.comp.results.length c3)
  have e5 := heap_set e4 5 (.slice a4 y.comp.fields.length c4)
  have q0 := cell_of e0 0
  have q1 := cell_of e1 1
  have q2 := cell_of e2 2
  have q3 := cell_of e3 3
  have q4 := cell_of e4 4
  have q5 := cell_of e5 5
  simp at q0 q1 q2 q3 q4 q5
  refine bodyPost_ret (v := .agg #[.bool fin, .slice a1 y.supers.length c1, .int .i64 kind, .slice a2 y.comp.params.length c2, .slice a3 y.comp.results.length c3, .slice a4 y.comp.fields.length c4]) (by simp [results, Tryz.results160, go_sem, q0, q1, q2, q3, q4, q5]) rfl ?_
  have tn : Turn [w.heap.size + 1] w1 ((((((w1.setCell ⟨w.heap.size + 1, 0, none⟩ (.bool fin)).setCell ⟨w.heap.size + 1, 1, none⟩ (.slice a1 y.supers.length c1)).setCell ⟨w.heap.size + 1, 2, none⟩ (.int .i64 kind)).setCell ⟨w.heap.size + 1, 3, none⟩ (.slice a2 y.comp.params.length c2)).setCell ⟨w.heap.size + 1, 4, none⟩ (.slice a3 y.comp.results.length c3)).setCell ⟨w.heap.size + 1, 5, none⟩ (.slice a4 y.comp.fields.length c4)) := ((((((Turn.refl [w.heap.size + 1] w1).set (by simp) _).set (by simp) _).set (by simp) _).set (by simp) _).set (by simp) _).set (by simp) _
  refine ⟨_, _, _, _, rfl, HS.out.turn tn (fun x hx => ?_), tn.grew G1.out (fun x hx => by simp at hx; omega)⟩
  rw [List.mem_singleton] at hx
  subst hx
  exact ⟨NoT.of BB.out (by decide), NoT.of BB.out (by decide), NoT.of BB.out (by decide)⟩
/- A row of types with rows of their own. -/
def SubsT (B : Nat) (w : World) (v : Value) (l : List (SB × Q4)) : Prop := w.ownsRow B 108 6 v l.length (l.flatMap f6) ∧ ∀ y ∈ l, SubT B w y.1 y.2
theorem SubsT.grew {B : Nat} {w w' : World} {v : Value} {l : List (SB × Q4)} (h : SubsT B w v l) (g : Grew w w') : SubsT B w' v l := ⟨row_grew h.1 g, fun y hy => (h.2 y hy).grew g⟩
theorem SubsT.lst {B : Nat} {w : World} {v : Value} {l : List (SB × Q4)} (h : SubsT B w v l) : LS w v (l.map Prod.fst) := by
  obtain ⟨h1, h2⟩ := h
  obtain ⟨a, c, hv, e1, e2, hz⟩ := row_max h1
  refine ⟨a, c, by rw [List.length_map]; exact hv, by rw [List.length_map]; exact e1, e2, hz, ?_⟩
  have h0 := h1
  obtain ⟨hl, ⟨_, h4⟩ | ⟨g, cap, cur, hv', hB, hg, h4⟩⟩ := h1
  · left; rw [List.eq_nil_of_length_eq_zero h4]; rfl
  · right
    have hva := hv.symm.trans hv'
    injection hva with e3 _ _
    refine ⟨g, 0, e3, fun i x hx => ?_⟩
    rw [List.getElem?_map] at hx
    obtain ⟨y, hy, rfl⟩ := Option.map_eq_some_iff.1 hx
    have hi : i < l.length := (List.getElem?_eq_some_iff.1 hy).1
    rw [hv'] at h0
    have cl : ∀ j, j < 6 → w.cell? ⟨g, 0 + i * 6 + j, none⟩ = (f6 y)[j]? := fun j hj => by
      rw [Nat.zero_add, h0.cellAt (i * 6 + j) (by omega)]
      exact flat_at f6 6 (fun _ => rfl) l i y j hy hj
    exact ⟨_, _, _, _, (h2 y (List.mem_of_getElem? hy)).rd, cl 0 (by decide), cl 1 (by decide), cl 2 (by decide), cl 3 (by decide), cl 4 (by decide), cl 5 (by decide)⟩
theorem SubsT.snoc {B : Nat} {w w' : World} {v v' : Value} {m : List (SB × Q4)} {y : SB × Q4} (h : SubsT B w v m) (hy : SubT B w y.1 y.2) (ho : w'.ownsRow B 108 6 v' (m.length + 1) (m.flatMap f6 ++ f6 y))
    (hk : ∀ x < w.heap.size, some x ≠ v.ownBlock → w'.heap[x]? = w.heap[x]?) : SubsT B w' v' (m ++ [y]) := by
  refine ⟨by rw [List.length_append, List.flatMap_append]; simpa using ho, fun z hz => ?_⟩
  have hT : SubT B w z.1 z.2 := by
    rcases List.mem_append.1 hz with h1 | h1
    · exact h.2 z h1
    · rw [List.mem_singleton] at h1; subst h1; exact hy
  cases hv : v.ownBlock with
  | none =>
    have hk' : ∀ x < w.heap.size, w'.heap[x]? = w.heap[x]? := fun x hx => hk x hx (by rw [hv]; simp)
    have key : ∀ {e k u n ds}, w.ownsRow B e k u n ds → w'.ownsRow B e k u n ds := fun hr => row_same hr (fun g hg => hk' g (hr.lt g hg).2)
    exact ⟨key hT.1, key hT.2.1, key hT.2.2.1, key hT.2.2.2⟩
  | some b =>
    obtain ⟨cur, hc⟩ := row_tag h.1 hv
    exact hT.keep hc (by decide) (fun x hx hne => hk x hx (by rw [hv]; simpa using hne))
def RU2 (tb : Nat) : Value := .func (.func 160) #[] #[.pointer (some ⟨tb, 0, none⟩)]
theorem eachS_any {w : World} {v : Value} {l : List SB} {k1 k2 : Value} {f : Int → Int} {D : Int → Prop} {tb : Nat} (h : LS w v l) (hl : l.length ≤ 1048576) (hm : ∀ x ∈ l, Sml x) (ht : Tells w k1 k2 f D) (hb : BX w tb 219 (SWAP k1 k2)) (hd : ∀ x ∈ l, In D x) :
    Calls Tryz.prog 159 #[v, RU2 tb] w fun en w' => ∃ u m, en = .returned u ∧ SubsT w.heap.size w' u m ∧ m.map Prod.fst = l.map (SB.sw f) ∧ Grew w w' := by
  obtain ⟨a, cap, hv, hcap, hmax⟩ := h.one
  subst hv
  have CC : Hid (∀ x ∈ l, ∀ W sv pv rv fv, Grew w W → SubR W x sv pv rv fv → Calls Tryz.prog 160 #[.agg #[.bool x.final_, sv, .int .i64 x.comp.kind, pv, rv, fv], .pointer (some ⟨tb, 0, none⟩)] W fun en w' => ∃ s' p' r' f', en = .returned (.agg #[.bool x.final_, s', .int .i64 x.comp.kind, p', r', f']) ∧ SubT W.heap.size w' (x.sw f) ⟨s', p', r', f'⟩ ∧ Grew W w') :=
    fun x hx W sv pv rv fv g hS => ruc2_any hS (hm x hx) (ht.grew g) (hb.grew g) (hd x hx)
  have H : Hid (LS w (.slice a l.length cap) l) := h
  clear h ht hd hb hm
  unfold RU2
  go_enter Tryz.func159, Tryz.ntmps159
  go_wp2_with fail
  go_loopw [5, 10] (fun v_ i_ w' => ∃ (i : Nat) (m : List (SB × Q4)), i_ = .int .i64 i ∧ i ≤ l.length ∧ Hid (m.map Prod.fst = (l.take i).map (SB.sw f)) ∧ m.length ≤ i ∧ Hid (SubsT w.heap.size w' v_ m) ∧ Hid (Grew w w')) (fun _ i_ _ => l.length - (intOf i_).toNat)
  case atStart => exact ⟨0, [], rfl, Nat.zero_le _, rfl, by simp, ⟨World.ownsRow_nil _ _ _ _, fun y hy => by cases hy⟩, Grew.refl _⟩
  case round =>
    obtain ⟨i, m, rfl, hi, HM, hml, R, G⟩ := hrel
    obtain ⟨w0, hw0⟩ : ∃ w0, w0 = wr := ⟨_, rfl⟩
    rw [← hw0] at G R ⊢
    clear hw0
    obtain ⟨ra, rc, hra, hrc, hrm, _⟩ := row_max R.out.1
    subst hra
    by_cases hlt : i < l.length
    · obtain ⟨x, hx⟩ : ∃ x, l[i]? = some x := ⟨_, List.getElem?_eq_getElem hlt⟩
      obtain ⟨b, off, ha, hc', hE⟩ := (H.out.grew G.out).get (by omega)
      subst ha
      obtain ⟨sv, pv, rv, fv, hSR, c0, c1, c2, c3, c4, c5⟩ := hE i x hx
      clear hE
      have d1 : decide ((i : Int) < (l.length : Int)) = true := by simp; omega
      have d2 : decide (i < l.length) = true := by simp; omega
      have HS : Hid ((l.take (i + 1)).map (SB.sw f) = m.map Prod.fst ++ [x.sw f]) := (by rw [HM.out, take_snoc hx, List.map_append]; rfl : (l.take (i + 1)).map (SB.sw f) = m.map Prod.fst ++ [x.sw f])
      obtain ⟨hs, hp, hr, hf⟩ := hSR
      obtain ⟨sa, scap, rfl, _, _⟩ := hs.one
      obtain ⟨pa, pcap, rfl, _, _⟩ := hp.one
      obtain ⟨qa, qcap, rfl, _, _⟩ := hr.one
      obtain ⟨fa, fcap, rfl, _, _⟩ := hf.one
      have SR : Hid (SubR w0 x (.slice sa x.supers.length scap) (.slice pa x.comp.params.length pcap) (.slice qa x.comp.results.length qcap) (.slice fa x.comp.fields.length fcap)) := ⟨hs, hp, hr, hf⟩
      have C' : Hid (∀ W, Grew w0 W → Calls Tryz.prog 160 #[.agg #[.bool x.final_, .slice sa x.supers.length scap, .int .i64 x.comp.kind, .slice pa x.comp.params.length pcap, .slice qa x.comp.results.length qcap, .slice fa x.comp.fields.length fcap], .pointer (some ⟨tb, 0, none⟩)] W fun en w' => ∃ s' p' r' f', en = .returned (.agg #[.bool x.final_, s', .int .i64 x.comp.kind, p', r', f']) ∧ SubT W.heap.size w' (x.sw f) ⟨s', p', r', f'⟩ ∧ Grew W w') :=
        fun W g => CC.out x (List.mem_of_getElem? hx) W _ _ _ _ (G.out.trans g) ⟨hs.grew g, hp.grew g, hr.grew g, hf.grew g⟩
      have hfin : (x.sw f).final_ = x.final_ := rfl
      have hkin : (x.sw f).comp.kind = x.comp.kind := by show (CT.sw f x.comp).kind = _; unfold CT.sw; split <;> (try split) <;> rfl
      have HF : Hid ((x.sw f).final_ = x.final_ ∧ (x.sw f).comp.kind = x.comp.kind) := ⟨hfin, hkin⟩
      generalize x.sw f = y at *
      obtain ⟨fin, sup, ⟨kind, ps, rs, fs⟩⟩ := x
      simp only at *
      clear hx hs hp hr hf SR hfin hkin
      go_wp2_with fail
      refine (C'.out _ ((Grew.refl w0).alloc _)).mono ?_
      rintro en w1 ⟨s', p', r', f', rfl, hS, g1⟩
      have z1 := row_cell hS.1
      have z2 := row_cell hS.2.1
      have z3 := row_cell hS.2.2.1
      have z4 := row_cell hS.2.2.2
      obtain ⟨a1, cc1, h1, _⟩ := row_max hS.1
      obtain ⟨a2, cc2, h2, _⟩ := row_max hS.2.1
      obtain ⟨a3, cc3, h3, _⟩ := row_max hS.2.2.1
      obtain ⟨a4, cc4, h4, _⟩ := row_max hS.2.2.2
      simp only at h1 h2 h3 h4 z1 z2 z3 z4
      subst h1 h2 h3 h4
      have gg : Grew w0 w1 := ((Grew.refl w0).alloc _).trans g1
      have R1 : Hid (SubsT w.heap.size w1 (.slice ra m.length rc) m) := R.out.grew gg
      have S1 : Hid (SubT w.heap.size w1 y ⟨.slice a1 y.supers.length cc1, .slice a2 y.comp.params.length cc2, .slice a3 y.comp.results.length cc3, .slice a4 y.comp.fields.length cc4⟩) := hS.low (by have := G.out.2; simp; omega)
      have G1 : Hid (Grew w w1) := G.out.trans gg
      have hgs := G1.out.2
      clear gg g1 C' R c0 c1 c2 c3 c4 c5 hS
      go_wp2_with (at_builtin; refine wp_app1 (v := .slice ra m.length rc) (n := m.length) (cs := m.flatMap f6) (B := w.heap.size) rfl _ _ 100 108 6 112 _ Tryz.underlying100 infoS rfl (by decide) (by decide) rfl w.heap.size rfl rfl R1.out.1 hgs rfl (by simp [Value.oneCell']) (by omega) ?_; intro v3 w3 hO3 hT3 hG3)
      go_roundw
      case rel =>
        refine ⟨i + 1, m ++ [(y, ⟨.slice a1 y.supers.length cc1, .slice a2 y.comp.params.length cc2, .slice a3 y.comp.results.length cc3, .slice a4 y.comp.fields.length cc4⟩)], by go_num, by omega, ?_, by simp; omega, ?_, hT3.grew' G1.out (Nat.le_refl _) (Nat.le_refl _)⟩
        · have e : (m ++ [(y, (⟨.slice a1 y.supers.length cc1, .slice a2 y.comp.params.length cc2, .slice a3 y.comp.results.length cc3, .slice a4 y.comp.fields.length cc4⟩ : Q4))]).map Prod.fst = (l.take (i + 1)).map (SB.sw f) := by rw [HS.out]; simp
          exact e
        · refine SubsT.snoc R1.out S1.out ?_ hG3
          have e : f6 (y, ⟨.slice a1 y.supers.length cc1, .slice a2 y.comp.params.length cc2, .slice a3 y.comp.results.length cc3, .slice a4 y.comp.fields.length cc4⟩) = [.bool fin, .slice a1 y.supers.length cc1, .int .i64 kind, .slice a2 y.comp.params.length cc2, .slice a3 y.comp.results.length cc3, .slice a4 y.comp.fields.length cc4] := by
            unfold f6; simp only [HF.out.1, HF.out.2]
          rw [e]
          exact hO3
      case measure => simp [intOf]; omega
    · have d1 : decide ((i : Int) < (l.length : Int)) = false := by simp; omega
      have hin : l.take i = l := List.take_of_length_le (by omega)
      have e : m.map Prod.fst = l.map (SB.sw f) := by rw [HM.out, hin]
      go_wp2_with fail
      go_ret
      exact ⟨_, _, rfl, R.out, e, G.out⟩
/- Of the numbers that may be spoken of: below the end of the group. -/
def Below' (n : Nat) (x : Int) : Prop := 0 ≤ x ∧ x < (n : Int)
theorem rolledUp_any {w : World} {tv iv : Value} {l : List SB} {ids : List Int} {ex : Bool} (h : LS w tv l) (hi : LI w iv ids) (hl : ids.length + l.length ≤ 1048576) (hm : ∀ x ∈ l, Sml x) (hd : ∀ x ∈ l, In (Below' (ids.length + l.length)) x) :
    Calls Tryz.prog 156 #[.agg #[tv, .bool ex], iv] w fun en w' => ∃ u m, en = .returned (.agg #[u, .bool false]) ∧ SubsT w.heap.size w' u m ∧ m.map Prod.fst = l.map (SB.sw (toldN ids)) ∧ Grew w w' := by
  have hmf : ∀ (fn : Fn) (first cap : Array Value) (w : World), (Instr.makeFunc fn first cap).run Tryz.prog w = .ok (.func fn first cap) w := fun _ _ _ _ => rfl
  obtain ⟨a, cap, hv, hcap, hmax⟩ := h.one
  subst hv
  obtain ⟨ia, icap, hv, hicap, himax⟩ := hi.one
  subst hv
  have H : Hid (LS w (.slice a l.length cap) l) := h
  have HI : Hid (LI w (.slice ia ids.length icap) ids) := hi
  have HM : Hid (∀ x ∈ l, Sml x) := hm
  have HD : Hid (∀ x ∈ l, In (Below' (ids.length + l.length)) x) := hd
  clear h hi hm hd
  go_enter Tryz.func156, Tryz.ntmps156
  go_wp2_with fail
  generalize hW : (((((w.alloc (.cells #[.slice a l.length cap, .bool ex] 102)).alloc (.cells #[.slice ia ids.length icap] 23)).alloc (.cells #[.slice none 0 0, .bool false] 102)).alloc (.cells #[.int .i64 (ids.length : Int)] 3)).alloc (.cells #[.func (.func 158) #[] #[.pointer (some ⟨w.heap.size + 1 + 1 + 1, 0, none⟩), .pointer (some ⟨w.heap.size + 1, 0, none⟩)]] 219)) = W
  obtain ⟨G0, A0, A1, A2, A3, A4⟩ : Hid (Grew w W) ∧ Hid (W.heap[w.heap.size]? = some (.cells #[.slice a l.length cap, .bool ex] 102 (0, 0))) ∧ Hid (BX W (w.heap.size + 1) 23 (.slice ia ids.length icap)) ∧ Hid (W.heap[w.heap.size + 1 + 1]? = some (.cells #[.slice none 0 0, .bool false] 102 (0, 0))) ∧ Hid (BX W (w.heap.size + 1 + 1 + 1) 3 (.int .i64 (ids.length : Int))) ∧ Hid (BX W (w.heap.size + 1 + 1 + 1 + 1) 219 (SWAP (.pointer (some ⟨w.heap.size + 1 + 1 + 1, 0, none⟩)) (.pointer (some ⟨w.heap.size + 1, 0, none⟩)))) := by
    rw [← hW]; exact five w _ _ _ _ _
  clear hW
  have HT : Tells W (.pointer (some ⟨w.heap.size + 1 + 1 + 1, 0, none⟩)) (.pointer (some ⟨w.heap.size + 1, 0, none⟩)) (toldN ids) (Below' (ids.length + l.length)) := by
    intro w' g n hn
    have c0 := cell_of (A3.out.grew g) 0
    have c1 := cell_of (A1.out.grew g) 0
    simp at c0 c1
    obtain ⟨hn0, hn1⟩ := hn
    unfold toldN
    by_cases hlt : n < (ids.length : Int)
    · rw [if_pos hlt]
      obtain ⟨b, off, ha, hc', hE⟩ := (HI.out.grew (G0.out.trans g)).get (by omega)
      subst ha
      have hlen : n.toNat < ids.length := by omega
      have hx : ids[n.toNat]? = some (ids.getD n.toNat 0) := by rw [List.getD_eq_getElem?_getD, List.getElem?_eq_getElem hlen]; rfl
      have hc := hE n.toNat _ hx
      unfold EI at hc
      rw [Nat.mul_one] at hc
      exact told_low c0 c1 hc hn0 hlt hlen hicap (by omega)
    · rw [if_neg hlt]
      exact told_own c0 (by omega) (by omega) (by omega)
  refine (eachS_any (H.out.grew G0.out) (by omega) HM.out HT A4.out HD.out).mono ?_
  rintro en w1 ⟨u, m, rfl, hS, hq, g1⟩
  obtain ⟨ua, uc, hu, _⟩ := row_max hS.1
  subst hu
  have B2 := g1.other A2.out
  have y0 := cell_of B2 0
  have y1 := cell_of B2 1
  have z0 := free_of B2 0
  have z1 := free_of B2 1
  simp at y0 y1
  have hl2 := lt_of_obj B2
  have BB : Hid (w1.heap[w.heap.size + 1 + 1]? = some (.cells #[.slice none 0 0, .bool false] 102 (0, 0))) := B2
  have SS : Hid (SubsT W.heap.size w1 (.slice ua m.length uc) m) := hS
  have G1 : Hid (Grew w w1) := G0.out.trans g1
  have HQ : Hid (m.map Prod.fst = l.map (SB.sw (toldN ids))) := hq
  clear HT hS g1 B2 hq A0 A1 A2 A3 A4
  go_wp2_with fail
  have e0 := heap_set BB.out 0 (.slice ua m.length uc)
  have e1 := heap_set e0 1 (.bool false)
  have q0 := cell_of e0 0
  have q1 := cell_of e1 1
  simp at q0 q1
  refine bodyPost_ret (v := .agg #[.slice ua m.length uc, .bool false]) (by simp [results, Tryz.results156, go_sem, q0, q1]) rfl ?_
  have tn : Turn [w.heap.size + 1 + 1] w1 ((w1.setCell ⟨w.heap.size + 1 + 1, 0, none⟩ (.slice ua m.length uc)).setCell ⟨w.heap.size + 1 + 1, 1, none⟩ (.bool false)) := ((Turn.refl [w.heap.size + 1 + 1] w1).set (by simp) _).set (by simp) _
  have nt : ∀ e, 102 ≠ e → ∀ x ∈ [w.heap.size + 1 + 1], NoT w1 x e := fun e he x hx => by
    rw [List.mem_singleton] at hx
    subst hx
    exact NoT.of BB.out he
  refine ⟨_, m, rfl, ⟨row_low (row_turn SS.out.1 tn (nt _ (by decide))) G0.out.2, fun y hy => ((SS.out.2 y hy).low G0.out.2).turn tn (fun x hx => ⟨nt _ (by decide) x hx, nt _ (by decide) x hx, nt _ (by decide) x hx⟩)⟩, HQ.out, tn.grew G1.out (fun x hx => by simp at hx; omega)⟩
end Go.Proofs.YtnmbniojejckpaaGreatDoor
