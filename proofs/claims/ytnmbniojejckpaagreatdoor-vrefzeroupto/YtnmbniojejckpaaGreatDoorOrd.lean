/-
  Sub's newOrder; no statement is proved here.
-/
import Derived.Test.YtnmbniojejckpaaGreatDoorIdsP
set_option maxRecDepth 100000
set_option maxHeartbeats 8000000
namespace Go.Proofs.YtnmbniojejckpaaGreatDoor
open Go.RowKit
set_option linter.unusedVariables false
set_option linter.unusedSimpArgs false
def NOF : FM := fun _ => none
def U0 : Dr := ⟨NOF, NOF, [], 0, 9223372036854775807, 0⟩
theorem good_U0 : GoodD U0 0 0 := ⟨by simp [U0], by simp [U0], by simp [U0], by simp [U0], by simp [U0], by simp [U0], (fun m hm => by cases hm), by simp [U0], fun m v h => by rcases h with h | h <;> simp [U0, NOF] at h⟩
theorem step_most {s : Dr} {m : List SB} {n : Int} {s' : Dr} (h : stepD s m = some (n, s')) : s'.most = s.most := by
  unfold stepD at h
  split at h
  · simp only [Option.some.injEq, Prod.mk.injEq] at h; rw [h.2]
  · split at h
    · simp only [Option.some.injEq, Prod.mk.injEq] at h; rw [h.2]
    · split at h
      · cases h
      · simp only [Option.some.injEq, Prod.mk.injEq] at h; rw [← h.2]
theorem step_yes {s : Dr} {m : List SB} (hb : (m.length : Int) ≤ s.most - s.count) : ∃ n s', stepD s m = some (n, s') := by
  unfold stepD
  split
  · exact ⟨_, _, rfl⟩
  · split
    · exact ⟨_, _, rfl⟩
    · rw [if_neg (by omega)]; exact ⟨_, _, rfl⟩
theorem num_yes : ∀ (L : List RT) (ids : List Int) (s : Dr) (k c : Nat), GoodD s k c → s.most = 9223372036854775807 → k + cntT L ≤ 2097152 → closedP ids.length L = true → (∀ r ∈ L, ∀ x ∈ r.types, Sml x) → (∀ a ∈ ids, 0 ≤ a ∧ a ≤ 4194304) → ∃ ids' s', numF stepD L ids s = (some ids', s') ∧ ids'.length = ids.length + cntT L ∧ GoodD s' (k + cntT L) (c + L.length) ∧ s'.most = 9223372036854775807
  | [], ids, s, k, c, h, hm, hk, _, _, _ => ⟨ids, s, rfl, by simp [cntT], by simpa [cntT] using h, hm⟩
  | r :: L, ids, s, k, c, h, hm, hk, hcl, hsm, hid => by
    have hcnt : cntT (r :: L) = r.types.length + cntT L := rfl
    rw [hcnt] at hk
    unfold closedP at hcl
    rw [Bool.and_eq_true] at hcl
    have hc1 := h.c1
    obtain ⟨n, s', hs⟩ := step_yes (s := s) (m := r.types.map (SB.sw (toldN ids))) (by rw [List.length_map]; omega)
    obtain ⟨h1, h2, h3⟩ := good_step h (ok_sw hid (hsm r (by simp)) (fun x hx => List.all_eq_true.1 hcl.1 x hx)) (by rw [List.length_map]; omega) hs
    rw [List.length_map] at h2 h3
    have hl' : (ids ++ idsOf n r.types.length).length = ids.length + r.types.length := by rw [List.length_append, idsOf_len]
    obtain ⟨ids', s'', e1, e2, e3, e4⟩ := num_yes L (ids ++ idsOf n r.types.length) s' (k + r.types.length) (c + 1) h3 ((step_most hs).trans hm) (by omega) (by rw [hl']; exact hcl.2) (fun r' hr' => hsm r' (by simp [hr'])) (fun a ha => (List.mem_append.1 ha).elim (hid a) (idsOf_rng h1 h2 a))
    refine ⟨ids', s'', ?_, ?_, ?_, e4⟩
    · refine (numF_at (step := stepD) (L := r :: L) (i := 0) rfl ids s).trans ?_
      rw [hs]
      exact e1
    · rw [e2, hl', hcnt]; omega
    · rw [hcnt, List.length_cons, show k + (r.types.length + cntT L) = k + r.types.length + cntT L by omega, show c + (L.length + 1) = c + 1 + L.length by omega]
      exact e3
/- The ids of a list alone. -/
def idsU (L : List RT) : List Int := ((numF stepD L [] U0).1).getD []
theorem idsU_eq {L : List RT} (hs : SmlL L) (hc : closedP 0 L = true) : ∃ s', numF stepD L [] U0 = (some (idsU L), s') ∧ (idsU L).length = cntT L ∧ GoodD s' (cntT L) L.length ∧ s'.most = 9223372036854775807 := by
  have h := hs.2.1
  obtain ⟨ids, s', e1, e2, e3, e4⟩ := num_yes L [] U0 0 0 good_U0 rfl (by omega) hc hs.2.2 (fun a ha => by cases ha)
  refine ⟨s', ?_, ?_, by simpa using e3, e4⟩
  · unfold idsU; rw [e1]; rfl
  · unfold idsU; rw [e1]; simpa using e2
abbrev Tab (w : World) : Prop := Lib.TabIs Tryz.prog w "internal/strconv.uint64pow10" .u64 Lib.pow10Tab
theorem Tab.grew {w w' : World} (h : Tab w) (g : Grew w w') : Tab w' := Lib.tabBelow_of_tabIs h w' g.1
/- The closure's own map and count. -/
def InvI (fb cb kb : Nat) (W : World) (s : Dr) (F : Nat → Prop) : Prop :=
  (∀ x, F x → x < W.heap.size) ∧ W.heap[fb]? = some (mobj kb) ∧ W.heap[cb]? = some (iobj s.count) ∧ MapF W kb s.groups.length s.f1 ∧ s.f0 = NOF ∧ s.most = 9223372036854775807 ∧ F fb ∧ F cb ∧ F kb
theorem InvI.keep {fb cb kb : Nat} {W W' : World} {s : Dr} {F : Nat → Prop} (h : InvI fb cb kb W s F) (hk : ∀ x, F x → W'.heap[x]? = W.heap[x]?) : InvI fb cb kb W' s F := by
  obtain ⟨hl, h1, h2, h3, h4, h5, f1, f2, f3⟩ := h
  refine ⟨fun x hx => ?_, (hk _ f1).trans h1, (hk _ f2).trans h2, h3.same (hk _ f3), h4, h5, f1, f2, f3⟩
  have h8 := hk x hx
  rw [Array.getElem?_eq_getElem (hl x hx)] at h8
  exact lt_of_obj h8
theorem placerI {fb cb kb : Nat} {w0 : World} (ht : Tab w0) : Placer fb cb w0 (InvI fb cb kb) GoodD stepD where
  lt := fun W s F x h hx => h.1 x hx
  keep := fun W W' s F h hk => h.keep hk
  good := fun s k c m n s' h ho hk hs => good_step h ho hk hs
  call := by
    intro W s F u m k c B hI hg hG hk hc hS hF hB hm hr htx
    have hI0 := hI
    obtain ⟨hl, h1, h2, h3, h4, h5, f1, f2, f3⟩ := hI
    have hu : ∃ a cc, u = .slice a m.length cc := by obtain ⟨a, cc, h, _⟩ := row_max hS.1; exact ⟨a, cc, h⟩
    have ct : ∀ w', Grew W w' → Calls Tryz.prog 155 #[.agg #[u, .bool false]] w' fun en w'' => ∃ s : ByteArray, en = .returned (.string s) ∧ s.data.toList = txt (m.map Prod.fst) ∧ Grew w' w'' := fun w' g =>
      txt_any ((hS.grew g).lst) (by rw [List.length_map]; exact hm) (fun x hx => by
        obtain ⟨y, hy, rfl⟩ := List.mem_map.1 hx
        exact hr y hy) (ht.grew (hg.trans g)) htx
    have e0 : s.f0 (txt (m.map Prod.fst)) = none := by rw [h4]; rfl
    cases e1 : s.f1 (txt (m.map Prod.fst)) with
    | some v =>
      refine (ids_known h1 h2 h3 e1 htx hu ct).mono ?_
      rintro en w' ⟨rfl, g⟩
      have es : stepD s (m.map Prod.fst) = some (v, s) := by unfold stepD; rw [e0]; simp only; rw [e1]
      refine ⟨g.turnP F, F, fun x hx => Or.inl hx, fun h => ?_, fun n s' h => ?_⟩
      · rw [es] at h; cases h
      · rw [es] at h
        simp only [Option.some.injEq, Prod.mk.injEq] at h
        obtain ⟨rfl, rfl⟩ := h
        exact ⟨rfl, hI0.keep (fun x hx => g.1.block x (hl x hx))⟩
    | none =>
      have hc0 := hG.c0
      have hc1 := hG.c1
      have hgl := hG.gl
      refine (ids_new h1 h2 h3 e1 hc0 (by omega) hm (by omega) htx hu ct).mono ?_
      rintro en w' ⟨rfl, a1, a2, a3, t⟩
      have es : stepD s (m.map Prod.fst) = some (s.count, ⟨s.f0, putF s.f1 (txt (m.map Prod.fst)) s.count, s.groups ++ [m.map Prod.fst], s.count + ((m.map Prod.fst).length : Int), s.most, s.base⟩) := by
        unfold stepD; rw [e0]; simp only; rw [e1]; simp only; rw [if_neg (by rw [List.length_map, h5]; omega)]
      have t' : TurnP F W w' := t.mono (fun x _ hx => by rcases hx with h | h <;> (rw [h]; assumption))
      refine ⟨t', F, fun x hx => Or.inl hx, fun h => ?_, fun n s' h => ?_⟩
      · rw [es] at h; cases h
      · rw [es] at h
        simp only [Option.some.injEq, Prod.mk.injEq] at h
        obtain ⟨rfl, rfl⟩ := h
        refine ⟨rfl, fun x hx => Nat.lt_of_lt_of_le (hl x hx) t.size, a1, ?_, ?_, h4, h5, f1, f2, f3⟩
        · simp only [List.length_map]; exact a2
        · simp only [List.length_append, List.length_cons, List.length_nil]; exact a3
theorem ids_any {w : World} {v : Value} {L : List RT} (ht : Tab w) (h : LR w v L) (hf : Fit L) (hc : closedP 0 L = true) :
    Calls Tryz.prog 150 #[v] w fun en w' => ∃ iv, en = .returned iv ∧ RowI w.heap.size w' iv (idsU L) ∧ (idsU L).length = cntT L ∧ Grew w w' := by
  obtain ⟨s', hn, hln, _⟩ := idsU_eq hf.sml hc
  have CN : Hid (∀ W fb cb kb F, Grew w W → InvI fb cb kb W U0 F → (∀ x, F x → w.heap.size ≤ x) → Calls Tryz.prog 153 #[v, .func (.func 154) #[] #[.pointer (some ⟨fb, 0, none⟩), .pointer (some ⟨cb, 0, none⟩)]] W fun en w' => ∃ iv, en = .returned (.tuple #[iv, .int .i64 0, .bool true]) ∧ RowI w.heap.size w' iv (idsU L) ∧ Grew w w') := fun W fb cb kb F g hI hF =>
    (numbers_any (placerI (fb := fb) (cb := cb) (kb := kb) ht) (fun W' t => h.grew (t.grew g hF)) hf hc g hI hF good_U0 (by decide) (by decide)).mono fun en w' ⟨t, F', hu, h1, _⟩ => by
      obtain ⟨iv, e, r, _⟩ := h1 _ _ hn
      exact ⟨iv, e, row_low r g.2, t.grew g hF⟩
  have hmm := @run_makeMap Tryz.prog
  obtain ⟨va, vc, ev, _⟩ := h.one
  subst ev
  have HL : Hid ((idsU L).length = cntT L) := hln
  clear h hf hc ht hn hln
  generalize L.length = N at *
  go_enter Tryz.func150, Tryz.ntmps150
  go_wp2_with fail
  have g0 : Grew w (((w.alloc (.map #[] 0)).alloc (.cells #[.map (some w.heap.size)] 207)).alloc (.cells #[.int .i64 0] 3)) := (((Grew.refl w).alloc _).alloc _).alloc _
  have e1 : (w.alloc (.map #[] 0)).heap.size = w.heap.size + 1 := alloc_size _ _
  have e2 : ((w.alloc (.map #[] 0)).alloc (.cells #[.map (some w.heap.size)] 207)).heap.size = w.heap.size + 1 + 1 := by rw [alloc_size, e1]
  have M0 : MapF (((w.alloc (.map #[] 0)).alloc (.cells #[.map (some w.heap.size)] 207)).alloc (.cells #[.int .i64 0] 3)) w.heap.size 0 NOF := (MapF.made w).grew (((Grew.refl _).alloc _).alloc _)
  have B1 : (((w.alloc (.map #[] 0)).alloc (.cells #[.map (some w.heap.size)] 207)).alloc (.cells #[.int .i64 0] 3)).heap[w.heap.size + 1]? = some (mobj w.heap.size) := by
    have := heap_alloc (heap_alloc_last (w.alloc (.map #[] 0)) (.cells #[.map (some w.heap.size)] 207)) (.cells #[.int .i64 0] 3)
    rw [e1] at this
    exact this
  have B2 : (((w.alloc (.map #[] 0)).alloc (.cells #[.map (some w.heap.size)] 207)).alloc (.cells #[.int .i64 0] 3)).heap[w.heap.size + 1 + 1]? = some (iobj 0) := by
    have := heap_alloc_last ((w.alloc (.map #[] 0)).alloc (.cells #[.map (some w.heap.size)] 207)) (.cells #[.int .i64 0] 3)
    rw [e2] at this
    exact this
  generalize (((w.alloc (.map #[] 0)).alloc (.cells #[.map (some w.heap.size)] 207)).alloc (.cells #[.int .i64 0] 3)) = W at *
  have I0 : InvI (w.heap.size + 1) (w.heap.size + 1 + 1) w.heap.size W U0 (fun x => x = w.heap.size + 1 ∨ x = w.heap.size + 1 + 1 ∨ x = w.heap.size) := by
    refine ⟨fun x hx => ?_, B1, B2, M0, rfl, rfl, Or.inl rfl, Or.inr (Or.inl rfl), Or.inr (Or.inr rfl)⟩
    rcases hx with rfl | rfl | rfl
    · exact lt_of_obj B1
    · exact lt_of_obj B2
    · exact M0.lt
  refine (CN.out W _ _ _ _ g0 I0 (fun x hx => by rcases hx with rfl | rfl | rfl <;> omega)).mono ?_
  rintro en w1 ⟨iv, rfl, hr, g1⟩
  obtain ⟨ia, ic, ei, _⟩ := row_max hr
  subst ei
  have HR : Hid (RowI w.heap.size w1 (.slice ia (idsU L).length ic) (idsU L)) := hr
  have G1 : Hid (Grew w w1) := g1
  clear hr g1 CN I0 M0 B1 B2 e1 e2 hmm
  go_wp2_with fail
  go_ret
  exact ⟨_, rfl, HR.out, HL.out, G1.out⟩
def pc (p : Nat × Nat) : List Value := [.pointer (some ⟨p.1, p.2, none⟩)]
/- A row of pointers to these types. -/
def PtS (B : Nat) (w0 w : World) (v : Value) (l : List SB) : Prop := ∃ ps : List (Nat × Nat), ps.length = l.length ∧ w.ownsRow B 109 1 v l.length (ps.flatMap pc) ∧ ∀ (i : Nat) (p : Nat × Nat) (x : SB), ps[i]? = some p → l[i]? = some x → ES w0 p.1 p.2 x
def flatT (L : List RT) : List SB := L.flatMap RT.types
def oobj (v tv iv : Value) : Obj := .cells #[v, tv, iv] 193 (0, 0)
/- An append of one element inside a region that draws, and where it then lies. -/
theorem step_app1a {ops : Array Oper} {o : Oper} {a : Act} {w : World} {K : Act → World → Prop} {Q : Exit → Act → World → Prop} {E : Prop} (hgd : o.guard = none) (s x : Operand) (t e : TypeId) (k bytes : Nat) (z : Value)
    (hu : Tryz.prog.underlying t = some (.slice e)) (hi : (Tryz.prog.info? e).map (fun i => (i.zero, i.size, i.bytes)) = some (some z, k, bytes)) (hz : z.cells.size = k) (hk : 0 < k) (hbt : bytes ≤ 1000)
    (ho : o.op = .call { callee := .builtin .append, args := #[s, x], argTypes := #[t, t] }) {B : Nat} {v : Value} {n : Nat} {cs new : List Value} {gx cp : Nat}
    (hs : a.eval s = v) (hx : a.eval x = .slice (some ⟨gx, 0, none⟩) 1 cp) (hh : w.ownsRow B e k v n cs) (hB : B ≤ w.heap.size) (hsz : new.length = k) (hc : ∀ j, j < k → w.cell? ⟨gx, j, none⟩ = new[j]?) (h1 : ∀ u ∈ new, u.oneCell' = true) (hn : n ≤ 4194304)
    (h : ∀ v' w', w'.ownsRow B e k v' (n + 1) (cs ++ new) → TurnP (fun g => v.ownBlock = some g) w w' → (v'.ownBlock = v.ownBlock ∨ ∃ g, v'.ownBlock = some g ∧ w.heap.size ≤ g) → K (a.put o.dst v') w') :
    if Region.wanted o (yielded ops a.tmps) = true then Oper.wp Tryz.prog o a w K Q else E := by
  have hw : Region.wanted o (yielded ops a.tmps) = true := by simp [Region.wanted, hgd]
  rw [if_pos hw]
  obtain ⟨i0, hi0, hz0, hz1, hz2⟩ := info_parts hi
  obtain ⟨v', w', hr, h2, h3, h4, h5⟩ := run_append_own_at (P := Tryz.prog) w B t o.type e i0 z k bytes hu hi0 hz0 hz1 hz2 hz hk v n cs hh ⟨gx, 0, none⟩ 1 cp new (by omega) (by
    intro j u hj
    have hjl := (List.getElem?_eq_some_iff.1 hj).1
    have e1 : (Addr.add ⟨gx, 0, none⟩ j) = ⟨gx, j, none⟩ := by unfold Addr.add; split <;> simp_all
    rw [e1, hc j (by omega)]
    exact hj) h1 (by unfold maxLen; omega) (by
    have : (n + 1) * bytes ≤ 4194305 * 1000 := Nat.mul_le_mul (by omega) hbt
    omega) hB
  unfold Oper.wp execOp
  simp only [ho, resolve, invoke, builtin, Sem.run_bind, Sem.run_pure, Result.andThen_ok, List.map_toArray, List.map_cons, List.map_nil, hs, hx, hr]
  exact h v' w' h2 ⟨h3.os, h3.tape, h3.output, h3.size, fun y hy hne => h3.block y hy (fun hx => hne hx.symm)⟩ (h5.imp id (fun e => ⟨_, e, Nat.le_refl _⟩))
theorem flat_cnt : ∀ L : List RT, (flatT L).length = cntT L
  | [] => rfl
  | r :: L => by
    have h := flat_cnt L
    unfold flatT at h ⊢
    rw [List.flatMap_cons, List.length_append, h]
    rfl
theorem infoP : (Tryz.prog.info? 109).map (fun i => (i.zero, i.size, i.bytes)) = some (some (.pointer none), 1, 8) := by kernel_rfl
theorem newOrder_any {w : World} {v : Value} {L : List RT} (h : LR w v L) (hf : Fit L) :
    Calls Tryz.prog 129 #[v] w fun en w' => ∃ ob tv, en = .returned (.pointer (some ⟨ob, 0, none⟩)) ∧ w.heap.size ≤ ob ∧ w'.heap[ob]? = some (oobj v tv NILS) ∧ PtS w.heap.size w w' tv (flatT L) ∧ Grew w w' := by
  have CC : Hid (∀ W, Grew w W → Calls Tryz.prog 121 #[v] W fun en w' => en = .returned (.int .i64 (cntT L : Int)) ∧ Grew W w') := fun W g => count_any (h.grew g) hf.sml.1 hf.sml.2.1
  have hc := hf.sml.2.1
  have hL1 := hf.sml.1
  have H : Hid (LR w v L) := h
  have HF : Hid (Fit L) := hf
  obtain ⟨va, vc, ev, _⟩ := h.one
  subst ev
  clear h hf
  go_enter Tryz.func129, Tryz.ntmps129
  go_wp2_with fail
  refine (CC.out w (Grew.refl w)).mono ?_
  rintro en w1 ⟨rfl, g1⟩
  have G1 : Hid (Grew w w1) := g1
  clear g1 CC
  obtain ⟨i0, hi0, hz0, hz1, hz2⟩ := info_parts infoP
  go_wp2_with (at_make; refine wpList_make_own _ rfl _ _ 191 rfl w.heap.size 109 i0 (.pointer none) 1 Tryz.underlying191 hi0 hz0 hz1 .i64 .i64 _ (cntT L) rfl rfl rfl (by rw [hz2]; omega) (by unfold maxLen; omega) G1.out.2 ?_; intro w2 hO2 hg2)
  have B3 : (w2.alloc (.cells #[.slice va L.length vc, .slice (some ⟨w1.heap.size, 0, none⟩) 0 (cntT L), NILS] 193)).heap[w2.heap.size]? = some (oobj (.slice va L.length vc) (.slice (some ⟨w1.heap.size, 0, none⟩) 0 (cntT L)) NILS) := heap_alloc_last _ _
  have g2 : Grew w1 w2 := ⟨⟨hg2.os, hg2.tape, hg2.output, hg2.size, fun k hk => hg2.block k hk (fun e => by cases e)⟩, hg2.size⟩
  have g3 : Grew w2 (w2.alloc (.cells #[.slice va L.length vc, .slice (some ⟨w1.heap.size, 0, none⟩) 0 (cntT L), NILS] 193)) := (Grew.refl w2).alloc _
  have R3 : Hid (PtS w.heap.size w (w2.alloc (.cells #[.slice va L.length vc, .slice (some ⟨w1.heap.size, 0, none⟩) 0 (cntT L), NILS] 193)) (.slice (some ⟨w1.heap.size, 0, none⟩) 0 (cntT L)) (flatT (L.take 0))) := ⟨[], rfl, row_grew hO2 g3, fun i p x h => by cases h⟩
  generalize hW3 : (w2.alloc (.cells #[.slice va L.length vc, .slice (some ⟨w1.heap.size, 0, none⟩) 0 (cntT L), NILS] 193)) = w3 at *
  have G3 : Hid (Grew w w3) := (G1.out.trans g2).trans g3
  have hob : w.heap.size ≤ w2.heap.size := Nat.le_trans G1.out.2 g2.2
  have HB3 : Hid (w3.heap[w2.heap.size]? = some (oobj (.slice va L.length vc) (.slice (some ⟨w1.heap.size, 0, none⟩) 0 (cntT L)) NILS)) := B3
  clear hW3 B3 g2 g3 hO2 hg2 hi0 hz0 hz1 hz2
  generalize w2.heap.size = ob at *
  generalize (Value.slice (some ⟨w1.heap.size, 0, none⟩) 0 (cntT L)) = tv0 at *
  go_loopw [15] (fun i_ w' => ∃ (i : Nat) (tv : Value), i_ = .int .i64 i ∧ i ≤ L.length ∧ Hid (w'.heap[ob]? = some (oobj (.slice va L.length vc) tv NILS)) ∧ Hid (PtS w.heap.size w w' tv (flatT (L.take i))) ∧ Hid (Grew w w')) (fun i_ _ => L.length - (intOf i_).toNat)
  case atStart => exact ⟨0, tv0, rfl, Nat.zero_le _, HB3, R3, G3⟩
  case round =>
    clear HB3 R3 G3
    obtain ⟨i, tv, rfl, hi, HB, HR, HG⟩ := hrel
    obtain ⟨w4, hw4⟩ : ∃ w4, w4 = wr := ⟨_, rfl⟩
    rw [← hw4] at HB HR HG ⊢
    clear hw4
    by_cases hlt : i < L.length
    · obtain ⟨r, hr⟩ : ∃ r, L[i]? = some r := ⟨_, List.getElem?_eq_getElem hlt⟩
      obtain ⟨b, off, ha, hcp, hE⟩ := H.out.get (by omega)
      subst ha
      obtain ⟨ty, hty, c0, c1⟩ := hE i r hr
      obtain ⟨ta, tc, et, htc, _⟩ := hty.one
      subst et
      have d1 : decide ((i : Int) < (L.length : Int)) = true := by simp; omega
      have d2 : decide (i < L.length) = true := by simp; omega
      have c0' := cell_grew c0 HG.out
      have c1' := cell_grew c1 HG.out
      have hcc := cntT_take L (i + 1)
      rw [cntT_snoc hr] at hcc
      have HLS : Hid (LS w (.slice ta r.types.length tc) r.types) := hty
      have HFL : Hid (flatT (L.take (i + 1)) = flatT (L.take i) ++ r.types) := (by unfold flatT; rw [take_snoc hr, List.flatMap_append]; simp : flatT (L.take (i + 1)) = flatT (L.take i) ++ r.types)
      have HFC : Hid ((flatT (L.take i)).length = cntT (L.take i)) := flat_cnt _
      clear hE c0 c1 hty
      go_wp2_with fail
      have g5 : Grew w4 (w4.alloc (.cells #[.slice ta r.types.length tc, .bool r.explicit] 102)) := (Grew.refl w4).alloc _
      have R5 : Hid ((w4.alloc (.cells #[.slice ta r.types.length tc, .bool r.explicit] 102)).heap[w4.heap.size]? = some (.cells #[.slice ta r.types.length tc, .bool r.explicit] 102 (0, 0))) := heap_alloc_last _ _
      generalize (w4.alloc (.cells #[.slice ta r.types.length tc, .bool r.explicit] 102)) = w5 at *
      have hwb := HG.out.2
      have HB5 : Hid (w5.heap[ob]? = some (oobj (.slice (some ⟨b, off, none⟩) L.length vc) tv NILS)) := g5.other HB.out
      have HR5 : Hid (PtS w.heap.size w w5 tv (flatT (L.take i) ++ r.types.take 0)) := by
        obtain ⟨ps, h1, h2, h3⟩ := HR.out
        rw [List.take_zero, List.append_nil]
        exact ⟨ps, h1, row_grew h2 g5, h3⟩
      have HG5 : Hid (Grew w w5) := HG.out.trans g5
      clear g5 HB HR HG c0' c1'
      generalize w4.heap.size = rb at *
      generalize hX : flatT (L.take i) = X at *
      go_loopw [22] (fun j_ w' => ∃ (j : Nat) (tv : Value), j_ = .int .i64 j ∧ j ≤ r.types.length ∧ Hid (w'.heap[ob]? = some (oobj (.slice (some ⟨b, off, none⟩) L.length vc) tv NILS)) ∧ Hid (w'.heap[rb]? = some (.cells #[.slice ta r.types.length tc, .bool r.explicit] 102 (0, 0))) ∧ Hid (PtS w.heap.size w w' tv (X ++ r.types.take j)) ∧ Hid (Grew w w')) (fun j_ _ => r.types.length - (intOf j_).toNat)
      case atStart => exact ⟨0, tv, rfl, Nat.zero_le _, HB5, R5, HR5, HG5⟩
      case round =>
        clear HB5 R5 HR5 HG5
        obtain ⟨j, tv, rfl, hj, HB, HBR, HR, HG⟩ := hrel
        obtain ⟨w6, hw6⟩ : ∃ w6, w6 = wr := ⟨_, rfl⟩
        rw [← hw6] at HB HBR HR HG ⊢
        clear hw6
        by_cases hjl : j < r.types.length
        · obtain ⟨x, hx⟩ : ∃ x, r.types[j]? = some x := ⟨_, List.getElem?_eq_getElem hjl⟩
          obtain ⟨tb, to, hta, htcp, hTE⟩ := HLS.out.get (by omega)
          subst hta
          have HES : Hid (ES w tb (to + j * 6) x) := hTE j x hx
          obtain ⟨ps, h1, h2, h3⟩ := HR.out
          have hlen : (X ++ r.types.take j).length = X.length + j := by rw [List.length_append, List.length_take]; omega
          rw [hlen] at h1 h2
          obtain ⟨pa, pcp, epv, _⟩ := row_max h2
          subst epv
          have e1 : decide ((j : Int) < (r.types.length : Int)) = true := by simp; omega
          have e2 : decide (j < r.types.length) = true := by simp; omega
          have hjm : ((j : Nat) : Int) < (r.types.length : Int) := by omega
          have HPL : Hid (ps.length = X.length + j) := h1
          have HPR : Hid (w6.ownsRow w.heap.size 109 1 (.slice pa (X.length + j) pcp) (X.length + j) (ps.flatMap pc)) := h2
          have HPE : Hid (∀ (i : Nat) (p : Nat × Nat) (x : SB), ps[i]? = some p → (X ++ r.types.take j)[i]? = some x → ES w p.1 p.2 x) := h3
          have a0 := cell_of HB.out 0
          have a1 := cell_of HB.out 1
          have a2 := cell_of HB.out 2
          have z1 := free_of HB.out 1
          have r0 := cell_of HBR.out 0
          have r1 := cell_of HBR.out 1
          simp at a0 a1 a2 r0 r1
          have lo := lt_of_obj HB.out
          have lr := lt_of_obj HBR.out
          have hXb : X.length + j ≤ 1048576 := by rw [HFC.out]; omega
          clear h1 h2 h3 hTE hlen
          generalize hK : X.length + j = K at *
          go_wp2_with fail
          have hrb : rb < w6.heap.size := lr
          have hwo : w.heap.size ≤ w6.heap.size := HG.out.2
          go_region_law (first
            | (refine step_app1a (v := .slice pa K pcp) (n := K) (cs := ps.flatMap pc) (B := w.heap.size) (new := [.pointer (some ⟨tb, to + j * 6, none⟩)]) (gx := w6.heap.size) rfl _ _ 191 109 1 8 _ Tryz.underlying191 infoP rfl (by decide) (by decide) rfl rfl rfl (row_grew HPR.out (by first | exact ((Grew.refl w6).alloc _).drew | exact ((Grew.refl w6).drew).alloc _ | exact (Grew.refl w6).alloc _)) (by simp; omega) rfl ?_ (by simp [Value.oneCell']) (by omega) ?_
               · intro j' hj'
                 first | exact cell_of (heap_alloc_last w6 _) j' | exact cell_of (heap_alloc_last w6.drew _) j' | (simp; done)
               intro v7 w7 hO7 hT7 hL7
               obtain ⟨a7, q7, ev7, _⟩ := row_max hO7
               subst ev7
               have hz7 : w6.heap.size ≤ w7.heap.size := by have := hT7.size; simp at this; omega
               have hpo : ∀ g, (Value.slice pa K pcp).ownBlock = some g → w.heap.size ≤ g ∧ g ≠ ob := fun g hg => by
                 refine ⟨(HPR.out.lt g hg).1, fun e => ?_⟩
                 obtain ⟨cur, hcur⟩ := row_tag HPR.out hg
                 rw [e, HB.out] at hcur
                 unfold oobj at hcur
                 injection hcur with hcur
                 injection hcur with _ hcur _
                 revert hcur; decide
               have hpr : ∀ g, (Value.slice pa K pcp).ownBlock = some g → g ≠ rb := fun g hg e => by
                 obtain ⟨cur, hcur⟩ := row_tag HPR.out hg
                 rw [e, HBR.out] at hcur
                 injection hcur with hcur
                 injection hcur with _ hcur _
                 revert hcur; decide
               have k7 : ∀ x, x < w6.heap.size → (Value.slice pa K pcp).ownBlock ≠ some x → w7.heap[x]? = w6.heap[x]? := fun x hx hne => (hT7.block x (by simp; omega) hne).trans (Below.heap_alloc _ _ _ hx)
               have D7 : w7.heap[ob]? = some (oobj (.slice (some ⟨b, off, none⟩) L.length vc) (.slice pa K pcp) NILS) := (k7 ob lo (fun e => (hpo ob e).2 rfl)).trans HB.out
               have E7 : w7.heap[rb]? = some (.cells #[.slice (some ⟨tb, to, none⟩) r.types.length tc, .bool r.explicit] 102 (0, 0)) := (k7 rb lr (fun e => hpr rb e rfl)).trans HBR.out
               have f0 := cell_of D7 0
               have f1 := cell_of D7 1
               have f2 := cell_of D7 2
               have y1 := free_of D7 1
               have s0 := cell_of E7 0
               have s1 := cell_of E7 1
               simp at f0 f1 f2 s0 s1
               have HD7 : Hid (w7.heap[ob]? = some (oobj (.slice (some ⟨b, off, none⟩) L.length vc) (.slice pa K pcp) NILS)) := D7
               have HE7 : Hid (w7.heap[rb]? = some (.cells #[.slice (some ⟨tb, to, none⟩) r.types.length tc, .bool r.explicit] 102 (0, 0))) := E7
               have HO7 : Hid (w7.ownsRow w.heap.size 109 1 (.slice a7 (K + 1) q7) (K + 1) (ps.flatMap pc ++ [.pointer (some ⟨tb, to + j * 6, none⟩)])) := hO7
               have HG7 : Hid (Grew w w7) := ⟨⟨hT7.os.trans HG.out.1.os, hT7.tape.trans HG.out.1.tape, hT7.output.trans HG.out.1.output, by omega, fun x hx => (k7 x (by omega) (fun e => by have := (hpo x e).1; omega)).trans (HG.out.1.block x hx)⟩, by omega⟩
               have lo7 := lt_of_obj D7
               have lr7 := lt_of_obj E7
               clear hO7 hT7 hL7 k7 D7 E7 hpo hpr))
          all_goals go_wp2_with fail
          all_goals
            have hro : rb ≠ ob := fun e => by
              have h := HE7.out
              rw [e, HD7.out] at h
              unfold oobj at h
              injection h with h
              injection h with _ h _
              revert h; decide
            have kp : ∀ x, x ≠ ob → (w7.setCell ⟨ob, 1, none⟩ (.slice a7 (K + 1) q7)).heap[x]? = w7.heap[x]? := fun x hx => Below.heap_setCell _ _ _ _ hx
            have hX1 : X ++ r.types.take (j + 1) = (X ++ r.types.take j) ++ [x] := by rw [take_snoc hx, List.append_assoc]
            have hln : (X ++ r.types.take j).length = K := by rw [← hK, List.length_append, List.length_take]; omega
            refine ⟨⟨j + 1, .slice a7 (K + 1) q7, by go_num, by omega, heap_set HD7.out 1 _, (kp rb hro).trans HE7.out, ?_, ((TurnP.refl (fun x => x = ob) w7).set (p := ⟨ob, 1, none⟩) rfl _).grew HG7.out (fun x hx => by rw [hx]; exact hob)⟩, by simp [intOf]; omega⟩
            have hpts : PtS w.heap.size w (w7.setCell ⟨ob, 1, none⟩ (.slice a7 (K + 1) q7)) (.slice a7 (K + 1) q7) (X ++ r.types.take (j + 1)) := by
              rw [hX1]
              refine ⟨ps ++ [(tb, to + j * 6)], ?_, ?_, fun i' p' x' h1 h2 => ?_⟩
              · rw [List.length_append, List.length_append, HPL.out, hln]; rfl
              · rw [List.length_append, hln, List.flatMap_append]
                have hr7 := row_same HO7.out (fun g hg => kp g (fun e => by
                  obtain ⟨cur, hcur⟩ := row_tag HO7.out hg
                  rw [e, HD7.out] at hcur
                  unfold oobj at hcur
                  injection hcur with hcur
                  injection hcur with _ hcur _
                  revert hcur; decide))
                exact hr7
              · by_cases hi' : i' < K
                · rw [List.getElem?_append_left (by rw [HPL.out]; exact hi')] at h1
                  rw [List.getElem?_append_left (by rw [hln]; exact hi')] at h2
                  exact HPE.out i' p' x' h1 h2
                · have hi2 := (List.getElem?_eq_some_iff.1 h1).1
                  rw [List.length_append, HPL.out] at hi2
                  have hi3 : i' = K := by simp at hi2; omega
                  rw [List.getElem?_append_right (by rw [HPL.out]; omega), HPL.out, hi3, Nat.sub_self] at h1
                  rw [List.getElem?_append_right (by rw [hln]; omega), hln, hi3, Nat.sub_self] at h2
                  simp only [List.getElem?_cons_zero, Option.some.injEq] at h1 h2
                  subst h1 h2
                  exact HES.out
            exact hpts
        · have e1 : decide ((j : Int) < (r.types.length : Int)) = false := by simp; omega
          have htj : r.types.take j = r.types := List.take_of_length_le (by omega)
          have HR' : Hid (PtS w.heap.size w w6 tv (flatT (L.take (i + 1)))) := by have := HR.out; rw [htj] at this; rw [HFL.out]; exact this
          go_wp2_with fail
          go_roundw
          case rel => exact ⟨i + 1, tv, by go_num, by omega, HB, HR', HG⟩
          case measure => simp [intOf]; omega
    · have d1 : decide ((i : Int) < (L.length : Int)) = false := by simp; omega
      have htk : L.take i = L := List.take_of_length_le (by omega)
      have HR' : Hid (PtS w.heap.size w w4 tv (flatT L)) := by have := HR.out; rw [htk] at this; exact this
      go_wp2_with fail
      go_ret
      exact ⟨ob, tv, rfl, hob, HB.out, HR'.out, HG.out⟩
end Go.Proofs.YtnmbniojejckpaaGreatDoor
