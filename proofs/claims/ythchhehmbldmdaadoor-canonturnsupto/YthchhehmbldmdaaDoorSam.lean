/-
  The program's Same; no statement is proved here.
-/
import Derived.Test.YthchhehmbldmdaaDoorDfW
namespace Go.Proofs.YthchhehmbldmdaaDoor
open Go.RowKit
set_option linter.unusedVariables false
set_option linter.unusedSimpArgs false

def U0 : Dr := ⟨NOF, NOF, [], 0, 9223372036854775807, 0⟩
theorem good_U0 : GoodD U0 0 0 := ⟨by simp [U0], by simp [U0], by simp [U0], by simp [U0], by simp [U0], by simp [U0], (fun m hm => by cases hm), by simp [U0], fun m v h => by rcases h with h | h <;> simp [U0, NOF] at h⟩
theorem step_most {s : Dr} {m : List SB} {n : Int} {s' : Dr} (h : stepD s m = some (n, s')) : s'.most = s.most := by
  unfold stepD at h
  split at h
  · simp only [Option.some.injEq, Prod.mk.injEq] at h; rw [h.2]
  · split at h
    · simp only [Option.some.injEq, Prod.mk.injEq] at h; rw [h.2]
    · split at h
      · cases h
      · simp only [Option.some.injEq, Prod.mk.injEq] at h; rw [← h.2]
theorem step_rest {s : Dr} {m : List SB} {n : Int} {s' : Dr} (h : stepD s m = some (n, s')) : s'.most = s.most ∧ s'.base = s.base ∧ s'.f0 = s.f0 := by
  unfold stepD at h
  split at h
  · simp only [Option.some.injEq, Prod.mk.injEq] at h; rw [h.2]; exact ⟨rfl, rfl, rfl⟩
  · split at h
    · simp only [Option.some.injEq, Prod.mk.injEq] at h; rw [h.2]; exact ⟨rfl, rfl, rfl⟩
    · split at h
      · cases h
      · simp only [Option.some.injEq, Prod.mk.injEq] at h; rw [← h.2]; exact ⟨rfl, rfl, rfl⟩
theorem num_rest : ∀ (L : List RT) (ids : List Int) (s : Dr) (r : Option (List Int)) (s' : Dr), numF stepD L ids s = (r, s') → s'.most = s.most ∧ s'.base = s.base ∧ s'.f0 = s.f0
  | [], ids, s, r, s', h => by
    obtain ⟨_, rfl⟩ := Prod.mk.inj h
    exact ⟨rfl, rfl, rfl⟩
  | x :: L, ids, s, r, s', h => by
    have h0 := (numF_at (step := stepD) (L := x :: L) (i := 0) rfl ids s).symm.trans h
    cases hs : stepD s (x.types.map (SB.sw (toldN ids))) with
    | none =>
      rw [hs] at h0
      obtain ⟨_, rfl⟩ := Prod.mk.inj h0
      exact ⟨rfl, rfl, rfl⟩
    | some p =>
      obtain ⟨n, s1⟩ := p
      rw [hs] at h0
      obtain ⟨a, b, c⟩ := num_rest L _ s1 r s' h0
      obtain ⟨a', b', c'⟩ := step_rest hs
      exact ⟨a.trans a', b.trans b', c.trans c'⟩
theorem step_yes {s : Dr} {m : List SB} (hb : (m.length : Int) ≤ s.most - s.count) : ∃ n s', stepD s m = some (n, s') := by
  unfold stepD
  split
  · exact ⟨_, _, rfl⟩
  · split
    · exact ⟨_, _, rfl⟩
    · rw [if_neg (by omega)]; exact ⟨_, _, rfl⟩
theorem num_yes : ∀ (L : List RT) (ids : List Int) (s : Dr) (k c : Nat), GoodD s k c → s.most = 9223372036854775807 → k + cntT L ≤ 2097152 → closedP ids.length L = true → (∀ r ∈ L, ∀ x ∈ r.types, Sml x) → (∀ a ∈ ids, 0 ≤ a ∧ a ≤ 4194304) → ∃ ids' s', numF stepD L ids s = (some ids', s') ∧ ids'.length = ids.length + cntT L ∧ GoodD s' (k + cntT L) (c + L.length) ∧ s'.most = 9223372036854775807
  | [], ids, s, k, c, h, hm, hk, _, _, _ => ⟨ids, s, rfl, by simp [cntT], by simpa [cntT] using h, hm⟩
  | r :: L, ids, s, k, c, h, hm, hk, hcl, hsm, hid => by
    have hcnt : cntT (r :: L) = r.types.length + cntT L := rfl
    rw [hcnt] at hk
    unfold closedP at hcl
    rw [Bool.and_eq_true] at hcl
    have hc1 := h.c1
    obtain ⟨n, s', hs⟩ := step_yes (s := s) (m := r.types.map (SB.sw (toldN ids))) (by rw [List.length_map]; omega)
    obtain ⟨h1, h2, h3⟩ := good_step h (ok_sw hid (hsm r (by simp)) (fun x hx => List.all_eq_true.1 hcl.1 x hx)) (by rw [List.length_map]; omega) hs
    rw [List.length_map] at h2 h3
    have hl' : (ids ++ idsOf n r.types.length).length = ids.length + r.types.length := by rw [List.length_append, idsOf_len]
    obtain ⟨ids', s'', e1, e2, e3, e4⟩ := num_yes L (ids ++ idsOf n r.types.length) s' (k + r.types.length) (c + 1) h3 ((step_most hs).trans hm) (by omega) (by rw [hl']; exact hcl.2) (fun r' hr' => hsm r' (by simp [hr'])) (fun a ha => (List.mem_append.1 ha).elim (hid a) (idsOf_rng h1 h2 a))
    refine ⟨ids', s'', ?_, ?_, ?_, e4⟩
    · refine (numF_at (step := stepD) (L := r :: L) (i := 0) rfl ids s).trans ?_
      rw [hs]
      exact e1
    · rw [e2, hl', hcnt]; omega
    · rw [hcnt, List.length_cons, show k + (r.types.length + cntT L) = k + r.types.length + cntT L by omega, show c + (L.length + 1) = c + 1 + L.length by omega]
      exact e3
/- The ids of a list alone. -/
def idsU (L : List RT) : List Int := ((numF stepD L [] U0).1).getD []
theorem idsU_eq {L : List RT} (hs : SmlL L) (hc : closedP 0 L = true) : ∃ s', numF stepD L [] U0 = (some (idsU L), s') ∧ (idsU L).length = cntT L ∧ GoodD s' (cntT L) L.length ∧ s'.most = 9223372036854775807 := by
  have h := hs.2.1
  obtain ⟨ids, s', e1, e2, e3, e4⟩ := num_yes L [] U0 0 0 good_U0 rfl (by omega) hc hs.2.2 (fun a ha => by cases ha)
  refine ⟨s', ?_, ?_, by simpa using e3, e4⟩
  · unfold idsU; rw [e1]; rfl
  · unfold idsU; rw [e1]; simpa using e2
set_option maxRecDepth 100000 in
theorem newUnbounded_any (w : World) : Calls Tryd.prog 21 #[] w fun en w' => ∃ db kb F, en = .returned (.pointer (some ⟨db, 0, none⟩)) ∧ InvD db kb 0 w' U0 F ∧ (∀ x, F x → w.heap.size ≤ x) ∧ Grew w w' := by
  have CC : Hid (∀ W, Calls Tryd.prog 23 #[] W fun en w' => ∃ b, en = .returned (.agg #[.map (some b)]) ∧ W.heap.size ≤ b ∧ MapF w' b 0 NOF ∧ Grew W w') := newCatalog_any
  have CD : Hid (∀ W kb, Calls Tryd.prog 25 #[.agg #[.map (some kb)], .int .i64 0, .int .i64 9223372036854775807] W fun en w' => ∃ db fb, en = .returned (.pointer (some ⟨db, 0, none⟩)) ∧ W.heap.size ≤ db ∧ W.heap.size ≤ fb ∧ w'.heap[db]? = some (dobj kb fb NILS 0 9223372036854775807) ∧ MapF w' fb 0 NOF ∧ Grew W w') := fun W kb => newDraft_any
  go_enter Tryd.func21, Tryd.ntmps21
  go_wp2_with fail
  refine (CC.out _).mono ?_
  rintro en w1 ⟨kb, rfl, hkb, hM1, g1⟩
  have M1 : Hid (MapF w1 kb 0 NOF) := hM1
  have G1 : Hid (Grew w w1) := g1
  clear hM1 g1
  go_wp2_with fail
  refine (CD.out _ _).mono ?_
  rintro en w2 ⟨db, fb, rfl, hdb, hfb, hd2, hM2, g2⟩
  have I2 : Hid (InvD db kb 0 w2 U0 (fun x => x = db ∨ x = kb ∨ x = fb)) := by
    have hk1 := M1.out.lt
    refine ⟨fun x hx => ?_, fb, NILS, [], hd2, M1.out.grew g2, hM2, by omega, World.ownsRow_nil _ _ _ _, rfl, (fun g hg => by cases hg), Or.inl rfl, Or.inr (Or.inl rfl), Or.inr (Or.inr rfl), (fun g hg => by cases hg), (fun g hg => by cases hg)⟩
    have := g2.2
    rcases hx with rfl | rfl | rfl
    · exact lt_of_obj hd2
    · omega
    · exact hM2.lt
  have G2 : Hid (Grew w w2) := G1.out.trans g2
  have hs1 := G1.out.2
  clear hd2 hM2 g2 M1
  go_wp2_with fail
  go_ret
  exact ⟨db, kb, _, rfl, I2.out, fun x hx => by rcases hx with rfl | rfl | rfl <;> omega, G2.out⟩
/- What is left behind the numbering of a list. -/
structure Num' (db kb nk : Nat) (w w' : World) (F F' : Nat → Prop) (s' : Dr) : Prop where
  turn : TurnP F w w'
  up : ∀ x, F' x → F x ∨ w.heap.size ≤ x
  inv : InvD db kb nk w' s' F'
set_option maxRecDepth 100000 in
set_option maxHeartbeats 1000000 in
theorem numberD_yes {db kb nk : Nat} {w0 w : World} {v : Value} {L : List RT} {s s' : Dr} {F : Nat → Prop} {ids : List Int} (ht : Tab w0) (hv : ∀ W, TurnP F w W → LR W v L) (hfit : Fit L) (hcl : closedP 0 L = true) (hg : Grew w0 w) (hI : InvD db kb nk w s F) (hF : ∀ x, F x → w0.heap.size ≤ x) {k0 c0 : Nat} (hG : GoodD s k0 c0) (hk0 : k0 ≤ 1048576) (hc0 : c0 ≤ 1048576) (hn : numF stepD L [] s = (some ids, s')) :
    Calls Tryd.prog 27 #[.pointer (some ⟨db, 0, none⟩), v] w fun en w' => ∃ iv F', en = .returned (.tuple #[iv, .int .i64 0, .bool true]) ∧ RowI w.heap.size w' iv ids ∧ (∀ g, iv.ownBlock = some g → ¬ F' g) ∧ Num' db kb nk w w' F F' s' ∧ GoodD s' (k0 + cntT L) (c0 + L.length) := by
  have C : Hid (Calls Tryd.prog 40 #[v, .func (.func 41) #[.pointer (some ⟨db, 0, none⟩)] #[]] w fun en w' => ∃ iv F', en = .returned (.tuple #[iv, .int .i64 0, .bool true]) ∧ RowI w.heap.size w' iv ids ∧ (∀ g, iv.ownBlock = some g → ¬ F' g) ∧ Num' db kb nk w w' F F' s' ∧ GoodD s' (k0 + cntT L) (c0 + L.length)) :=
    (numbers_any (placerD (db := db) (kb := kb) (nk := nk) ht) hv hfit hcl hg hI hF hG hk0 hc0).mono fun en w' ⟨t, F', hu, h1, _⟩ => by
      obtain ⟨iv, e, r, o, i, g⟩ := h1 ids s' hn
      exact ⟨iv, F', e, r, o, ⟨t, hu, i⟩, g⟩
  obtain ⟨va, vc, ev, _⟩ := (hv w (TurnP.refl _ _)).one
  subst ev
  have hmf : ∀ (fn : Fn) (first cap : Array Value) (w : World), (Instr.makeFunc fn first cap).run Tryd.prog w = .ok (.func fn first cap) w := fun _ _ _ _ => rfl
  clear hfit hcl hI hG hF hv hg ht hn hk0 hc0
  generalize L.length = n at *
  go_enter Tryd.func27, Tryd.ntmps27
  go_wp2_with fail
  refine C.out.mono ?_
  rintro en w1 ⟨iv, F', rfl, hr, ho, hN, hG⟩
  obtain ⟨ia, ic, hi, _⟩ := row_max hr
  subst hi
  have HX : Hid (RowI w.heap.size w1 (.slice ia ids.length ic) ids ∧ (∀ g, (Value.slice ia ids.length ic).ownBlock = some g → ¬ F' g) ∧ Num' db kb nk w w1 F F' s' ∧ GoodD s' (k0 + cntT L) (c0 + n)) := ⟨hr, ho, hN, hG⟩
  clear C hr ho hN hG
  go_wp2_with fail
  go_ret3
  exact ⟨_, F', rfl, HX.out⟩
set_option maxRecDepth 100000 in
set_option maxHeartbeats 1000000 in
theorem numberD_no {db kb nk : Nat} {w0 w : World} {v : Value} {L : List RT} {s s' : Dr} {F : Nat → Prop} (ht : Tab w0) (hv : ∀ W, TurnP F w W → LR W v L) (hfit : Fit L) (hcl : closedP 0 L = true) (hg : Grew w0 w) (hI : InvD db kb nk w s F) (hF : ∀ x, F x → w0.heap.size ≤ x) {k0 c0 : Nat} (hG : GoodD s k0 c0) (hk0 : k0 ≤ 1048576) (hc0 : c0 ≤ 1048576) (hn : numF stepD L [] s = (none, s')) :
    Calls Tryd.prog 27 #[.pointer (some ⟨db, 0, none⟩), v] w fun en w' => ∃ (g : Int) (F' : Nat → Prop), en = .returned (.tuple #[NILS, .int .i64 g, .bool false]) ∧ Num' db kb nk w w' F F' s' := by
  have C : Hid (Calls Tryd.prog 40 #[v, .func (.func 41) #[.pointer (some ⟨db, 0, none⟩)] #[]] w fun en w' => ∃ (g : Int) (F' : Nat → Prop), en = .returned (.tuple #[NILS, .int .i64 g, .bool false]) ∧ Num' db kb nk w w' F F' s') :=
    (numbers_any (placerD (db := db) (kb := kb) (nk := nk) ht) hv hfit hcl hg hI hF hG hk0 hc0).mono fun en w' ⟨t, F', hu, _, h1⟩ => by
      obtain ⟨g, e, i⟩ := h1 s' hn
      exact ⟨g, F', e, ⟨t, hu, i⟩⟩
  obtain ⟨va, vc, ev, _⟩ := (hv w (TurnP.refl _ _)).one
  subst ev
  have hmf : ∀ (fn : Fn) (first cap : Array Value) (w : World), (Instr.makeFunc fn first cap).run Tryd.prog w = .ok (.func fn first cap) w := fun _ _ _ _ => rfl
  clear hfit hcl hI hG hF hv hg ht hn hk0 hc0
  generalize L.length = n at *
  go_enter Tryd.func27, Tryd.ntmps27
  go_wp2_with fail
  refine C.out.mono ?_
  rintro en w1 ⟨g, F', rfl, hN⟩
  have HX : Hid (Num' db kb nk w w1 F F' s') := hN
  clear C hN
  go_wp2_with fail
  go_ret3
  exact ⟨_, F', rfl, HX.out⟩
set_option maxRecDepth 100000 in
set_option maxHeartbeats 1000000 in
theorem allD_any {db kb nk : Nat} {w0 w : World} {v : Value} {L : List RT} {s s' : Dr} {F : Nat → Prop} {ids : List Int} (ht : Tab w0) (hv : ∀ W, TurnP F w W → LR W v L) (hfit : Fit L) (hcl : closedP 0 L = true) (hg : Grew w0 w) (hI : InvD db kb nk w s F) (hF : ∀ x, F x → w0.heap.size ≤ x) {k0 c0 : Nat} (hG : GoodD s k0 c0) (hk0 : k0 ≤ 1048576) (hc0 : c0 ≤ 1048576) (hn : numF stepD L [] s = (some ids, s')) :
    Calls Tryd.prog 22 #[.pointer (some ⟨db, 0, none⟩), v] w fun en w' => ∃ iv F', en = .returned iv ∧ RowI w.heap.size w' iv ids ∧ (∀ g, iv.ownBlock = some g → ¬ F' g) ∧ Num' db kb nk w w' F F' s' ∧ GoodD s' (k0 + cntT L) (c0 + L.length) := by
  have C : Hid (Calls Tryd.prog 27 #[.pointer (some ⟨db, 0, none⟩), v] w fun en w' => ∃ iv F', en = .returned (.tuple #[iv, .int .i64 0, .bool true]) ∧ RowI w.heap.size w' iv ids ∧ (∀ g, iv.ownBlock = some g → ¬ F' g) ∧ Num' db kb nk w w' F F' s' ∧ GoodD s' (k0 + cntT L) (c0 + L.length)) := numberD_yes ht hv hfit hcl hg hI hF hG hk0 hc0 hn
  obtain ⟨va, vc, ev, _⟩ := (hv w (TurnP.refl _ _)).one
  subst ev
  clear hfit hcl hI hG hF hv hg ht hn hk0 hc0
  generalize L.length = n at *
  go_enter Tryd.func22, Tryd.ntmps22
  go_wp2_with fail
  refine C.out.mono ?_
  rintro en w1 ⟨iv, F', rfl, hr, ho, hN, hG⟩
  obtain ⟨ia, ic, hi, _⟩ := row_max hr
  subst hi
  have HX : Hid (RowI w.heap.size w1 (.slice ia ids.length ic) ids ∧ (∀ g, (Value.slice ia ids.length ic).ownBlock = some g → ¬ F' g) ∧ Num' db kb nk w w1 F F' s' ∧ GoodD s' (k0 + cntT L) (c0 + n)) := ⟨hr, ho, hN, hG⟩
  clear C hr ho hN hG
  go_wp2_with fail
  go_ret
  exact ⟨_, F', rfl, HX.out⟩
set_option maxRecDepth 100000 in
theorem has_any {w : World} {v : Value} {L : List RT} {n : Int} (h : LR w v L) (hm : L.length ≤ 1048576) (hc : cntT L ≤ 1048576) :
    Calls Tryd.prog 20 #[v, .int .i64 n] w fun en w' => en = .returned (.bool (decide (0 ≤ n) && decide (n < (cntT L : Int)))) ∧ Grew w w' := by
  have C : Hid (∀ W, Grew w W → Calls Tryd.prog 31 #[v] W fun en w' => en = .returned (.int .i64 (cntT L : Int)) ∧ Grew W w') := fun W g => count_any (h.grew g) hm hc
  obtain ⟨va, vc, ev, _⟩ := h.one
  subst ev
  clear h
  generalize cntT L = k at *
  generalize L.length = q at *
  by_cases h0 : 0 ≤ n
  · have d0 : decide (0 ≤ n) = true := by simp [h0]
    rw [d0]
    go_enter Tryd.func20, Tryd.ntmps20
    go_wp2_with fail
    refine (C.out w (Grew.refl w)).mono ?_
    rintro en w1 ⟨rfl, g1⟩
    have G1 : Hid (Grew w w1) := g1
    clear g1 C
    go_wp2_with fail
    go_ret
    exact ⟨by simp, G1.out⟩
  · have d0 : decide (0 ≤ n) = false := by simp [h0]
    rw [d0]
    go_enter Tryd.func20, Tryd.ntmps20
    go_wp2_with fail
    go_ret
    exact ⟨by simp, Grew.refl w⟩
end Go.Proofs.YthchhehmbldmdaaDoor
