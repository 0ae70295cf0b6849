/-
  The walk of EntryLeast; no statement is proved here.
-/
import Derived.Test.YtbhbogfdnaadeaaDoorLeM
import Derived.Test.YtbhbogfdnaadeaaDoorWrT
import Derived.Test.YtbhbogfdnaadeaaDoorSam9
import Derived.Test.YtbhbogfdnaadeaaDoorTopG
import Derived.Test.YtbhbogfdnaadeaaDoorAwk
namespace Go.Proofs.YtbhbogfdnaadeaaDoor
open Go.RowKit
set_option linter.unusedVariables false
set_option linter.unusedSimpArgs false
set_option linter.constructorNameAsVariable false

theorem byt_by {l : List Int} (h : Byt l) : By l := by
  intro c hc
  obtain ⟨j, hj, rfl⟩ := List.getElem_of_mem hc
  have := h j
  simpa [List.getD, hj] using this
theorem by_byt {l : List Int} (h : By l) : Byt l := by
  intro j
  by_cases hj : j < l.length
  · have : l.getD j 0 = l[j] := by simp [List.getD, hj]
    rw [this]
    exact h _ (List.getElem_mem hj)
  · have : l.getD j 0 = 0 := by simp [List.getD, Nat.not_lt.1 hj]
    rw [this]; omega
theorem row_reads {B : Nat} {w : World} {v : Value} {l : List Int} (h : w.ownsRow B 5 1 v l.length (U8 l)) (hB : B ≤ w.heap.size) : Reads w v l :=
  Has.reads (base := B) (w0 := w) ⟨h, Below.refl _ _, hB⟩
/- Lists that were read are within their limits. -/
theorem many_len {α : Type} {rd : Nat → RS α} : ∀ (n : Nat) (acc : List α) (p : Nat) (xs : List α) (q : Nat), manyR rd n acc p = .ok (xs, q) → xs.length = acc.length + n
  | 0, acc, p, xs, q, h => by simp only [manyR, Except.ok.injEq, Prod.mk.injEq] at h; rw [h.1]; rfl
  | n + 1, acc, p, xs, q, h => by
    rw [manyR] at h
    cases hx : rd p with
    | error e => rw [hx] at h; cases h
    | ok y =>
      obtain ⟨a, q1⟩ := y
      rw [hx] at h
      have := many_len n _ _ _ _ h
      rw [this]; simp; omega
theorem list_len {α : Type} {lim : Nat} {rd : Nat → RS α} {l : List Int} {p q : Nat} {xs : List α} (h : listR (lim : Int) rd l p = .ok (xs, q)) : xs.length ≤ lim := by
  unfold listR at h
  cases hx : limR p (lim : Int) (numR 32 false l p) with
  | error e => rw [hx] at h; cases h
  | ok y =>
    obtain ⟨n, q1⟩ := y
    rw [hx] at h
    have h1 := many_len n.toNat [] _ _ _ h
    have := (lim_ok hx).2
    rw [h1]; simp; omega
theorem comp_small {l : List Int} {p q : Nat} {c : CT} (h : compR l p = .ok (c, q)) : c.params.length ≤ 1000 ∧ c.results.length ≤ 1000 := by
  obtain ⟨_, h⟩ := at_byte h
  split at h
  · cases h
  · split at h
    · cases hx : valsR l (p + 1) with
      | error e => rw [hx] at h; cases h
      | ok y =>
        obtain ⟨ps, q1⟩ := y
        rw [hx] at h
        simp only [thenR] at h
        obtain ⟨rs, hr, rfl⟩ := mapR_ok h
        exact ⟨list_len (lim := 1000) hx, list_len (lim := 1000) hr⟩
    · split at h
      · obtain ⟨fs, _, rfl⟩ := mapR_ok h
        exact ⟨by simp, by simp⟩
      · obtain ⟨fs, _, rfl⟩ := mapR_ok h
        exact ⟨by simp, by simp⟩
theorem sub_small {l : List Int} {p q : Nat} {x : SB} (h : subR l p = .ok (x, q)) : smallS x := by
  obtain ⟨_, h⟩ := at_byte h
  unfold smallS
  split at h
  · cases hx : listR 1000 (tyU l) l (p + 1) with
    | error e => rw [hx] at h; cases h
    | ok y =>
      obtain ⟨ss, q1⟩ := y
      rw [hx] at h
      simp only [thenR] at h
      obtain ⟨c, hc, rfl⟩ := mapR_ok h
      have := comp_small hc
      simp only
      omega
  · obtain ⟨c, hc, rfl⟩ := mapR_ok h
    have := comp_small hc
    simp only
    omega
theorem many_all {α : Type} {rd : Nat → RS α} {P : α → Prop} (hP : ∀ p a q, rd p = .ok (a, q) → P a) : ∀ (n : Nat) (acc : List α) (p : Nat) (xs : List α) (q : Nat), (∀ x ∈ acc, P x) → manyR rd n acc p = .ok (xs, q) → ∀ x ∈ xs, P x
  | 0, acc, p, xs, q, ha, h => by simp only [manyR, Except.ok.injEq, Prod.mk.injEq] at h; rw [← h.1]; exact ha
  | n + 1, acc, p, xs, q, ha, h => by
    rw [manyR] at h
    cases hx : rd p with
    | error e => rw [hx] at h; cases h
    | ok y =>
      obtain ⟨a, q1⟩ := y
      rw [hx] at h
      refine many_all hP n _ _ _ _ ?_ h
      intro x hx'
      rcases List.mem_append.1 hx' with h' | h'
      · exact ha x h'
      · simp at h'; subst h'; exact hP _ _ _ hx
theorem rec_small {l : List Int} {p q : Nat} {g : RT} (h : recR l p = .ok (g, q)) : ∀ x ∈ g.types, smallS x := by
  obtain ⟨_, h⟩ := at_byte h
  split at h
  · obtain ⟨ts, hr, rfl⟩ := mapR_ok h
    unfold listR at hr
    cases hx : limR (p + 1) (10000 : Int) (numR 32 false l (p + 1)) with
    | error e => rw [hx] at hr; cases hr
    | ok y =>
      obtain ⟨n, q1⟩ := y
      rw [hx] at hr
      exact many_all (fun p a q h => sub_small h) n.toNat [] _ _ _ (by simp) hr
  · obtain ⟨t, hr, rfl⟩ := mapR_ok h
    intro x hx
    simp at hx
    subst hx
    exact sub_small hr
/- What is read at a place: a fault, or a group that is written. -/
theorem least_cases {l : List Int} {x : Int} (hB : By l) (hl : l.length ≤ 140737488351232) : (∃ g p e, topR (recR l) ⟨[], false⟩ l x = (g, p, e) ∧ e ≠ 0) ∨
    (∃ (g : RT) (q : Nat) (m : List Int) (a : Nat), x = (a : Int) ∧ topR (recR l) ⟨[], false⟩ l x = (g, (q : Int), 0) ∧ recW g = .ok m ∧ a + m.length ≤ q ∧ q ≤ 140737488351232 ∧ By m ∧ (∀ y ∈ g.types, smallS y) ∧
      topR (recR m) ⟨[], false⟩ m 0 = (⟨g.types, g.explicit && decide (g.types.length ≠ 1)⟩, (m.length : Int), 0)) := by
  by_cases hx : 0 ≤ x ∧ x ≤ l.length
  · obtain ⟨a, rfl⟩ : ∃ a : Nat, x = a := ⟨x.toNat, by omega⟩
    have ha : a ≤ l.length := by omega
    rw [topR_in ha]
    cases hr : recR l a with
    | error y =>
      obtain ⟨f, e⟩ := y
      have := (rec_adv l a ha).2 f e hr
      exact Or.inl ⟨_, _, _, rfl, by omega⟩
    | ok y =>
      obtain ⟨g, q⟩ := y
      have h1 := (rec_adv l a ha).1 g q hr
      obtain ⟨m, h2, h3, h4, h5⟩ := rec_least ha hB hr
      refine Or.inr ⟨g, q, m, a, rfl, rfl, h2, h3, by omega, h4, rec_small hr, ?_⟩
      have := topR_in (R := recR m) (z := ⟨[], false⟩) (l := m) (p := 0) (Nat.zero_le _)
      rw [show ((0 : Nat) : Int) = 0 from rfl] at this
      rw [this, h5]
  · exact Or.inl ⟨_, _, _, topR_out hx, by decide⟩
set_option maxRecDepth 100000 in
set_option maxHeartbeats 4000000 in
theorem least_any (v : Value) (l : List Int) (x : Int) (w : World) (hR : Reads w v l) (hB : Byt l) (hl : l.length ≤ 140737488351232) (hT : Tab w) :
    Calls Tryd.prog 5 #[v, .int .i64 x] w fun en w' => en = .returned (.bool true) ∧ Grew w w' := by
  have CG : Hid (Calls Tryd.prog 28 #[v, .int .i64 x] w fun en w' => ∃ cs, en = .returned (.tuple #[.agg cs.toArray, .int .i64 (topR (recR l) ⟨[], false⟩ l x).2.1, .int .i64 (topR (recR l) ⟨[], false⟩ l x).2.2]) ∧ RecC w.heap.size w' cs (topR (recR l) ⟨[], false⟩ l x).1 ∧ Grew w w') := topRx_any v l x w hR hB hl hT
  have AW : Hid (∀ w1, Grew w w1 → Calls Tryd.prog 19 #[] w1 fun en w' => en = .returned (.bool true) ∧ Grew w1 w') := fun w1 g => awake_any w1 (hT.grew g)
  obtain ⟨sa0, cap0, rfl⟩ := hR.len
  rcases least_cases (x := x) (byt_by hB) hl with ⟨g, p, e, hX, he⟩ | ⟨g, q, m, a, rfl, hX, hw, hle, hq, hm, hsm, hX2⟩
  · rw [hX] at CG
    simp only at CG
    have he' : (e != 0) = true := by simpa using he
    clear hR hB hT hX he hl
    go_enter Tryd.func5, Tryd.ntmps5
    go_wp2_with fail
    refine CG.out.mono ?_
    rintro en w1 ⟨cs, rfl, r1, g1⟩
    obtain ⟨tv, hcs, z0⟩ := r1
    obtain ⟨ta, tc, e0_⟩ := z0.one
    subst e0_
    subst hcs
    have G1 : Hid (Grew w w1) := g1
    clear g1 z0 CG
    go_wp2_with fail
    refine (AW.out _ (G1.out.alloc _)).mono ?_
    rintro en w2 ⟨rfl, g2⟩
    have G2 : Hid (Grew w w2) := (G1.out.alloc _).trans g2
    clear g2
    go_wp2_with fail
    go_ret
    exact ⟨rfl, G2.out⟩
  · rw [hX] at CG
    simp only at CG
    obtain ⟨ts, ex⟩ := g
    simp only at CG hsm hX2
    have PW : Hid (∀ (w1 : World) (tv : Value), Grew w w1 → LS w1 tv ts → Calls Tryd.prog 13 #[.agg #[tv, .bool ex]] w1 (PAns w1 (.ok m))) := by
      intro w1 tv gw hls
      have := putRec_any w1 (hT.grew gw) tv ts ex hls hsm
      rw [hw] at this
      exact this
    have CH : Hid (∀ (w1 : World) (rv : Value), Grew w w1 → Reads w1 rv m → Calls Tryd.prog 28 #[rv, .int .i64 0] w1 fun en w' => ∃ cs, en = .returned (.tuple #[.agg cs.toArray, .int .i64 m.length, .int .i64 0]) ∧ RecC w1.heap.size w' cs ⟨ts, ex && decide (ts.length ≠ 1)⟩ ∧ Grew w1 w') := by
      intro w1 rv gw hr
      have := topRx_any rv m 0 w1 hr (by_byt hm) (by omega) (hT.grew gw)
      rw [hX2] at this
      exact this
    have h3 : ex = false ∨ (ex = true ∧ ts.length = 1) ∨ (ex = true ∧ ts.length ≠ 1) := by
      cases ex <;> simp
      omega
    have d1 : ¬ ((q : Int) - a < m.length) := by omega
    clear hR hB hT hX hX2 hw hsm hm
    go_enter Tryd.func5, Tryd.ntmps5
    go_wp2_with fail
    refine CG.out.mono ?_
    rintro en w1 ⟨cs, rfl, r1, g1⟩
    obtain ⟨tv, hcs, z0⟩ := r1
    simp only at hcs z0
    obtain ⟨ta, tc, e0_⟩ := z0.one
    subst e0_
    subst hcs
    have hs1 : w.heap.size ≤ w1.heap.size := g1.2
    have G1 : Hid (Grew w w1) := g1
    have Z1 : Hid (SubsQ 0 w1 (.slice ta ts.length tc) ts) := z0.low (Nat.zero_le _)
    clear g1 z0 CG
    go_wp2_with fail
    refine (PW.out _ _ (G1.out.alloc _) ((Z1.out.lst).grew ((Grew.refl w1).alloc _))).mono ?_
    rintro en w2 ⟨rv, rfl, r2, g2⟩
    obtain ⟨ra, rc, rfl⟩ := row_one r2
    have hs2 := g2.2
    rw [alloc_size] at hs2
    have R2 : Hid (Reads w2 (.slice ra m.length rc) m) := row_reads r2 (by rw [alloc_size]; omega)
    have K2 : Hid (w2.heap[w1.heap.size]? = some (.cells #[.slice ta ts.length tc, .bool ex] 28 (0, 0))) := (g2.turn []).other (heap_alloc_last _ _) (by simp)
    have G2 : Hid (Grew w w2) := (G1.out.alloc _).trans g2
    have Z2 : Hid (SubsQ 0 w2 (.slice ta ts.length tc) ts) := Z1.out.turn ((((Grew.refl w1).alloc _).trans g2).turn []) (by simp) (by simp) (by simp) (by simp)
    clear g2 r2 PW Z1 G1
    go_wp2_with fail
    refine (CH.out _ _ G2.out R2.out).mono ?_
    rintro en w3 ⟨cs, rfl, r3, g3⟩
    obtain ⟨tv, hcs, z0⟩ := r3
    simp only at hcs z0
    obtain ⟨ua, uc, e0_⟩ := z0.one
    subst e0_
    subst hcs
    have hs3 := g3.2
    have K3 : Hid (w3.heap[w1.heap.size]? = some (.cells #[.slice ta ts.length tc, .bool ex] 28 (0, 0))) := (g3.turn []).other K2.out (by simp)
    have G3 : Hid (Grew w w3) := G2.out.trans g3
    have Z3 : Hid (SubsQ 0 w3 (.slice ta ts.length tc) ts) := Z2.out.turn (g3.turn []) (by simp) (by simp) (by simp) (by simp)
    have Y3 : Hid (SubsQ 0 w3 (.slice ua ts.length uc) ts) := z0.low (Nat.zero_le _)
    have k0 := cell_of K3.out 0
    have k1 := cell_of K3.out 1
    have f1 := free_of K3.out 1
    simp at k0 k1
    have hl3 : w1.heap.size < w3.heap.size := by omega
    have hn3 : ¬ w1.heap.size = w3.heap.size := by omega
    clear g3 z0 CH K2 R2 Z2 G2
    have SR : Hid (∀ (E : Bool) (W : World), Turn [w1.heap.size] w3 W → Calls Tryd.prog 29 #[.agg #[.slice ta ts.length tc, .bool E], .agg #[.slice ua ts.length uc, .bool E]] W fun en w'' => en = .returned (.bool true) ∧ Grew W w'') := by
      intro E W tw
      have h0 : ∀ y ∈ [w1.heap.size], NoT w3 y 101 := by intro y hy; simp at hy; subst hy; exact NoT.of (t := 28) K3.out (by decide)
      have h1 : ∀ y ∈ [w1.heap.size], NoT w3 y 3 := by intro y hy; simp at hy; subst hy; exact NoT.of (t := 28) K3.out (by decide)
      have h2 : ∀ y ∈ [w1.heap.size], NoT w3 y 23 := by intro y hy; simp at hy; subst hy; exact NoT.of (t := 28) K3.out (by decide)
      have h3 : ∀ y ∈ [w1.heap.size], NoT w3 y 154 := by intro y hy; simp at hy; subst hy; exact NoT.of (t := 28) K3.out (by decide)
      exact sameRec_any (r := ⟨ts, E⟩) ⟨_, rfl, Z3.out.turn tw h0 h1 h2 h3⟩ ⟨_, rfl, Y3.out.turn tw h0 h1 h2 h3⟩
    have TW : Hid (∀ (E : Bool) (o : Obj), Turn [w1.heap.size] w3 ((w3.setCell ⟨w1.heap.size, 1, none⟩ (.bool E)).alloc o)) := fun E o => ((Turn.refl _ w3).set (p := ⟨w1.heap.size, 1, none⟩) (Or.inl (by simp)) _).alloc _
    have GW : Hid (∀ (E : Bool) (o : Obj), Grew w ((w3.setCell ⟨w1.heap.size, 1, none⟩ (.bool E)).alloc o)) := fun E o => (G3.out.set (p := ⟨w1.heap.size, 1, none⟩) hs1 _).alloc _
    clear K3 Z3 Y3 G3
    rcases h3 with rfl | ⟨rfl, h1⟩ | ⟨rfl, h1⟩
    · go_wp2_with fail
      refine (SR.out _ _ (TW.out _ _)).mono ?_
      rintro en w4 ⟨rfl, g4⟩
      have G4 : Hid (Grew w w4) := (GW.out _ _).trans g4
      clear g4
      go_wp2_with fail
      refine (AW.out _ G4.out).mono ?_
      rintro en w5 ⟨rfl, g5⟩
      have G5 : Hid (Grew w w5) := G4.out.trans g5
      clear g5
      go_wp2_with fail
      go_ret
      exact ⟨rfl, G5.out⟩
    · have e1 : (true && decide (ts.length ≠ 1)) = false := by simp [h1]
      have e2 : ((ts.length : Int) != 1) = false := by simp; omega
      rw [e1]
      clear e1 h1
      go_wp2_with fail
      refine (SR.out _ _ (TW.out _ _)).mono ?_
      rintro en w4 ⟨rfl, g4⟩
      have G4 : Hid (Grew w w4) := (GW.out _ _).trans g4
      clear g4
      go_wp2_with fail
      refine (AW.out _ G4.out).mono ?_
      rintro en w5 ⟨rfl, g5⟩
      have G5 : Hid (Grew w w5) := G4.out.trans g5
      clear g5
      go_wp2_with fail
      go_ret
      exact ⟨rfl, G5.out⟩
    · have e1 : (true && decide (ts.length ≠ 1)) = true := by simp [h1]
      have e2 : ((ts.length : Int) != 1) = true := by simp; omega
      rw [e1]
      clear e1 h1
      go_wp2_with fail
      refine (SR.out _ _ (TW.out _ _)).mono ?_
      rintro en w4 ⟨rfl, g4⟩
      have G4 : Hid (Grew w w4) := (GW.out _ _).trans g4
      clear g4
      go_wp2_with fail
      refine (AW.out _ G4.out).mono ?_
      rintro en w5 ⟨rfl, g5⟩
      have G5 : Hid (Grew w w5) := G4.out.trans g5
      clear g5
      go_wp2_with fail
      go_ret
      exact ⟨rfl, G5.out⟩
end Go.Proofs.YtbhbogfdnaadeaaDoor
