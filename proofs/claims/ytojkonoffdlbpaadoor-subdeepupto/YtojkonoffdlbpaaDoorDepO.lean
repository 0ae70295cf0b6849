/-
  Sub's depth of an order, of a type with one Super ahead of it; no statement is proved here.
-/
import Derived.Test.YtojkonoffdlbpaaDoorCmP
import Derived.Test.YtojkonoffdlbpaaDoorMaxO
namespace Go.Proofs.YtojkonoffdlbpaaDoor
open Go.RowKit
set_option linter.unusedVariables false
set_option linter.unusedSimpArgs false

/- A type's declaration may be. -/
def DeclOk (L : List RT) (n : Nat) (x : SB) : Prop := x.supers = [] ∨ ∃ (m : Nat) (up : SB), x.supers = [(m : Int)] ∧ m < n ∧ (flatT L)[m]? = some up ∧ up.final_ = false ∧ compP L x.comp up.comp = true
theorem flat_sml {L : List RT} (h : Fit L) {n : Nat} {x : SB} (hx : (flatT L)[n]? = some x) : Sml x := by
  obtain ⟨g, r, hg, hr⟩ := flat_in (List.mem_of_getElem? hx)
  exact h.sml.2.2 r (List.mem_of_getElem? hg) x hr
/- Where a type lies, in a world that has grown. -/
structure TyAt (ob : Nat) (L : List RT) (w W : World) (n : Nat) (x : SB) (g cap pb po : Nat) (sv pv rv fv : Value) : Prop where
  o : OW ob L w W
  hx : (flatT L)[n]? = some x
  sub : SubR w x sv pv rv fv
  obj : ∃ v iv, W.heap[ob]? = some (oobj v (.slice (some ⟨g, 0, none⟩) (flatT L).length cap) iv)
  hc : (flatT L).length ≤ cap
  ptr : W.cell? ⟨g, n, none⟩ = some (.pointer (some ⟨pb, po, none⟩))
  c0 : w.cell? ⟨pb, po, none⟩ = some (.bool x.final_)
  c1 : w.cell? ⟨pb, po + 1, none⟩ = some sv
  c2 : w.cell? ⟨pb, po + 2, none⟩ = some (.int .i64 x.comp.kind)
  c3 : w.cell? ⟨pb, po + 3, none⟩ = some pv
  c4 : w.cell? ⟨pb, po + 4, none⟩ = some rv
  c5 : w.cell? ⟨pb, po + 5, none⟩ = some fv
theorem OW.at {ob : Nat} {L : List RT} {w W : World} (h : OW ob L w W) {n : Nat} {x : SB} (hx : (flatT L)[n]? = some x) : ∃ g cap pb po sv pv rv fv, TyAt ob L w W n x g cap pb po sv pv rv fv := by
  obtain ⟨v, g, cap, iv, pb, po, h1, h2, h3, h4, _, hne⟩ := h.rd.get hx
  obtain ⟨sv, pv, rv, fv, hs, b0, b1, b2, b3, b4, b5⟩ := h4
  exact ⟨g, cap, pb, po, sv, pv, rv, fv, h, hx, hs, ⟨v, iv, h1⟩, h2, h3, b0, b1, b2, b3, b4, b5⟩
theorem TyAt.cv {ob : Nat} {L : List RT} {w W : World} {n : Nat} {x : SB} {g cap pb po : Nat} {sv pv rv fv : Value} (t : TyAt ob L w W n x g cap pb po sv pv rv fv) : CV w (.agg #[.int .i64 x.comp.kind, pv, rv, fv]) x.comp := by
  have hs := flat_sml t.o.fit t.hx
  exact ⟨⟨pv, rv, fv, rfl, t.sub.2.1, t.sub.2.2.1, t.sub.2.2.2⟩, hs.2.1, hs.2.2.1, hs.2.2.2⟩
/- Without a Super, or with one too great, or with two. -/
set_option maxRecDepth 100000 in
set_option maxHeartbeats 2000000 in
theorem depth_nil {ob n : Nat} {L : List RT} {w W : World} {x : SB} {dv : Value} (hO : OW ob L w W) (hx : (flatT L)[n]? = some x) (hs : x.supers = []) (hdv : ∃ a b c, dv = .slice a b c) :
    Calls Tryd.prog 12 #[.pointer (some ⟨ob, 0, none⟩), .int .i64 (n : Int), dv] W fun en w' => en = .returned (.tuple #[.int .i64 0, .int .i64 0]) ∧ Grew W w' := by
  obtain ⟨g, cap, pb, po, sv, pv, rv, fv, T⟩ := hO.at hx
  obtain ⟨da, dn, dc, rfl⟩ := hdv
  obtain ⟨v, iv, h1⟩ := T.obj
  have o1 := cell_of h1 1
  simp at o1
  have p := T.ptr
  obtain ⟨sa, sc, es, _, _⟩ := T.sub.1.one
  rw [hs] at es
  have c1 := cell_grew T.c1 hO.g
  rw [es] at c1
  have hn := (List.getElem?_eq_some_iff.1 hx).1
  generalize (flatT L).length = N at *
  have d1 : decide ((n : Int) < (N : Int)) = true := by simp; omega
  have d2 : decide (n < N) = true := by simp; omega
  have hnN : (n : Int) < (N : Int) := by omega
  have hc := T.hc
  clear T h1 hO hx hs
  go_enter Tryd.func12, Tryd.ntmps12
  go_wp2_with fail
  go_ret2
  exact ⟨rfl, Grew.refl _⟩
set_option maxRecDepth 100000 in
set_option maxHeartbeats 2000000 in
theorem depth_big {ob n : Nat} {L : List RT} {w W : World} {x : SB} {dv : Value} (hO : OW ob L w W) (hx : (flatT L)[n]? = some x) (hs : 0 < x.supers.length) (hdv : ∃ a b c, dv = .slice a b c) (hbad : ∃ s ∈ x.supers, (n : Int) ≤ s) :
    Calls Tryd.prog 12 #[.pointer (some ⟨ob, 0, none⟩), .int .i64 (n : Int), dv] W fun en w' => en = .returned (.tuple #[.int .i64 0, .int .i64 50]) ∧ Grew W w' := by
  obtain ⟨g, cap, pb, po, sv, pv, rv, fv, T⟩ := hO.at hx
  have hsm := flat_sml hO.fit hx
  have CM : Hid (∀ X, Grew W X → Calls Tryd.prog 19 #[sv] X fun en w' => ∃ m : Int, en = .returned (.int .i64 m) ∧ (∀ s ∈ x.supers, s ≤ m) ∧ Grew X w') := fun X g => max_any (T.sub.1.grew (hO.g.trans g)) hs hsm.1
  obtain ⟨da, dn, dc, rfl⟩ := hdv
  obtain ⟨v, iv, h1⟩ := T.obj
  have o1 := cell_of h1 1
  simp at o1
  have p := T.ptr
  obtain ⟨sa, sc, es, _, _⟩ := T.sub.1.one
  have c1 := cell_grew T.c1 hO.g
  subst es
  have hn := (List.getElem?_eq_some_iff.1 hx).1
  generalize (flatT L).length = N at *
  have d1 : decide ((n : Int) < (N : Int)) = true := by simp; omega
  have d2 : decide (n < N) = true := by simp; omega
  have hnN : (n : Int) < (N : Int) := by omega
  have hc := T.hc
  have HB : Hid (∃ s ∈ x.supers, (n : Int) ≤ s) := hbad
  have e0 : ((x.supers.length : Int) == 0) = false := by rw [beq_eq_false_iff_ne]; omega
  clear T h1 hO hx hbad
  go_enter Tryd.func12, Tryd.ntmps12
  go_wp2_with fail
  refine (CM.out W (Grew.refl W)).mono ?_
  rintro en w1 ⟨m, rfl, hm, g1⟩
  have hge : decide ((n : Int) ≤ m) = true := by
    obtain ⟨s, hs1, hs2⟩ := HB.out
    have := hm s hs1
    simp; omega
  have G1 : Hid (Grew W w1) := g1
  clear g1 CM hm HB o1 p c1
  go_wp2_with fail
  go_ret2
  exact ⟨rfl, G1.out⟩
set_option maxRecDepth 100000 in
set_option maxHeartbeats 2000000 in
theorem depth_two {ob n : Nat} {L : List RT} {w W : World} {x : SB} {dv : Value} (hO : OW ob L w W) (hx : (flatT L)[n]? = some x) (hs : 1 < x.supers.length) (hdv : ∃ a b c, dv = .slice a b c) :
    Calls Tryd.prog 12 #[.pointer (some ⟨ob, 0, none⟩), .int .i64 (n : Int), dv] W fun en w' => (∃ e : Int, en = .returned (.tuple #[.int .i64 0, .int .i64 e]) ∧ e ≠ 0) ∧ Grew W w' := by
  obtain ⟨g, cap, pb, po, sv, pv, rv, fv, T⟩ := hO.at hx
  have hsm := flat_sml hO.fit hx
  have CM : Hid (∀ X, Grew W X → Calls Tryd.prog 19 #[sv] X fun en w' => ∃ m : Int, en = .returned (.int .i64 m) ∧ (∀ s ∈ x.supers, s ≤ m) ∧ Grew X w') := fun X g => max_any (T.sub.1.grew (hO.g.trans g)) (by omega) hsm.1
  obtain ⟨da, dn, dc, rfl⟩ := hdv
  obtain ⟨v, iv, h1⟩ := T.obj
  have o1 := cell_of h1 1
  simp at o1
  have p := T.ptr
  obtain ⟨sa, sc, es, _, _⟩ := T.sub.1.one
  have c1 := cell_grew T.c1 hO.g
  subst es
  have hn := (List.getElem?_eq_some_iff.1 hx).1
  generalize (flatT L).length = N at *
  have d1 : decide ((n : Int) < (N : Int)) = true := by simp; omega
  have d2 : decide (n < N) = true := by simp; omega
  have hnN : (n : Int) < (N : Int) := by omega
  have hc := T.hc
  have e0 : ((x.supers.length : Int) == 0) = false := by rw [beq_eq_false_iff_ne]; omega
  have e1 : decide (1 < (x.supers.length : Int)) = true := by simp; omega
  have HC : Hid (w.cell? ⟨pb, po + 1, none⟩ = some (.slice sa x.supers.length sc) ∧ Grew w W) := ⟨T.c1, hO.g⟩
  clear T h1 hO hx
  go_enter Tryd.func12, Tryd.ntmps12
  go_wp2_with fail
  refine (CM.out W (Grew.refl W)).mono ?_
  rintro en w1 ⟨m, rfl, hm, g1⟩
  have G1 : Hid (Grew W w1) := g1
  have c1' := cell_grew HC.out.1 (HC.out.2.trans g1)
  clear g1 CM hm o1 p c1
  by_cases hge : (n : Int) ≤ m
  · have dge : decide ((n : Int) ≤ m) = true := by simpa using hge
    go_wp2_with fail
    go_ret2
    exact ⟨⟨50, rfl, by decide⟩, G1.out⟩
  · have dge : decide ((n : Int) ≤ m) = false := by simpa using hge
    go_wp2_with fail
    go_ret2
    exact ⟨⟨1, rfl, by decide⟩, G1.out⟩
/- The worlds of the region in which comp is asked. -/
structure DC (ob : Nat) (L : List RT) (w W : World) (n m : Nat) (x up : SB) (g cap pb po qb qo : Nat) (sv pv rv fv sv' pv' rv' fv' : Value) (A : World) : Prop where
  t1 : TyAt ob L w A n x g cap pb po sv pv rv fv
  t2 : TyAt ob L w A m up g cap qb qo sv' pv' rv' fv'
  v : MV ob W A
theorem TyAt.mv {ob : Nat} {L : List RT} {w W A : World} {n : Nat} {x : SB} {g cap pb po : Nat} {sv pv rv fv : Value} (t : TyAt ob L w W n x g cap pb po sv pv rv fv) (o : OW ob L w A) (k : MV ob W A) : TyAt ob L w A n x g cap pb po sv pv rv fv := by
  obtain ⟨v, iv, h1⟩ := t.obj
  obtain ⟨iv', h2⟩ := k.k.2 _ _ _ h1
  refine ⟨o, t.hx, t.sub, ⟨v, iv', h2⟩, t.hc, ?_, t.c0, t.c1, t.c2, t.c3, t.c4, t.c5⟩
  refine cell_kc k.k ?_ t.ptr
  rintro rfl
  have hp := t.ptr
  rw [cell_of h1] at hp
  match n, hp with
  | 0, hp =>
    obtain ⟨v', tv', iv', h1', hl, hp2, _⟩ := t.o.o
    obtain ⟨ps, q1, q2, q3⟩ := hp2
    rw [h1] at h1'
    unfold oobj at h1'
    injection h1' with h1'
    injection h1' with h1' _ _
    simp at h1'
    obtain ⟨_, rfl, _⟩ := h1'
    obtain ⟨cur, hcur⟩ := row_tag q2 (g := g) rfl
    rw [h1] at hcur
    unfold oobj at hcur
    injection hcur with hcur
    injection hcur with _ hcur _
    revert hcur; decide
  | 1, hp => simp at hp
  | 2, hp =>
    obtain ⟨v', tv', iv', h1', hl, hp2, _⟩ := t.o.o
    obtain ⟨ps, q1, q2, q3⟩ := hp2
    rw [h1] at h1'
    unfold oobj at h1'
    injection h1' with h1'
    injection h1' with h1' _ _
    simp at h1'
    obtain ⟨_, rfl, _⟩ := h1'
    obtain ⟨cur, hcur⟩ := row_tag q2 (g := g) rfl
    rw [h1] at hcur
    unfold oobj at hcur
    injection hcur with hcur
    injection hcur with _ hcur _
    revert hcur; decide
  | k + 3, hp => simp at hp
end Go.Proofs.YtojkonoffdlbpaaDoor

namespace Go.Proofs.YtojkonoffdlbpaaDoor
open Go.RowKit
set_option linter.unusedVariables false
set_option linter.unusedSimpArgs false

set_option maxRecDepth 100000 in
set_option maxHeartbeats 4000000 in
theorem depth_one {ob n m dg dc : Nat} {L : List RT} {w W : World} {x up : SB} {d : Int} (hO : OW ob L w W) (hx : (flatT L)[n]? = some x) (hs : x.supers = [(m : Int)]) (hm : m < n) (hup : (flatT L)[m]? = some up) (hdc : (flatT L).length ≤ dc) (hd : W.cell? ⟨dg, m, none⟩ = some (.int .i64 d)) (hd0 : 0 ≤ d) (hd1 : d ≤ 63) (hdg : dg ≠ ob) :
    Calls Tryd.prog 12 #[.pointer (some ⟨ob, 0, none⟩), .int .i64 (n : Int), .slice (some ⟨dg, 0, none⟩) (flatT L).length dc] W fun en w' => ∃ d' e : Int, en = .returned (.tuple #[.int .i64 d', .int .i64 e]) ∧ 0 ≤ d' ∧ d' ≤ 63 ∧ (e = 0 → up.final_ = false ∧ compP L x.comp up.comp = true) ∧ OW ob L w w' ∧ MV ob W w' := by
  obtain ⟨g, cap, pb, po, sv, pv, rv, fv, T⟩ := hO.at hx
  obtain ⟨g', cap', qb, qo, sv', pv', rv', fv', T'⟩ := hO.at hup
  have hgg : g' = g ∧ cap' = cap := by
    obtain ⟨v, iv, h1⟩ := T.obj
    obtain ⟨v', iv', h2⟩ := T'.obj
    rw [h1] at h2
    unfold oobj at h2
    injection h2 with h2
    injection h2 with h2 _ _
    simp at h2
    obtain ⟨_, ⟨h3, h4⟩, _⟩ := h2
    exact ⟨h3.symm, h4.symm⟩
  obtain ⟨rfl, rfl⟩ := hgg
  have hsm := flat_sml hO.fit hx
  have CM : Hid (∀ X, Grew W X → Calls Tryd.prog 19 #[sv] X fun en w' => ∃ m : Int, en = .returned (.int .i64 m) ∧ (∀ s ∈ x.supers, s ≤ m) ∧ Grew X w') := fun X g => max_any (T.sub.1.grew (hO.g.trans g)) (by rw [hs]; simp) hsm.1
  have CP : Hid (∀ X, OW ob L w X → Calls Tryd.prog 15 #[.pointer (some ⟨ob, 0, none⟩), .agg #[.int .i64 x.comp.kind, pv, rv, fv], .agg #[.int .i64 up.comp.kind, pv', rv', fv']] X fun en w' => en = .returned (.bool (compP L x.comp up.comp)) ∧ OW ob L w w' ∧ MV ob X w') := fun X h => comp_any T.cv T'.cv X h
  have hsv := T.sub.1
  rw [hs] at hsv
  obtain ⟨sa, sc, es, hsc, _⟩ := hsv.one
  have es1 : sv = .slice sa 1 sc := es
  subst es1
  obtain ⟨sb, so, rfl, _, hel⟩ := hsv.get (by simp)
  have e2 : w.cell? ⟨sb, so, none⟩ = some (.int .i64 (m : Int)) := by
    have := hel 0 _ rfl
    rw [Nat.zero_mul, Nat.add_zero] at this
    exact this
  have HD : Hid (DC ob L w W n m x up g' cap' pb po qb qo (.slice (some ⟨sb, so, none⟩) 1 sc) pv rv fv sv' pv' rv' fv' W ∧ W.cell? ⟨dg, m, none⟩ = some (.int .i64 d)) := ⟨⟨T, T', MV.refl _ _⟩, hd⟩
  have HK : Hid (∀ A, DC ob L w W n m x up g' cap' pb po qb qo (.slice (some ⟨sb, so, none⟩) 1 sc) pv rv fv sv' pv' rv' fv' A → A.cell? ⟨dg, m, none⟩ = some (.int .i64 d) ∧ A.cell? ⟨sb, so, none⟩ = some (.int .i64 (m : Int)) ∧ A.cell? ⟨ob, 1, none⟩ = some (.slice (some ⟨g', 0, none⟩) (flatT L).length cap') ∧ A.cell? ⟨g', n, none⟩ = some (.pointer (some ⟨pb, po, none⟩)) ∧ A.cell? ⟨g', m, none⟩ = some (.pointer (some ⟨qb, qo, none⟩)) ∧ A.cell? ⟨pb, po + 1, none⟩ = some (.slice (some ⟨sb, so, none⟩) 1 sc) ∧ A.cell? ⟨qb, qo, none⟩ = some (.bool up.final_) ∧ (A.cell? ⟨pb, po + 2, none⟩ = some (.int .i64 x.comp.kind) ∧ A.cell? ⟨pb, po + 3, none⟩ = some pv ∧ A.cell? ⟨pb, po + 4, none⟩ = some rv ∧ A.cell? ⟨pb, po + 5, none⟩ = some fv) ∧ (A.cell? ⟨qb, qo + 2, none⟩ = some (.int .i64 up.comp.kind) ∧ A.cell? ⟨qb, qo + 3, none⟩ = some pv' ∧ A.cell? ⟨qb, qo + 4, none⟩ = some rv' ∧ A.cell? ⟨qb, qo + 5, none⟩ = some fv')) := fun A D => by
    have G := D.t1.o.g
    obtain ⟨v, iv, h1⟩ := D.t1.obj
    have o1 := cell_of h1 1
    refine ⟨cell_kc D.v.k hdg hd, cell_grew e2 G, o1, D.t1.ptr, D.t2.ptr, cell_grew D.t1.c1 G, cell_grew D.t2.c0 G, ⟨cell_grew D.t1.c2 G, cell_grew D.t1.c3 G, cell_grew D.t1.c4 G, cell_grew D.t1.c5 G⟩, cell_grew D.t2.c2 G, cell_grew D.t2.c3 G, cell_grew D.t2.c4 G, cell_grew D.t2.c5 G⟩
  have HM : Hid (∀ A B, DC ob L w W n m x up g' cap' pb po qb qo (.slice (some ⟨sb, so, none⟩) 1 sc) pv rv fv sv' pv' rv' fv' A → OW ob L w B → MV ob A B → DC ob L w W n m x up g' cap' pb po qb qo (.slice (some ⟨sb, so, none⟩) 1 sc) pv rv fv sv' pv' rv' fv' B) := fun A B D o k => ⟨D.t1.mv o k, D.t2.mv o k, D.v.trans k⟩
  obtain ⟨a3, k3, e3, _⟩ := T.sub.2.1.one
  obtain ⟨a4, k4, e4, _⟩ := T.sub.2.2.1.one
  obtain ⟨a5, k5, e5, _⟩ := T.sub.2.2.2.one
  obtain ⟨a6, k6, e6, _⟩ := T'.sub.2.1.one
  obtain ⟨a7, k7, e7, _⟩ := T'.sub.2.2.1.one
  obtain ⟨a8, k8, e8, _⟩ := T'.sub.2.2.2.one
  subst e3 e4 e5 e6 e7 e8
  have hn := (List.getElem?_eq_some_iff.1 hx).1
  have hcap := T.hc
  clear T T' hO hx hup hsv hel e2 hd hs es hsm
  obtain ⟨q1, q2, q3, q4, q5, q6, q7, q8, q9⟩ := HK.out W HD.out.1
  generalize hR : compP L x.comp up.comp = R at *
  clear hR
  generalize hF : up.final_ = F at *
  have HDD : Hid (DC ob L w W n m x up g' cap' pb po qb qo _ _ _ _ _ _ _ _ W) := HD.out.1
  clear HD
  generalize hNN : (flatT L).length = N at *
  clear hNN
  have d1 : decide ((n : Int) < (N : Int)) = true := by simp; omega
  have d2 : decide (n < N) = true := by simp; omega
  have d3 : decide ((m : Int) < (N : Int)) = true := by simp; omega
  have d4 : decide (m < N) = true := by simp; omega
  have i1 : (n : Int) < (N : Int) := by omega
  have i2 : (m : Int) < (N : Int) := by omega
  go_enter Tryd.func12, Tryd.ntmps12
  go_wp2_with fail
  refine (CM.out W (Grew.refl W)).mono ?_
  rintro en w1 ⟨M, rfl, _, g1⟩
  have H1 : Hid (DC ob L w W n m x up g' cap' pb po qb qo _ _ _ _ _ _ _ _ w1) := HM.out W w1 HDD.out (HDD.out.t1.o.grew g1) (g1.mv ob)
  clear g1 CM q1 q2 q3 q4 q5 q6 q7 q8 q9
  by_cases hge : (n : Int) ≤ M
  · have dge : decide ((n : Int) ≤ M) = true := by simpa using hge
    clear HK HM CP
    go_wp2_with fail
    go_ret2
    exact ⟨0, 50, rfl, by omega, by omega, (fun h => absurd h (by decide)), H1.out.t1.o, H1.out.v⟩
  · have dge : decide ((n : Int) ≤ M) = false := by simpa using hge
    clear hge
    obtain ⟨q1, q2, q3, q4, q5, q6, q7, q8, q9⟩ := HK.out w1 H1.out
    obtain ⟨r1, r2, r3, r4⟩ := q8
    obtain ⟨s1, s2, s3, s4⟩ := q9
    cases F with
    | true =>
      clear HM CP HK
      go_wp2_with fail
      go_ret2
      exact ⟨0, 70, rfl, by omega, by omega, (fun h => absurd h (by decide)), H1.out.t1.o, H1.out.v⟩
    | false =>
      by_cases h63 : 63 ≤ d
      · have d63 : decide (63 ≤ d) = true := by simpa using h63
        clear HM CP HK
        go_wp2_with fail
        go_ret2
        exact ⟨0, 72, rfl, by omega, by omega, (fun h => absurd h (by decide)), H1.out.t1.o, H1.out.v⟩
      · have d63 : decide (63 ≤ d) = false := by simpa using h63
        go_wp2_with fail
        clear q1 q2 q3 q4 q5 q6 q7 r1 r2 r3 r4 s1 s2 s3 s4
        refine wp_region_cl (C := fun A => DC ob L w W n m x up g' cap' pb po qb qo _ _ _ _ _ _ _ _ A) (by kernel_rfl) (by kernel_rfl) (HM.out w1 _ H1.out (H1.out.t1.o.grew ((Grew.refl _).drewN 1)) (((Grew.refl _).drewN 1).mv ob)) ?_
        repeat (first
          | go_big_quiet_skip
          | (go_big_quiet_want
             go_big_quiet_op
             first
             | go_big_quiet_on
             | (refine ⟨_, fun _ _ => rfl, ?_⟩; go_big_quiet_on)
             | (refine ⟨.slice (some ⟨g', 0, none⟩) N cap', fun A hA => ?_, ?_⟩
                · (obtain ⟨q1, q2, q3, q4, q5, q6, q7, ⟨r1, r2, r3, r4⟩, s1, s2, s3, s4⟩ := HK.out A hA; go_simp; done)
                go_big_quiet_on)
             | (refine ⟨.pointer (some ⟨qb, qo, none⟩), fun A hA => ?_, ?_⟩
                · (obtain ⟨q1, q2, q3, q4, q5, q6, q7, ⟨r1, r2, r3, r4⟩, s1, s2, s3, s4⟩ := HK.out A hA; go_simp; done)
                go_big_quiet_on)
             | (refine ⟨.agg #[.int .i64 x.comp.kind, .slice a3 x.comp.params.length k3, .slice a4 x.comp.results.length k4, .slice a5 x.comp.fields.length k5], fun A hA => ?_, ?_⟩
                · (obtain ⟨q1, q2, q3, q4, q5, q6, q7, ⟨r1, r2, r3, r4⟩, s1, s2, s3, s4⟩ := HK.out A hA; go_simp; done)
                go_big_quiet_on)
             | (refine ⟨.agg #[.int .i64 up.comp.kind, .slice a6 up.comp.params.length k6, .slice a7 up.comp.results.length k7, .slice a8 up.comp.fields.length k8], fun A hA => ?_, ?_⟩
                · (obtain ⟨q1, q2, q3, q4, q5, q6, q7, ⟨r1, r2, r3, r4⟩, s1, s2, s3, s4⟩ := HK.out A hA; go_simp; done)
                go_big_quiet_on)
             | (apply Exists.intro
                refine ⟨fun A hA => ?_, ?_⟩
                · (go_at_call 15; exact (CP.out A hA.t1.o).mono fun _ B ⟨he, h1, h2⟩ => ⟨he, HM.out A B hA h1 h2⟩)
                go_big_quiet_on)))
        refine wpQuiet_nil ?_
        intro w6 h6
        have Y : Hid (OW ob L w w6 ∧ MV ob W w6) := ⟨h6.t1.o, h6.v⟩
        have q1 := (HK.out w6 h6).1
        clear h6 HK HM H1 HDD CP
        cases R with
        | false =>
          go_wp2_with fail
          go_ret2
          exact ⟨0, 71, rfl, by omega, by omega, (fun h => absurd h (by decide)), Y.out⟩
        | true =>
          have wr : IntKind.i64.wrap (d + 1) = d + 1 := by rw [IntKind.wrap_i64]; omega
          go_wp2_with fail
          go_ret2
          first | exact ⟨d + 1, 0, rfl, by omega, by omega, (fun _ => ⟨rfl, rfl⟩), Y.out⟩ | exact ⟨d + 1, ⟨0, rfl⟩, by omega, by omega, Y.out⟩
end Go.Proofs.YtojkonoffdlbpaaDoor
