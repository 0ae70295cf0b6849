/-
  The walk of SubDeep; no statement is proved here.
-/
import Derived.Test.YtojkonoffdlbpaaDoorDecW
import Derived.Test.YtojkonoffdlbpaaDoorAtD
namespace Go.Proofs.YtojkonoffdlbpaaDoor
open Go.RowKit
set_option linter.unusedVariables false
set_option linter.unusedSimpArgs false

set_option maxRecDepth 100000 in
set_option maxHeartbeats 1000000 in
theorem oclosed_ow {w : World} {v : Value} {L : List RT} (h : LR w v L) (hf : Fit L) (ht : Tab w) (hc : closedP 0 L = true) :
    Calls Tryd.prog 13 #[v] w fun en w' => ∃ ob w1, en = .returned (.tuple #[.pointer (some ⟨ob, 0, none⟩), .bool true]) ∧ Grew w w1 ∧ OW ob L w1 w' ∧ Grew w w' := by
  have C : Hid (Calls Tryd.prog 10 #[v] w fun en w' => ∃ p : Int, en = .returned (.tuple #[.int .i64 p, .int .i64 0]) ∧ Grew w w') := by
    have := closed_any h hf.sml
    rw [hc] at this
    exact this
  have CN : Hid (∀ X, Grew w X → Calls Tryd.prog 11 #[v] X fun en w' => ∃ ob, en = .returned (.pointer (some ⟨ob, 0, none⟩)) ∧ OW ob L X w' ∧ Grew w w') := fun X g => by
    refine (newOrder_any (h.grew g) hf).mono ?_
    rintro en w' ⟨ob, tv, e, h1, h2, h3, g'⟩
    exact ⟨ob, e, ⟨hf, hc, ht.grew g, g', h1, _, _, _, h2, h.grew g, h3, Or.inl rfl⟩, g.trans g'⟩
  obtain ⟨va, vc, ev, _⟩ := h.one
  subst ev
  clear h hf hc ht
  go_enter Tryd.func13, Tryd.ntmps13
  go_wp2_with fail
  refine C.out.mono ?_
  rintro en w1 ⟨p, rfl, g1⟩
  have G1 : Hid (Grew w w1) := g1
  clear g1 C
  go_wp2_with fail
  refine (CN.out w1 G1.out).mono ?_
  rintro en w2 ⟨ob, rfl, h1, g2⟩
  have K : Hid (Grew w w1 ∧ OW ob L w1 w2 ∧ Grew w w2) := ⟨G1.out, h1, g2⟩
  clear h1 g2 CN G1
  go_wp2_with fail
  go_ret2
  exact ⟨ob, w1, rfl, K.out⟩
theorem MV.grew {ob : Nat} {L : List RT} {w w1 A B : World} (k : MV ob A B) (g : Grew w A) (g1 : Grew w w1) (o : OW ob L w1 A) : Grew w B := k.t.grew g (fun x hx => by
  rw [hx]
  exact Nat.le_trans g1.2 o.lo)
def heapT (L : List RT) (a b : Int) : Bool := closedP 0 L && heapP L a b
def compT (L : List RT) (a b : CT) : Bool := closedP 0 L && compP L a b
def definedP (L : List RT) (a b : Int) : Bool := defB (flatT L).length a && defB (flatT L).length b && belowP L a.toNat b.toNat
def definedT (L : List RT) (a b : Int) : Bool := closedP 0 L && definedP L a b
set_option maxRecDepth 100000 in
set_option maxHeartbeats 1000000 in
theorem heapT_any {w : World} {v : Value} {L : List RT} (h : LR w v L) (hf : Fit L) (ht : Tab w) (a b : Int) :
    Calls Tryd.prog 7 #[v, .int .i64 a, .int .i64 b] w fun en w' => en = .returned (.bool (heapT L a b)) ∧ Grew w w' := by
  unfold heapT
  obtain ⟨va, vc, ev, _⟩ := h.one
  subst ev
  cases hc : closedP 0 L with
  | false =>
    have C : Hid (Calls Tryd.prog 13 #[.slice va L.length vc] w fun en w' => en = .returned (.tuple #[.pointer none, .bool false]) ∧ Grew w w') := oclosed_no h hf hc
    clear h hf hc ht
    go_enter Tryd.func7, Tryd.ntmps7
    go_wp2_with fail
    refine C.out.mono ?_
    rintro en w1 ⟨rfl, g1⟩
    have G1 : Hid (Grew w w1) := g1
    clear g1 C
    go_wp2_with fail
    go_ret
    exact ⟨rfl, G1.out⟩
  | true =>
    have C : Hid (Calls Tryd.prog 13 #[.slice va L.length vc] w fun en w' => ∃ ob w1, en = .returned (.tuple #[.pointer (some ⟨ob, 0, none⟩), .bool true]) ∧ Grew w w1 ∧ OW ob L w1 w' ∧ Grew w w') := oclosed_ow h hf ht hc
    clear h hf hc ht
    go_enter Tryd.func7, Tryd.ntmps7
    go_wp2_with fail
    refine C.out.mono ?_
    rintro en w2 ⟨ob, w1, rfl, g1, hO, g2⟩
    have K : Hid (Grew w w1 ∧ OW ob L w1 w2 ∧ Grew w w2) := ⟨g1, hO, g2⟩
    clear g1 hO g2 C
    go_wp2_with fail
    refine (heap_any K.out.2.1 a b).mono ?_
    rintro en w3 ⟨rfl, h1, h2⟩
    have G : Hid (Grew w w3) := h2.grew K.out.2.2 K.out.1 K.out.2.1
    clear h1 h2 K
    go_wp2_with fail
    go_ret
    exact ⟨rfl, G.out⟩
set_option maxRecDepth 100000 in
set_option maxHeartbeats 1000000 in
theorem compT_any {w : World} {v va vb : Value} {L : List RT} {a b : CT} (h : LR w v L) (hf : Fit L) (ht : Tab w) (ha : CV w va a) (hb : CV w vb b) :
    Calls Tryd.prog 8 #[v, va, vb] w fun en w' => en = .returned (.bool (compT L a b)) ∧ Grew w w' := by
  unfold compT
  obtain ⟨va', vc, ev, _⟩ := h.one
  subst ev
  have HA : Hid (CV w va a ∧ CV w vb b) := ⟨ha, hb⟩
  have CC : Hid (∀ ob w1 X, Grew w w1 → OW ob L w1 X → Calls Tryd.prog 15 #[.pointer (some ⟨ob, 0, none⟩), va, vb] X fun en w' => en = .returned (.bool (compP L a b)) ∧ OW ob L w1 w' ∧ MV ob X w') := fun ob w1 X g hO => by
    obtain ⟨⟨p1, r1, f1, e1, q1, q2, q3⟩, q4, q5, q6⟩ := ha
    obtain ⟨⟨p2, r2, f2, e2, s1, s2, s3⟩, s4, s5, s6⟩ := hb
    exact comp_any ⟨⟨p1, r1, f1, e1, q1.grew g, q2.grew g, q3.grew g⟩, q4, q5, q6⟩ ⟨⟨p2, r2, f2, e2, s1.grew g, s2.grew g, s3.grew g⟩, s4, s5, s6⟩ X hO
  obtain ⟨⟨p1, r1, f1, e1, q1, q2, q3⟩, _⟩ := ha
  obtain ⟨⟨p2, r2, f2, e2, s1, s2, s3⟩, _⟩ := hb
  obtain ⟨u1, k1, t1, _⟩ := q1.one
  obtain ⟨u2, k2, t2, _⟩ := q2.one
  obtain ⟨u3, k3, t3, _⟩ := q3.one
  obtain ⟨u4, k4, t4, _⟩ := s1.one
  obtain ⟨u5, k5, t5, _⟩ := s2.one
  obtain ⟨u6, k6, t6, _⟩ := s3.one
  subst t1 t2 t3 t4 t5 t6 e1 e2
  cases hc : closedP 0 L with
  | false =>
    have C : Hid (∀ X, Grew w X → Calls Tryd.prog 13 #[.slice va' L.length vc] X fun en w' => en = .returned (.tuple #[.pointer none, .bool false]) ∧ Grew X w') := fun X g => oclosed_no (h.grew g) hf hc
    clear h hf hc ht CC q1 q2 q3 s1 s2 s3
    go_enter Tryd.func8, Tryd.ntmps8
    go_wp2_with fail
    refine (C.out _ (((Grew.refl w).alloc _).alloc _)).mono ?_
    rintro en w1 ⟨rfl, g1⟩
    have G1 : Hid (Grew w w1) := (((Grew.refl w).alloc _).alloc _).trans g1
    clear g1 C
    go_wp2_with fail
    go_ret
    exact ⟨rfl, G1.out⟩
  | true =>
    have C : Hid (∀ X, Grew w X → Calls Tryd.prog 13 #[.slice va' L.length vc] X fun en w' => ∃ ob w1, en = .returned (.tuple #[.pointer (some ⟨ob, 0, none⟩), .bool true]) ∧ Grew X w1 ∧ OW ob L w1 w' ∧ Grew X w') := fun X g => oclosed_ow (h.grew g) hf (ht.grew g) hc
    clear h hf hc ht q1 q2 q3 s1 s2 s3
    go_enter Tryd.func8, Tryd.ntmps8
    go_wp2_with fail
    have x1 := heap_alloc_last (w.alloc (.cells #[.int .i64 a.kind, .slice u1 a.params.length k1, .slice u2 a.results.length k2, .slice u3 a.fields.length k3] 30)) (.cells #[.int .i64 b.kind, .slice u4 b.params.length k4, .slice u5 b.results.length k5, .slice u6 b.fields.length k6] 30)
    have x0 := heap_alloc (heap_alloc_last w (.cells #[.int .i64 a.kind, .slice u1 a.params.length k1, .slice u2 a.results.length k2, .slice u3 a.fields.length k3] 30)) (.cells #[.int .i64 b.kind, .slice u4 b.params.length k4, .slice u5 b.results.length k5, .slice u6 b.fields.length k6] 30)
    have g0 : Grew w ((w.alloc (.cells #[.int .i64 a.kind, .slice u1 a.params.length k1, .slice u2 a.results.length k2, .slice u3 a.fields.length k3] 30)).alloc (.cells #[.int .i64 b.kind, .slice u4 b.params.length k4, .slice u5 b.results.length k5, .slice u6 b.fields.length k6] 30)) := ((Grew.refl w).alloc _).alloc _
    rw [World.size_alloc] at x1
    refine (C.out _ g0).mono ?_
    rintro en w2 ⟨ob, w1, rfl, g1, hO, g2⟩
    have y0 := g2.other x0
    have y1 := g2.other x1
    have K : Hid (Grew w w1 ∧ OW ob L w1 w2 ∧ Grew w w2) := ⟨g0.trans g1, hO, g0.trans g2⟩
    have a0 := cell_of y0 0
    have a1 := cell_of y0 1
    have a2 := cell_of y0 2
    have a3 := cell_of y0 3
    have b0 := cell_of y1 0
    have b1 := cell_of y1 1
    have b2 := cell_of y1 2
    have b3 := cell_of y1 3
    simp at a0 a1 a2 a3 b0 b1 b2 b3
    clear g1 hO g2 C g0 x0 x1 y0 y1
    go_wp2_with fail
    refine (CC.out ob w1 w2 K.out.1 K.out.2.1).mono ?_
    rintro en w3 ⟨rfl, h1, h2⟩
    have G : Hid (Grew w w3) := h2.grew K.out.2.2 K.out.1 K.out.2.1
    clear h1 h2 K CC a0 a1 a2 a3 b0 b1 b2 b3
    go_wp2_with fail
    go_ret
    exact ⟨rfl, G.out⟩
set_option maxRecDepth 100000 in
set_option maxHeartbeats 1000000 in
theorem defined_any {ob : Nat} {L : List RT} {w W : World} (hO : OW ob L w W) (a b : Int) :
    Calls Tryd.prog 16 #[.pointer (some ⟨ob, 0, none⟩), .int .i64 a, .int .i64 b] W fun en w' => en = .returned (.bool (definedP L a b)) ∧ OW ob L w w' ∧ MV ob W w' := by
  have CD : Hid (∀ X h, OW ob L w X → Calls Tryd.prog 21 #[.pointer (some ⟨ob, 0, none⟩), .int .i64 h] X fun en w' => en = .returned (.bool (defB (flatT L).length h)) ∧ Grew X w') := fun X h hX => hX.defines h
  have CB : Hid (∀ X, OW ob L w X → defB (flatT L).length a = true → defB (flatT L).length b = true → Calls Tryd.prog 22 #[.pointer (some ⟨ob, 0, none⟩), .int .i64 a, .int .i64 b] X fun en w' => en = .returned (.bool (belowP L a.toNat b.toNat)) ∧ OW ob L w w' ∧ MV ob X w') := fun X hX h1 h2 => by
    have h3 : 0 ≤ a ∧ a < ((flatT L).length : Int) := by unfold defB at h1; simpa using h1
    have h4 : 0 ≤ b ∧ b < ((flatT L).length : Int) := by unfold defB at h2; simpa using h2
    have := below_any hX (a := a.toNat) (b := b.toNat) (by omega) (by omega)
    rw [Int.toNat_of_nonneg h3.1, Int.toNat_of_nonneg h4.1] at this
    exact this
  have HO : Hid (OW ob L w W) := hO
  have C1 : Hid (Calls Tryd.prog 21 #[.pointer (some ⟨ob, 0, none⟩), .int .i64 a] W fun en w' => en = .returned (.bool (defB (flatT L).length a)) ∧ Grew W w') := CD.out W a hO
  have C2 : Hid (∀ X, OW ob L w X → Calls Tryd.prog 21 #[.pointer (some ⟨ob, 0, none⟩), .int .i64 b] X fun en w' => en = .returned (.bool (defB (flatT L).length b)) ∧ Grew X w') := fun X h => CD.out X b h
  unfold definedP
  clear CD hO
  cases hda : defB (flatT L).length a with
  | false =>
    rw [hda] at C1
    clear CB C2
    go_enter Tryd.func16, Tryd.ntmps16
    go_wp2_with fail
    refine C1.out.mono ?_
    rintro en w1 ⟨rfl, g1⟩
    have G : Hid (Grew W w1) := g1
    clear g1 C1
    go_wp2_with fail
    go_ret
    exact ⟨rfl, HO.out.grew G.out, G.out.mv ob⟩
  | true =>
    rw [hda] at C1
    cases hdb : defB (flatT L).length b with
    | false =>
      rw [hdb] at C2
      clear CB
      go_enter Tryd.func16, Tryd.ntmps16
      go_wp2_with fail
      refine C1.out.mono ?_
      rintro en w1 ⟨rfl, g1⟩
      have G : Hid (Grew W w1) := g1
      clear g1 C1
      go_wp2_with fail
      refine (C2.out w1 (HO.out.grew G.out)).mono ?_
      rintro en w2 ⟨rfl, g2⟩
      have G2 : Hid (Grew W w2) := G.out.trans g2
      clear g2 C2 G
      go_wp2_with fail
      go_ret
      exact ⟨rfl, HO.out.grew G2.out, G2.out.mv ob⟩
    | true =>
      rw [hdb] at C2
      go_enter Tryd.func16, Tryd.ntmps16
      go_wp2_with fail
      refine C1.out.mono ?_
      rintro en w1 ⟨rfl, g1⟩
      have G : Hid (Grew W w1) := g1
      clear g1 C1
      go_wp2_with fail
      refine (C2.out w1 (HO.out.grew G.out)).mono ?_
      rintro en w2 ⟨rfl, g2⟩
      have G2 : Hid (Grew W w2) := G.out.trans g2
      clear g2 C2 G
      go_wp2_with fail
      refine (CB.out w2 (HO.out.grew G2.out) hda hdb).mono ?_
      rintro en w3 ⟨rfl, h1, h2⟩
      have Y : Hid (OW ob L w w3 ∧ MV ob W w3) := ⟨h1, (G2.out.mv ob).trans h2⟩
      clear h1 h2 CB G2
      go_wp2_with fail
      go_ret
      exact ⟨rfl, Y.out⟩
set_option maxRecDepth 100000 in
set_option maxHeartbeats 1000000 in
theorem definedT_any {w : World} {v : Value} {L : List RT} (h : LR w v L) (hf : Fit L) (ht : Tab w) (a b : Int) :
    Calls Tryd.prog 9 #[v, .int .i64 a, .int .i64 b] w fun en w' => en = .returned (.bool (definedT L a b)) ∧ Grew w w' := by
  unfold definedT
  obtain ⟨va, vc, ev, _⟩ := h.one
  subst ev
  cases hc : closedP 0 L with
  | false =>
    have C : Hid (Calls Tryd.prog 13 #[.slice va L.length vc] w fun en w' => en = .returned (.tuple #[.pointer none, .bool false]) ∧ Grew w w') := oclosed_no h hf hc
    clear h hf hc ht
    go_enter Tryd.func9, Tryd.ntmps9
    go_wp2_with fail
    refine C.out.mono ?_
    rintro en w1 ⟨rfl, g1⟩
    have G1 : Hid (Grew w w1) := g1
    clear g1 C
    go_wp2_with fail
    go_ret
    exact ⟨rfl, G1.out⟩
  | true =>
    have C : Hid (Calls Tryd.prog 13 #[.slice va L.length vc] w fun en w' => ∃ ob w1, en = .returned (.tuple #[.pointer (some ⟨ob, 0, none⟩), .bool true]) ∧ Grew w w1 ∧ OW ob L w1 w' ∧ Grew w w') := oclosed_ow h hf ht hc
    clear h hf hc ht
    go_enter Tryd.func9, Tryd.ntmps9
    go_wp2_with fail
    refine C.out.mono ?_
    rintro en w2 ⟨ob, w1, rfl, g1, hO, g2⟩
    have K : Hid (Grew w w1 ∧ OW ob L w1 w2 ∧ Grew w w2) := ⟨g1, hO, g2⟩
    clear g1 hO g2 C
    go_wp2_with fail
    refine (defined_any K.out.2.1 a b).mono ?_
    rintro en w3 ⟨rfl, h1, h2⟩
    have G : Hid (Grew w w3) := h2.grew K.out.2.2 K.out.1 K.out.2.1
    clear h1 h2 K
    go_wp2_with fail
    go_ret
    exact ⟨rfl, G.out⟩
theorem fit_nil : Fit [] := ⟨⟨by decide, by decide, fun r h => by cases h⟩, (fun r h => by cases h), (fun r h => by cases h)⟩
set_option maxRecDepth 100000 in
set_option maxHeartbeats 1000000 in
theorem awake_any {w : World} (ht : Tab w) : Calls Tryd.prog 6 #[] w fun en w' => en = .returned (.bool true) ∧ Grew w w' := by
  have C1 : Hid (∀ X, Grew w X → Calls Tryd.prog 7 #[.slice none 0 0, .int .i64 (-10), .int .i64 (-6)] X fun en w' => en = .returned (.bool true) ∧ Grew X w') := fun X g => by
    have := heapT_any (Lst.nil 2 ER X) fit_nil (ht.grew g) (-10) (-6)
    rw [show heapT [] (-10) (-6) = true from by decide] at this
    exact this
  have C2 : Hid (∀ X, Grew w X → Calls Tryd.prog 7 #[.slice none 0 0, .int .i64 (-6), .int .i64 (-7)] X fun en w' => en = .returned (.bool false) ∧ Grew X w') := fun X g => by
    have := heapT_any (Lst.nil 2 ER X) fit_nil (ht.grew g) (-6) (-7)
    rw [show heapT [] (-6) (-7) = false from by decide] at this
    exact this
  clear ht
  go_enter Tryd.func6, Tryd.ntmps6
  go_wp2_with fail
  refine (C1.out w (Grew.refl w)).mono ?_
  rintro en w1 ⟨rfl, g1⟩
  have G1 : Hid (Grew w w1) := g1
  clear g1 C1
  go_wp2_with fail
  refine (C2.out w1 G1.out).mono ?_
  rintro en w2 ⟨rfl, g2⟩
  have G2 : Hid (Grew w w2) := G1.out.trans g2
  clear g2 C2 G1
  go_wp2_with fail
  go_ret
  exact ⟨rfl, G2.out⟩
end Go.Proofs.YtojkonoffdlbpaaDoor

namespace Go.Proofs.YtojkonoffdlbpaaDoor
open Go.RowKit
set_option linter.unusedVariables false
set_option linter.unusedSimpArgs false

theorem sup_of {L : List RT} {n m : Nat} {x : SB} (hx : (flatT L)[n]? = some x) (hs : x.supers = [(m : Int)]) : supI L n = some (m : Int) := by
  unfold supI
  rw [hx]
  simp [hs]
theorem below_sup {L : List RT} {n m : Nat} {x : SB} (hx : (flatT L)[n]? = some x) (hs : x.supers = [(m : Int)]) (hm : m < n) : belowP L n m = true := by
  have hn := (List.getElem?_eq_some_iff.1 hx).1
  obtain ⟨k, hk⟩ : ∃ k, (flatT L).length = k + 1 + 1 := ⟨(flatT L).length - 2, by omega⟩
  unfold belowP rowL
  rw [hk, rowF_some (sup_of hx hs), Int.toNat_natCast]
  cases e : supI L m with
  | none => rw [rowF_none e]; simp
  | some s => rw [rowF_some e]; simp
theorem deep_facts {L : List RT} {n m : Nat} {x up : SB} (hc : closedP 0 L = true) (hx : (flatT L)[n]? = some x) (hs : x.supers = [(m : Int)]) (hm : m < n) (hk : compP L x.comp up.comp = true) :
    heapT L (n : Int) (m : Int) = true ∧ compT L x.comp up.comp = true ∧ definedT L (n : Int) (m : Int) = true ∧ x.comp.kind = up.comp.kind := by
  have hn := (List.getElem?_eq_some_iff.1 hx).1
  have h1 : defB (flatT L).length (n : Int) = true := by unfold defB; simp; omega
  have h2 : defB (flatT L).length (m : Int) = true := by unfold defB; simp; omega
  have h3 := below_sup hx hs hm
  refine ⟨?_, ?_, ?_, ?_⟩
  · unfold heapT heapP
    rw [hc, h1, h2, Bool.true_and, Bool.and_self, if_pos rfl, Int.toNat_natCast, Int.toNat_natCast, h3, Bool.or_true]
  · unfold compT
    rw [hc, hk]; rfl
  · unfold definedT definedP
    rw [hc, h1, h2, Int.toNat_natCast, Int.toNat_natCast, h3]; rfl
  · unfold compP at hk
    rw [Bool.and_eq_true] at hk
    simpa using hk.1
/- The two boxes of the law. -/
structure LB (w : World) (Bs Bu : Nat) (s u : Array Value) (A : World) : Prop where
  g : Grew w A
  b1 : A.heap[Bs]? = some (.cells s 32 (0, 0))
  b2 : A.heap[Bu]? = some (.cells u 32 (0, 0))
theorem LB.grew {w A B : World} {Bs Bu : Nat} {s u : Array Value} (h : LB w Bs Bu s u A) (g : Grew A B) : LB w Bs Bu s u B := ⟨h.g.trans g, g.other h.b1, g.other h.b2⟩
set_option maxRecDepth 100000 in
set_option maxHeartbeats 4000000 in
theorem deep_any {w : World} {v : Value} {L : List RT} (h : LR w v L) (hf : Fit L) (ht : Tab w) (n : Int) (hn1 : n ≤ 9223372036854775807) :
    Calls Tryd.prog 3 #[v, .int .i64 n] w fun en w' => en = .returned (.bool true) ∧ Grew w w' := by
  have CD : Hid (Calls Tryd.prog 4 #[v] w fun en w' => ∃ n e : Int, en = .returned (.tuple #[.int .i64 n, .int .i64 e]) ∧ Grew w w' ∧ (e = 0 → closedP 0 L = true ∧ ∀ j x, (flatT L)[j]? = some x → DeclOk L j x)) := decl_any h hf ht
  have CA : Hid (∀ X k, Grew w X → k ≤ 9223372036854775807 → Calls Tryd.prog 5 #[v, .int .i64 k] X fun en w' => AtR X L k en ∧ (0 ≤ k → k < ((flatT L).length : Int) → en ≠ .returned (.tuple #[.agg ZS, .int .i64 0, .int .i64 0, .bool false])) ∧ Grew X w') := fun X k g hk => at_any (h.grew g) hf k hk
  have CW : Hid (∀ X, Grew w X → Calls Tryd.prog 6 #[] X fun en w' => en = .returned (.bool true) ∧ Grew X w') := fun X g => awake_any (ht.grew g)
  have CH : Hid (∀ X a b, Grew w X → Calls Tryd.prog 7 #[v, .int .i64 a, .int .i64 b] X fun en w' => en = .returned (.bool (heapT L a b)) ∧ Grew X w') := fun X a b g => heapT_any (h.grew g) hf (ht.grew g) a b
  have CF : Hid (∀ X a b, Grew w X → Calls Tryd.prog 9 #[v, .int .i64 a, .int .i64 b] X fun en w' => en = .returned (.bool (definedT L a b)) ∧ Grew X w') := fun X a b g => definedT_any (h.grew g) hf (ht.grew g) a b
  have CC : Hid (∀ X va vb a b, Grew w X → CV X va a → CV X vb b → Calls Tryd.prog 8 #[v, va, vb] X fun en w' => en = .returned (.bool (compT L a b)) ∧ Grew X w') := fun X va vb a b g ha hb => compT_any (h.grew g) hf (ht.grew g) ha hb
  have HF : Hid (Fit L) := hf
  obtain ⟨va, vc, ev, _⟩ := h.one
  subst ev
  clear h hf ht
  go_enter Tryd.func3, Tryd.ntmps3
  go_wp2_with fail
  refine CD.out.mono ?_
  rintro en w1 ⟨p, e, rfl, g1, hD⟩
  have G1 : Hid (Grew w w1) := g1
  have HD : Hid (e = 0 → closedP 0 L = true ∧ ∀ j x, (flatT L)[j]? = some x → DeclOk L j x) := hD
  clear g1 hD CD
  go_wp2_with fail
  refine (CA.out w1 n G1.out hn1).mono ?_
  rintro en w2 ⟨hA, _, g2⟩
  have G2 : Hid (Grew w w2) := G1.out.trans g2
  have G12 : Hid (Grew w1 w2) := g2
  clear g2
  rcases hA with ⟨m, x, sv, pv, rv, fv, q1, q2, rfl, hx, hs, rfl⟩ | rfl
  · obtain ⟨sa, sc, e1, _⟩ := hs.1.one
    obtain ⟨pa, pc_, e2, _⟩ := hs.2.1.one
    obtain ⟨ra, rc, e3, _⟩ := hs.2.2.1.one
    obtain ⟨fa, fc, e4, _⟩ := hs.2.2.2.one
    subst e1 e2 e3 e4
    have HS : Hid (SubR w1 x (.slice sa x.supers.length sc) (.slice pa x.comp.params.length pc_) (.slice ra x.comp.results.length rc) (.slice fa x.comp.fields.length fc) ∧ (flatT L)[m]? = some x) := ⟨hs, hx⟩
    clear hs hx
    by_cases he : e = 0
    · subst he
      obtain ⟨hcl, hok⟩ := HD.out rfl
      rcases hok m x HS.out.2 with hnil | ⟨k, up, hs, hkm, hup, hfin, hcmp⟩
      · have hl0 : x.supers.length = 0 := by rw [hnil]; rfl
        rw [hl0]
        clear hok hcl CH CF CC CA
        go_wp2_with fail
        refine (CW.out _ (G2.out.alloc _)).mono ?_
        rintro en w3 ⟨rfl, g3⟩
        have G3 : Hid (Grew w w3) := (G2.out.alloc _).trans g3
        clear g3 CW G1 G2 G12
        go_wp2_with fail
        go_ret
        exact ⟨rfl, G3.out⟩
      · obtain ⟨f1, f2, f3, f4⟩ := deep_facts hcl HS.out.2 hs hkm hcmp
        have hsv := HS.out.1.1
        rw [hs] at hsv
        have hl1 : x.supers.length = 1 := by rw [hs]; rfl
        rw [hl1] at HS ⊢
        have hsv' : LI w1 (.slice sa 1 sc) [(k : Int)] := hsv
        obtain ⟨sb, so, rfl, _, hel⟩ := hsv'.get (by simp)
        have e2 : w1.cell? ⟨sb, so, none⟩ = some (.int .i64 (k : Int)) := by
          have := hel 0 _ rfl
          rw [Nat.zero_mul, Nat.add_zero] at this
          exact this
        have hkN := (List.getElem?_eq_some_iff.1 hup).1
        have HE : Hid (w1.cell? ⟨sb, so, none⟩ = some (.int .i64 (k : Int))) := e2
        have HU : Hid ((flatT L)[k]? = some up) := hup
        have HT : Hid (heapT L (m : Int) (k : Int) = true ∧ compT L x.comp up.comp = true ∧ definedT L (m : Int) (k : Int) = true) := ⟨f1, f2, f3⟩
        have hk64 : (k : Int) ≤ 9223372036854775807 := by
          have : (flatT L).length ≤ 1048576 := by rw [flat_cnt]; exact HF.out.sml.2.1
          omega
        have hkN' : Hid (k < (flatT L).length) := hkN
        have hfin' : Hid (up.final_ = false) := hfin
        have hkd : Hid (up.comp.kind = x.comp.kind) := f4.symm
        have g3 : Grew w1 (w2.alloc (.cells #[.bool x.final_, .slice (some ⟨sb, so, none⟩) 1 sc, .int .i64 x.comp.kind, .slice pa x.comp.params.length pc_, .slice ra x.comp.results.length rc, .slice fa x.comp.fields.length fc] 32)) := G12.out.alloc _
        have c3 := cell_grew e2 g3
        have K3 : Hid (Grew w1 (w2.alloc (.cells #[.bool x.final_, .slice (some ⟨sb, so, none⟩) 1 sc, .int .i64 x.comp.kind, .slice pa x.comp.params.length pc_, .slice ra x.comp.results.length rc, .slice fa x.comp.fields.length fc] 32)) ∧ (w2.alloc (.cells #[.bool x.final_, .slice (some ⟨sb, so, none⟩) 1 sc, .int .i64 x.comp.kind, .slice pa x.comp.params.length pc_, .slice ra x.comp.results.length rc, .slice fa x.comp.fields.length fc] 32)).heap[w2.heap.size]? = some (.cells #[.bool x.final_, .slice (some ⟨sb, so, none⟩) 1 sc, .int .i64 x.comp.kind, .slice pa x.comp.params.length pc_, .slice ra x.comp.results.length rc, .slice fa x.comp.fields.length fc] 32 (0, 0))) := ⟨g3, heap_alloc_last _ _⟩
        clear hok hcl hs hkm hup hfin hcmp f1 f2 f3 f4 hsv hsv' hel e2 hkN CW HD hl1 g3
        go_wp2_with fail
        generalize (w2.alloc (.cells #[.bool x.final_, .slice (some ⟨sb, so, none⟩) 1 sc, .int .i64 x.comp.kind, .slice pa x.comp.params.length pc_, .slice ra x.comp.results.length rc, .slice fa x.comp.fields.length fc] 32)) = w3 at *
        generalize w2.heap.size = Bs at *
        refine (CA.out w3 k (G1.out.trans K3.out.1) hk64).mono ?_
        rintro en w4 ⟨hA, hne, g4⟩
        have hne' := hne (by omega) (by have := hkN'.out; omega)
        rcases hA with ⟨m', x', sv', pv', rv', fv', p1, p2, hm', hx', hs', rfl⟩ | hbad
        · have em : m' = k := by omega
          subst em
          have ex : x' = up := by
            have := HU.out
            rw [hx'] at this
            injection this
          subst ex
          obtain ⟨ua, uc, e1, _⟩ := hs'.1.one
          obtain ⟨va2, vc2, e2, _⟩ := hs'.2.1.one
          obtain ⟨wa, wc, e3, _⟩ := hs'.2.2.1.one
          obtain ⟨xa, xc, e4, _⟩ := hs'.2.2.2.one
          subst e1 e2 e3 e4
          rw [hfin'.out, hkd.out]
          have g5 : Grew w3 (w4.alloc (.cells #[.bool false, .slice ua x'.supers.length uc, .int .i64 x.comp.kind, .slice va2 x'.comp.params.length vc2, .slice wa x'.comp.results.length wc, .slice xa x'.comp.fields.length xc] 32)) := g4.alloc _
          have K5 : Hid (LB w1 Bs w4.heap.size #[.bool x.final_, .slice (some ⟨sb, so, none⟩) 1 sc, .int .i64 x.comp.kind, .slice pa x.comp.params.length pc_, .slice ra x.comp.results.length rc, .slice fa x.comp.fields.length fc] #[.bool false, .slice ua x'.supers.length uc, .int .i64 x.comp.kind, .slice va2 x'.comp.params.length vc2, .slice wa x'.comp.results.length wc, .slice xa x'.comp.fields.length xc] (w4.alloc (.cells #[.bool false, .slice ua x'.supers.length uc, .int .i64 x.comp.kind, .slice va2 x'.comp.params.length vc2, .slice wa x'.comp.results.length wc, .slice xa x'.comp.fields.length xc] 32))) := (⟨K3.out.1.trans g5, g5.other K3.out.2, heap_alloc_last _ _⟩ : LB w1 Bs w4.heap.size #[.bool x.final_, .slice (some ⟨sb, so, none⟩) 1 sc, .int .i64 x.comp.kind, .slice pa x.comp.params.length pc_, .slice ra x.comp.results.length rc, .slice fa x.comp.fields.length fc] #[.bool false, .slice ua x'.supers.length uc, .int .i64 x.comp.kind, .slice va2 x'.comp.params.length vc2, .slice wa x'.comp.results.length wc, .slice xa x'.comp.fields.length xc] (w4.alloc (.cells #[.bool false, .slice ua x'.supers.length uc, .int .i64 x.comp.kind, .slice va2 x'.comp.params.length vc2, .slice wa x'.comp.results.length wc, .slice xa x'.comp.fields.length xc] 32)))
          have HV : Hid (∀ X, Grew w3 X → CV X (.agg #[.int .i64 x.comp.kind, .slice pa x.comp.params.length pc_, .slice ra x.comp.results.length rc, .slice fa x.comp.fields.length fc]) x.comp ∧ CV X (.agg #[.int .i64 x.comp.kind, .slice va2 x'.comp.params.length vc2, .slice wa x'.comp.results.length wc, .slice xa x'.comp.fields.length xc]) x'.comp) := fun X g => by
            have z1 := flat_sml HF.out HS.out.2
            have z2 := flat_sml HF.out HU.out
            have gg := K3.out.1.trans g
            refine ⟨⟨⟨_, _, _, rfl, HS.out.1.2.1.grew gg, HS.out.1.2.2.1.grew gg, HS.out.1.2.2.2.grew gg⟩, z1.2.1, z1.2.2.1, z1.2.2.2⟩, ⟨⟨_, _, _, by rw [hkd.out], hs'.2.1.grew g, hs'.2.2.1.grew g, hs'.2.2.2.grew g⟩, z2.2.1, z2.2.2.1, z2.2.2.2⟩⟩
          have HG5 : Hid (Grew w3 (w4.alloc (.cells #[.bool false, .slice ua x'.supers.length uc, .int .i64 x.comp.kind, .slice va2 x'.comp.params.length vc2, .slice wa x'.comp.results.length wc, .slice xa x'.comp.fields.length xc] 32))) := g5
          have c5 := cell_grew HE.out K5.out.g
          have s1 := cell_of K5.out.b1 1
          simp at s1
          clear g4 g5 hs' hx' hne hne' c3 CA hm'
          go_wp2_with fail
          generalize (w4.alloc (.cells #[.bool false, .slice ua x'.supers.length uc, .int .i64 x.comp.kind, .slice va2 x'.comp.params.length vc2, .slice wa x'.comp.results.length wc, .slice xa x'.comp.fields.length xc] 32)) = w5 at *
          generalize w4.heap.size = Bu at *
          refine (CH.out w5 m m' (G1.out.trans K5.out.g)).mono ?_
          rintro en w6 ⟨rfl, g6⟩
          rw [HT.out.1]
          have K6 : Hid (LB w1 Bs Bu #[.bool x.final_, .slice (some ⟨sb, so, none⟩) 1 sc, .int .i64 x.comp.kind, .slice pa x.comp.params.length pc_, .slice ra x.comp.results.length rc, .slice fa x.comp.fields.length fc] #[.bool false, .slice ua x'.supers.length uc, .int .i64 x.comp.kind, .slice va2 x'.comp.params.length vc2, .slice wa x'.comp.results.length wc, .slice xa x'.comp.fields.length xc] w6) := K5.out.grew g6
          have HG6 : Hid (Grew w3 w6) := HG5.out.trans g6
          have a2 := cell_of K6.out.b1 2
          have a3 := cell_of K6.out.b1 3
          have a4 := cell_of K6.out.b1 4
          have a5 := cell_of K6.out.b1 5
          have b2 := cell_of K6.out.b2 2
          have b3 := cell_of K6.out.b2 3
          have b4 := cell_of K6.out.b2 4
          have b5 := cell_of K6.out.b2 5
          simp at a2 a3 a4 a5 b2 b3 b4 b5
          clear g6 K5 HG5 c5 s1
          go_wp2_with fail
          refine (CC.out w6 _ _ _ _ (G1.out.trans K6.out.g) (HV.out w6 HG6.out).1 (HV.out w6 HG6.out).2).mono ?_
          rintro en w7 ⟨rfl, g7⟩
          rw [HT.out.2.1]
          have K7 : Hid (LB w1 Bs Bu #[.bool x.final_, .slice (some ⟨sb, so, none⟩) 1 sc, .int .i64 x.comp.kind, .slice pa x.comp.params.length pc_, .slice ra x.comp.results.length rc, .slice fa x.comp.fields.length fc] #[.bool false, .slice ua x'.supers.length uc, .int .i64 x.comp.kind, .slice va2 x'.comp.params.length vc2, .slice wa x'.comp.results.length wc, .slice xa x'.comp.fields.length xc] w7) := K6.out.grew g7
          have c7 := cell_grew HE.out K7.out.g
          have a1' := cell_of K7.out.b1 1
          have a2' := cell_of K7.out.b1 2
          have b0' := cell_of K7.out.b2 0
          have b2' := cell_of K7.out.b2 2
          simp at a1' a2' b0' b2'
          clear g7 K6 HG6 HV CC a2 a3 a4 a5 b2 b3 b4 b5
          go_wp2_with fail
          refine (CF.out w7 m m' (G1.out.trans K7.out.g)).mono ?_
          rintro en w8 ⟨rfl, g8⟩
          rw [HT.out.2.2]
          have G8 : Hid (Grew w w8) := (G1.out.trans K7.out.g).trans g8
          clear g8 K7 c7 a1' a2' b0' b2'
          go_wp2_with fail
          go_ret
          exact ⟨rfl, G8.out⟩
        · exact absurd hbad hne'
    · have de : (e != 0) = true := by simpa using he
      have de2 : (e == 0) = false := by simpa using he
      clear he CH CF CC CA HD
      go_wp2_with fail
      refine (CW.out _ (G2.out.alloc _)).mono ?_
      rintro en w3 ⟨rfl, g3⟩
      have G3 : Hid (Grew w w3) := (G2.out.alloc _).trans g3
      clear g3 CW G1 G2 G12
      go_wp2_with fail
      go_ret
      exact ⟨rfl, G3.out⟩
  · unfold ZS
    clear CH CF CC CA HD
    by_cases he : e = 0
    · subst he
      go_wp2_with fail
      refine (CW.out _ (G2.out.alloc _)).mono ?_
      rintro en w3 ⟨rfl, g3⟩
      have G3 : Hid (Grew w w3) := (G2.out.alloc _).trans g3
      clear g3 CW G1 G2 G12
      go_wp2_with fail
      go_ret
      exact ⟨rfl, G3.out⟩
    · have de : (e != 0) = true := by simpa using he
      have de2 : (e == 0) = false := by simpa using he
      clear he
      go_wp2_with fail
      refine (CW.out _ (G2.out.alloc _)).mono ?_
      rintro en w3 ⟨rfl, g3⟩
      have G3 : Hid (Grew w w3) := (G2.out.alloc _).trans g3
      clear g3 CW G1 G2 G12
      go_wp2_with fail
      go_ret
      exact ⟨rfl, G3.out⟩
end Go.Proofs.YtojkonoffdlbpaaDoor
