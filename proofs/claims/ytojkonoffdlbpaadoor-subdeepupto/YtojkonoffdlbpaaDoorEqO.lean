/-
  Sub's alike and field of an order, and lists held against lists; no statement is proved here.
-/
import Derived.Test.YtojkonoffdlbpaaDoorHeaV
namespace Go.Proofs.YtojkonoffdlbpaaDoor
open Go.RowKit
set_option linter.unusedVariables false
set_option linter.unusedSimpArgs false

def bytesP (n : Int) : Int := if n = 6 then 1 else if n = 7 then 2 else if n = 1 ∨ n = 3 then 4 else if n = 2 ∨ n = 4 then 8 else 0
def numP (a b : VT) : Bool := a.num == b.num && decide (0 < bytesP a.num)
def valP (L : List RT) (a b : VT) : Bool := if (a.num == 5) && (b.num == 5) then (b.null || !a.null) && heapP L a.heap b.heap else numP a b
def alikeP (L : List RT) (a b : VT) : Bool := valP L a b && valP L b a
def fieldP (L : List RT) (a b : FT) : Bool := if a.mut_ || b.mut_ then (a.mut_ && b.mut_) && alikeP L a.ty b.ty else valP L a.ty b.ty
set_option maxRecDepth 100000 in
set_option maxHeartbeats 1000000 in
theorem bytes_any (n h : Int) (u : Bool) (w : World) : Calls Tryd.prog 53 #[.agg #[.int .i64 n, .bool u, .int .i64 h]] w fun en w' => en = .returned (.int .i64 (bytesP n)) ∧ Grew w w' := by
  have fin : ∀ r, bytesP n = r → bytesP n = r := fun _ h => h
  by_cases h6 : n = 6
  · subst h6
    go_enter Tryd.func53, Tryd.ntmps53
    go_wp2_with fail
    go_ret
    exact ⟨rfl, (Grew.refl w).alloc _⟩
  have d6 : (n == 6) = false := by simpa using h6
  by_cases h7 : n = 7
  · subst h7
    go_enter Tryd.func53, Tryd.ntmps53
    go_wp2_with fail
    go_ret
    exact ⟨rfl, (Grew.refl w).alloc _⟩
  have d7 : (n == 7) = false := by simpa using h7
  by_cases h1 : n = 1
  · subst h1
    go_enter Tryd.func53, Tryd.ntmps53
    go_wp2_with fail
    go_ret
    exact ⟨rfl, (Grew.refl w).alloc _⟩
  have d1 : (n == 1) = false := by simpa using h1
  by_cases h3 : n = 3
  · subst h3
    go_enter Tryd.func53, Tryd.ntmps53
    go_wp2_with fail
    go_ret
    exact ⟨rfl, (Grew.refl w).alloc _⟩
  have d3 : (n == 3) = false := by simpa using h3
  by_cases h2 : n = 2
  · subst h2
    go_enter Tryd.func53, Tryd.ntmps53
    go_wp2_with fail
    go_ret
    exact ⟨rfl, (Grew.refl w).alloc _⟩
  have d2 : (n == 2) = false := by simpa using h2
  by_cases h4 : n = 4
  · subst h4
    go_enter Tryd.func53, Tryd.ntmps53
    go_wp2_with fail
    go_ret
    exact ⟨rfl, (Grew.refl w).alloc _⟩
  have d4 : (n == 4) = false := by simpa using h4
  have e : bytesP n = 0 := by unfold bytesP; rw [if_neg h6, if_neg h7, if_neg (by omega), if_neg (by omega)]
  rw [e]
  clear fin e h1 h2 h3 h4 h6 h7
  go_enter Tryd.func53, Tryd.ntmps53
  go_wp2_with fail
  go_ret
  exact ⟨rfl, (Grew.refl w).alloc _⟩
set_option maxRecDepth 100000 in
set_option maxHeartbeats 1000000 in
theorem numV_any (a b : VT) (w : World) : Calls Tryd.prog 46 #[a.v, b.v] w fun en w' => en = .returned (.bool (numP a b)) ∧ Grew w w' := by
  have CB : Hid (∀ X, Calls Tryd.prog 53 #[.agg #[.int .i64 a.num, .bool a.null, .int .i64 a.heap]] X fun en w' => en = .returned (.int .i64 (bytesP a.num)) ∧ Grew X w') := fun X => bytes_any _ _ _ X
  unfold numP VT.v
  generalize bytesP a.num = by_ at *
  obtain ⟨an, au, ah⟩ := a
  obtain ⟨bn, bu, bh⟩ := b
  cases hc : (an == bn) with
  | false =>
    go_enter Tryd.func46, Tryd.ntmps46
    go_wp2_with fail
    go_ret
    exact ⟨rfl, ((Grew.refl w).alloc _).alloc _⟩
  | true =>
    go_enter Tryd.func46, Tryd.ntmps46
    go_wp2_with fail
    refine (CB.out _).mono ?_
    rintro en w1 ⟨rfl, g1⟩
    have G1 : Hid (Grew w w1) := (((Grew.refl w).alloc _).alloc _).trans g1
    clear g1 CB
    go_wp2_with fail
    go_ret
    exact ⟨by simp, G1.out⟩
set_option maxRecDepth 100000 in
set_option maxHeartbeats 1000000 in
theorem val_any {ob : Nat} {L : List RT} {w W : World} (hO : OW ob L w W) (a b : VT) :
    Calls Tryd.prog 36 #[.pointer (some ⟨ob, 0, none⟩), a.v, b.v] W fun en w' => en = .returned (.bool (valP L a b)) ∧ OW ob L w w' ∧ MV ob W w' := by
  have CN : Hid (∀ X, Calls Tryd.prog 46 #[a.v, b.v] X fun en w' => en = .returned (.bool (numP a b)) ∧ Grew X w') := fun X => numV_any a b X
  have CH : Hid (∀ X, OW ob L w X → Calls Tryd.prog 14 #[.pointer (some ⟨ob, 0, none⟩), .int .i64 a.heap, .int .i64 b.heap] X fun en w' => en = .returned (.bool (heapP L a.heap b.heap)) ∧ OW ob L w w' ∧ MV ob X w') := fun X h => heap_any h _ _
  have HO : Hid (OW ob L w W) := hO
  unfold valP
  generalize numP a b = nn at *
  generalize heapP L a.heap b.heap = hh at *
  obtain ⟨an, au, ah⟩ := a
  obtain ⟨bn, bu, bh⟩ := b
  unfold VT.v at CN ⊢
  clear hO
  have g0 : Hid (Grew W ((W.alloc (.cells #[.int .i64 an, .bool au, .int .i64 ah] 68)).alloc (.cells #[.int .i64 bn, .bool bu, .int .i64 bh] 68))) := ((Grew.refl W).alloc _).alloc _
  by_cases h5 : an = 5 ∧ bn = 5
  · obtain ⟨rfl, rfl⟩ := h5
    by_cases hn : bu = true ∨ au = false
    · have e : (bu || !au) = true := by rcases hn with rfl | rfl <;> simp
      have hcs : bu = true ∨ (bu = false ∧ au = false) := by cases bu <;> simp_all
      clear hn CN
      simp only [e, Bool.true_and, beq_self_eq_true, if_true]
      clear e
      rcases hcs with rfl | ⟨rfl, rfl⟩
      all_goals
        go_enter Tryd.func36, Tryd.ntmps36
        go_wp2_with fail
        refine (CH.out _ (HO.out.grew g0.out)).mono ?_
        rintro en w1 ⟨rfl, y1, y2⟩
        have Y : Hid (OW ob L w w1 ∧ MV ob W w1) := ⟨y1, (g0.out.mv ob).trans y2⟩
        clear y1 y2 CH
        go_wp2_with fail
        go_ret
        exact ⟨rfl, Y.out⟩
    · have hcs : bu = false ∧ au = true := by cases bu <;> cases au <;> simp_all
      obtain ⟨rfl, rfl⟩ := hcs
      clear hn CN CH
      simp only [Bool.not_true, Bool.or_self, Bool.false_and, beq_self_eq_true, Bool.and_self, if_true]
      go_enter Tryd.func36, Tryd.ntmps36
      go_wp2_with fail
      go_ret
      exact ⟨rfl, HO.out.grew g0.out, g0.out.mv ob⟩
  · have e : ((an == 5) && (bn == 5)) = false := by
      cases e1 : (an == 5) with
      | false => rfl
      | true =>
        cases e2 : (bn == 5) with
        | false => rfl
        | true => exact absurd ⟨by simpa using e1, by simpa using e2⟩ h5
    have hcs : (an == 5) = false ∨ (an = 5 ∧ (bn == 5) = false) := by
      cases e1 : (an == 5) with
      | false => exact Or.inl rfl
      | true => rw [e1] at e; exact Or.inr ⟨by simpa using e1, by simpa using e⟩
    simp only [e]
    clear h5 e CH
    rcases hcs with d | ⟨rfl, d⟩
    all_goals
      go_enter Tryd.func36, Tryd.ntmps36
      go_wp2_with fail
      refine (CN.out _).mono ?_
      rintro en w1 ⟨rfl, g1⟩
      have Y : Hid (Grew W w1) := g0.out.trans g1
      clear g1 CN
      go_wp2_with fail
      go_ret
      exact ⟨rfl, HO.out.grew Y.out, Y.out.mv ob⟩
end Go.Proofs.YtojkonoffdlbpaaDoor

namespace Go.Proofs.YtojkonoffdlbpaaDoor
open Go.RowKit
set_option linter.unusedVariables false
set_option linter.unusedSimpArgs false

/- A method of the order answers r. -/
def MC (ob : Nat) (L : List RT) (w : World) (n : FuncId) (args : Array Value) (r : Bool) : Prop := ∀ X, OW ob L w X → Calls Tryd.prog n args X fun en w' => en = .returned (.bool r) ∧ OW ob L w w' ∧ MV ob X w'
set_option maxRecDepth 100000 in
set_option maxHeartbeats 1000000 in
theorem alike_any {ob : Nat} {L : List RT} {w : World} (a b : VT) : MC ob L w 40 #[.pointer (some ⟨ob, 0, none⟩), a.v, b.v] (alikeP L a b) := by
  intro W hO
  have C1 : Hid (∀ X, OW ob L w X → Calls Tryd.prog 36 #[.pointer (some ⟨ob, 0, none⟩), a.v, b.v] X fun en w' => en = .returned (.bool (valP L a b)) ∧ OW ob L w w' ∧ MV ob X w') := fun X h => val_any h a b
  have C2 : Hid (∀ X, OW ob L w X → Calls Tryd.prog 36 #[.pointer (some ⟨ob, 0, none⟩), b.v, a.v] X fun en w' => en = .returned (.bool (valP L b a)) ∧ OW ob L w w' ∧ MV ob X w') := fun X h => val_any h b a
  have HO : Hid (OW ob L w W) := hO
  unfold alikeP
  generalize valP L a b = r1 at *
  generalize valP L b a = r2 at *
  obtain ⟨an, au, ah⟩ := a
  obtain ⟨bn, bu, bh⟩ := b
  unfold VT.v at C1 C2 ⊢
  clear hO
  have g0 : Grew W ((W.alloc (.cells #[.int .i64 an, .bool au, .int .i64 ah] 68)).alloc (.cells #[.int .i64 bn, .bool bu, .int .i64 bh] 68)) := ((Grew.refl W).alloc _).alloc _
  have x0 : ((W.alloc (.cells #[.int .i64 an, .bool au, .int .i64 ah] 68)).alloc (.cells #[.int .i64 bn, .bool bu, .int .i64 bh] 68)).heap[W.heap.size]? = some (.cells #[.int .i64 an, .bool au, .int .i64 ah] 68 (0, 0)) := heap_alloc (heap_alloc_last _ _) _
  have x1 := heap_alloc_last (W.alloc (.cells #[.int .i64 an, .bool au, .int .i64 ah] 68)) (.cells #[.int .i64 bn, .bool bu, .int .i64 bh] 68)
  rw [World.size_alloc] at x1
  have K0 : Hid (OW ob L w ((W.alloc (.cells #[.int .i64 an, .bool au, .int .i64 ah] 68)).alloc (.cells #[.int .i64 bn, .bool bu, .int .i64 bh] 68)) ∧ MV ob W ((W.alloc (.cells #[.int .i64 an, .bool au, .int .i64 ah] 68)).alloc (.cells #[.int .i64 bn, .bool bu, .int .i64 bh] 68)) ∧ ((W.alloc (.cells #[.int .i64 an, .bool au, .int .i64 ah] 68)).alloc (.cells #[.int .i64 bn, .bool bu, .int .i64 bh] 68)).heap[W.heap.size]? = some (.cells #[.int .i64 an, .bool au, .int .i64 ah] 68 (0, 0)) ∧ ((W.alloc (.cells #[.int .i64 an, .bool au, .int .i64 ah] 68)).alloc (.cells #[.int .i64 bn, .bool bu, .int .i64 bh] 68)).heap[W.heap.size + 1]? = some (.cells #[.int .i64 bn, .bool bu, .int .i64 bh] 68 (0, 0)) ∧ W.heap.size ≠ ob ∧ W.heap.size + 1 ≠ ob) :=
    ⟨HO.out.grew g0, g0.mv ob, x0, x1, by obtain ⟨_, _, _, h, _⟩ := HO.out.o; have := lt_of_obj h; omega, by obtain ⟨_, _, _, h, _⟩ := HO.out.o; have := lt_of_obj h; omega⟩
  clear g0 x0 x1
  go_enter Tryd.func40, Tryd.ntmps40
  go_wp2_with fail
  refine (C1.out _ K0.out.1).mono ?_
  rintro en w1 ⟨rfl, y1, y2⟩
  have a0 := y2.ob K0.out.2.2.2.2.1 K0.out.2.2.1
  have a1 := y2.ob K0.out.2.2.2.2.2 K0.out.2.2.2.1
  have Y : Hid (OW ob L w w1 ∧ MV ob W w1) := ⟨y1, K0.out.2.1.trans y2⟩
  have p0 := cell_of a0 0
  have p1 := cell_of a0 1
  have p2 := cell_of a0 2
  have q0 := cell_of a1 0
  have q1 := cell_of a1 1
  have q2 := cell_of a1 2
  simp at p0 p1 p2 q0 q1 q2
  clear y1 y2 C1 a0 a1 K0
  cases r1 with
  | false =>
    clear C2
    go_wp2_with fail
    go_ret
    exact ⟨rfl, Y.out⟩
  | true =>
    go_wp2_with fail
    refine (C2.out _ Y.out.1).mono ?_
    rintro en w2 ⟨rfl, y1, y2⟩
    have Z : Hid (OW ob L w w2 ∧ MV ob W w2) := ⟨y1, Y.out.2.trans y2⟩
    clear y1 y2 C2 Y
    go_wp2_with fail
    go_ret
    exact ⟨rfl, Z.out⟩
set_option maxRecDepth 100000 in
set_option maxHeartbeats 1000000 in
theorem field_any {ob : Nat} {L : List RT} {w : World} (a b : FT) : MC ob L w 26 #[.pointer (some ⟨ob, 0, none⟩), a.v, b.v] (fieldP L a b) := by
  intro W hO
  have C1 : Hid (∀ X, OW ob L w X → Calls Tryd.prog 36 #[.pointer (some ⟨ob, 0, none⟩), a.ty.v, b.ty.v] X fun en w' => en = .returned (.bool (valP L a.ty b.ty)) ∧ OW ob L w w' ∧ MV ob X w') := fun X h => val_any h a.ty b.ty
  have C2 : Hid (∀ X, OW ob L w X → Calls Tryd.prog 40 #[.pointer (some ⟨ob, 0, none⟩), a.ty.v, b.ty.v] X fun en w' => en = .returned (.bool (alikeP L a.ty b.ty)) ∧ OW ob L w w' ∧ MV ob X w') := fun X h => alike_any a.ty b.ty X h
  have HO : Hid (OW ob L w W) := hO
  unfold fieldP
  generalize valP L a.ty b.ty = r1 at *
  generalize alikeP L a.ty b.ty = r2 at *
  obtain ⟨⟨an, au, ah⟩, am⟩ := a
  obtain ⟨⟨bn, bu, bh⟩, bm⟩ := b
  unfold VT.v at C1 C2
  unfold FT.v
  clear hO
  have g0 : Hid (Grew W ((W.alloc (.cells #[.int .i64 an, .bool au, .int .i64 ah, .bool am] 70)).alloc (.cells #[.int .i64 bn, .bool bu, .int .i64 bh, .bool bm] 70))) := ((Grew.refl W).alloc _).alloc _
  cases am with
  | false =>
    cases bm with
    | false =>
      clear C2
      go_enter Tryd.func26, Tryd.ntmps26
      go_wp2_with fail
      refine (C1.out _ (HO.out.grew g0.out)).mono ?_
      rintro en w1 ⟨rfl, y1, y2⟩
      have Y : Hid (OW ob L w w1 ∧ MV ob W w1) := ⟨y1, (g0.out.mv ob).trans y2⟩
      clear y1 y2 C1 g0
      go_wp2_with fail
      go_ret
      exact ⟨rfl, Y.out⟩
    | true =>
      clear C1 C2
      go_enter Tryd.func26, Tryd.ntmps26
      go_wp2_with fail
      go_ret
      exact ⟨rfl, HO.out.grew g0.out, g0.out.mv ob⟩
  | true =>
    cases bm with
    | false =>
      clear C1 C2
      go_enter Tryd.func26, Tryd.ntmps26
      go_wp2_with fail
      go_ret
      exact ⟨rfl, HO.out.grew g0.out, g0.out.mv ob⟩
    | true =>
      clear C1
      go_enter Tryd.func26, Tryd.ntmps26
      go_wp2_with fail
      refine (C2.out _ (HO.out.grew g0.out)).mono ?_
      rintro en w1 ⟨rfl, y1, y2⟩
      have Y : Hid (OW ob L w w1 ∧ MV ob W w1) := ⟨y1, (g0.out.mv ob).trans y2⟩
      clear y1 y2 C2 g0
      go_wp2_with fail
      go_ret
      exact ⟨rfl, Y.out⟩
def eqL {α : Type} (f : α → α → Bool) : List α → List α → Bool
  | [], [] => true
  | x :: l, y :: m => f x y && eqL f l m
  | _, _ => false
theorem eqL_len {α : Type} {f : α → α → Bool} : ∀ {l m : List α}, l.length ≠ m.length → eqL f l m = false
  | [], [], h => absurd rfl h
  | [], _ :: _, _ => rfl
  | _ :: _, [], _ => rfl
  | x :: l, y :: m, h => by
    show (f x y && eqL f l m) = false
    rw [eqL_len (by simpa using h), Bool.and_false]
theorem eqL_at {α : Type} {f : α → α → Bool} {l m : List α} {i : Nat} {x y : α} (hx : l[i]? = some x) (hy : m[i]? = some y) : eqL f (l.drop i) (m.drop i) = (f x y && eqL f (l.drop (i + 1)) (m.drop (i + 1))) := by
  obtain ⟨h1, e1⟩ := List.getElem?_eq_some_iff.1 hx
  obtain ⟨h2, e2⟩ := List.getElem?_eq_some_iff.1 hy
  rw [List.drop_eq_getElem_cons h1, List.drop_eq_getElem_cons h2, e1, e2]
  rfl
set_option maxRecDepth 100000 in
set_option maxHeartbeats 2000000 in
theorem eqV_any {ob gf : Nat} {L : List RT} {w W : World} {va vb : Value} {la lb : List VT} {f : VT → VT → Bool} (hO : OW ob L w W) (ha : LV w va la) (hb : LV w vb lb) (heg : ∀ args w, (callFunc gf args).run Tryd.prog w = .ok (.enter gf args) w) (C : ∀ x y : VT, MC ob L w gf #[.pointer (some ⟨ob, 0, none⟩), x.v, y.v] (f x y)) (hl : la.length ≤ 1048576) :
    Calls Tryd.prog 35 #[va, vb, .func (.func gf) #[.pointer (some ⟨ob, 0, none⟩)] #[]] W fun en w' => en = .returned (.bool (eqL f la lb)) ∧ OW ob L w w' ∧ MV ob W w' := by
  obtain ⟨aa, ac, ea, hac, _⟩ := ha.one
  obtain ⟨ba, bc, eb, hbc, _⟩ := hb.one
  subst ea eb
  have HA : Hid (LV w (.slice aa la.length ac) la) := ha
  have HB : Hid (LV w (.slice ba lb.length bc) lb) := hb
  have HC : Hid (∀ x y : VT, MC ob L w gf #[.pointer (some ⟨ob, 0, none⟩), x.v, y.v] (f x y)) := C
  have HO : Hid (OW ob L w W) := hO
  obtain ⟨R, hR⟩ : ∃ R, R = eqL f la lb := ⟨_, rfl⟩
  rw [← hR]
  clear ha hb C hO
  by_cases hlen : la.length = lb.length
  · have dl : ((la.length : Int) == (lb.length : Int)) = true := by simp [hlen]
    have dl2 : ((la.length : Int) != (lb.length : Int)) = false := by simp [hlen]
    have HR : Hid (R = eqL f (la.drop 0) (lb.drop 0)) := hR
    have HL : Hid (la.length = lb.length) := hlen
    clear hR hlen
    go_enter Tryd.func35, Tryd.ntmps35
    go_wp2_with fail
    go_loopw [17] (fun i_ w' => ∃ i : Nat, i_ = .int .i64 i ∧ i ≤ la.length ∧ Hid (R = eqL f (la.drop i) (lb.drop i)) ∧ Hid (OW ob L w w' ∧ MV ob W w')) (fun i_ _ => la.length - (intOf i_).toNat)
    case atStart => exact ⟨0, rfl, Nat.zero_le _, HR, ⟨HO.out, MV.refl _ _⟩⟩
    case round =>
      clear HR HO
      obtain ⟨i, rfl, hi, HR, HO⟩ := hrel
      obtain ⟨w0, hw0⟩ : ∃ w0, w0 = wr := ⟨_, rfl⟩
      rw [← hw0] at HO ⊢
      clear hw0
      by_cases hlt : i < la.length
      · obtain ⟨x, hx⟩ : ∃ x, la[i]? = some x := ⟨_, List.getElem?_eq_getElem hlt⟩
        obtain ⟨y, hy⟩ : ∃ y, lb[i]? = some y := ⟨_, List.getElem?_eq_getElem (by rw [← HL.out]; exact hlt)⟩
        obtain ⟨b1, o1, e1, _, hE1⟩ := HA.out.get (by omega)
        obtain ⟨b2, o2, e2, _, hE2⟩ := HB.out.get (by rw [← HL.out]; omega)
        subst e1 e2
        obtain ⟨x0, x1, x2⟩ := hE1 i x hx
        obtain ⟨y0, y1, y2⟩ := hE2 i y hy
        have G := HO.out.1.g
        have x0' := cell_grew x0 G
        have x1' := cell_grew x1 G
        have x2' := cell_grew x2 G
        have y0' := cell_grew y0 G
        have y1' := cell_grew y1 G
        have y2' := cell_grew y2 G
        have z0 := lt_of_cell x0'
        have z1 := lt_of_cell y0'
        have d1 : decide ((i : Int) < (la.length : Int)) = true := by simp; omega
        have d2 : decide (i < la.length) = true := by simp; omega
        have d3 : decide ((i : Int) < (lb.length : Int)) = true := by have := HL.out; simp; omega
        have d4 : decide (i < lb.length) = true := by have := HL.out; simp; omega
        have d5 : (i : Int) < (lb.length : Int) := by have := HL.out; omega
        have HE : Hid (R = (f x y && eqL f (la.drop (i + 1)) (lb.drop (i + 1)))) := by
          have : R = (f x y && eqL f (la.drop (i + 1)) (lb.drop (i + 1))) := by rw [HR.out]; exact eqL_at hx hy
          exact this
        have CC : Hid (∀ X, OW ob L w X → Calls Tryd.prog gf #[.pointer (some ⟨ob, 0, none⟩), x.v, y.v] X fun en w' => en = .returned (.bool (f x y)) ∧ OW ob L w w' ∧ MV ob X w') := fun X h => HC.out x y X h
        obtain ⟨xn, xu, xh⟩ := x
        obtain ⟨yn, yu, yh⟩ := y
        unfold VT.v at CC
        clear hE1 hE2 x0 x1 x2 y0 y1 y2 G hx hy HR
        go_wp2_with fail
        have g0 : Grew w0 ((w0.alloc (.cells #[.int .i64 xn, .bool xu, .int .i64 xh] 68)).alloc (.cells #[.int .i64 yn, .bool yu, .int .i64 yh] 68)) := ((Grew.refl w0).alloc _).alloc _
        refine (CC.out _ (HO.out.1.grew g0)).mono ?_
        rintro en w1 ⟨rfl, k1, k2⟩
        have Y : Hid (OW ob L w w1 ∧ MV ob W w1) := ⟨k1, (HO.out.2.trans (g0.mv ob)).trans k2⟩
        clear k1 k2 CC g0 HO x0' x1' x2' y0' y1' y2'
        cases hf : f ⟨xn, xu, xh⟩ ⟨yn, yu, yh⟩ with
        | false =>
          have hR : Hid (R = false) := by
            have : R = false := by rw [HE.out, hf]; rfl
            exact this
          clear hf HE
          go_wp2_with fail
          go_ret
          exact ⟨by rw [hR.out]; rfl, Y.out⟩
        | true =>
          have hR : Hid (R = eqL f (la.drop (i + 1)) (lb.drop (i + 1))) := by
            have : R = eqL f (la.drop (i + 1)) (lb.drop (i + 1)) := by rw [HE.out, hf]; rfl
            exact this
          clear hf HE
          go_wp2_with fail
          go_roundw
          case rel => exact ⟨i + 1, by go_num, by omega, hR, Y⟩
          case measure => simp [intOf]; omega
      · have d1 : decide ((i : Int) < (la.length : Int)) = false := by simp; omega
        have hR : Hid (R = true) := by
          have : R = true := by
            rw [HR.out, List.drop_of_length_le (by omega), List.drop_of_length_le (by rw [← HL.out]; omega)]
            rfl
          exact this
        clear HR
        go_wp2_with fail
        go_ret
        exact ⟨by rw [hR.out]; rfl, HO.out⟩
  · have dl : ((la.length : Int) == (lb.length : Int)) = false := by simp; omega
    have dl2 : ((la.length : Int) != (lb.length : Int)) = true := by simp; omega
    have hR' : Hid (R = false) := by
      have : R = false := by rw [hR]; exact eqL_len hlen
      exact this
    clear hR hlen
    go_enter Tryd.func35, Tryd.ntmps35
    go_wp2_with fail
    go_ret
    exact ⟨by rw [hR'.out]; rfl, HO.out, MV.refl _ _⟩
set_option maxRecDepth 100000 in
set_option maxHeartbeats 2000000 in
theorem eqF_any {ob gf : Nat} {L : List RT} {w W : World} {va vb : Value} {la lb : List FT} {f : FT → FT → Bool} (hO : OW ob L w W) (ha : LF w va la) (hb : LF w vb lb) (heg : ∀ args w, (callFunc gf args).run Tryd.prog w = .ok (.enter gf args) w) (C : ∀ x y : FT, MC ob L w gf #[.pointer (some ⟨ob, 0, none⟩), x.v, y.v] (f x y)) (hl : la.length ≤ 1048576) :
    Calls Tryd.prog 37 #[va, vb, .func (.func gf) #[.pointer (some ⟨ob, 0, none⟩)] #[]] W fun en w' => en = .returned (.bool (eqL f la lb)) ∧ OW ob L w w' ∧ MV ob W w' := by
  obtain ⟨aa, ac, ea, hac, _⟩ := ha.one
  obtain ⟨ba, bc, eb, hbc, _⟩ := hb.one
  subst ea eb
  have HA : Hid (LF w (.slice aa la.length ac) la) := ha
  have HB : Hid (LF w (.slice ba lb.length bc) lb) := hb
  have HC : Hid (∀ x y : FT, MC ob L w gf #[.pointer (some ⟨ob, 0, none⟩), x.v, y.v] (f x y)) := C
  have HO : Hid (OW ob L w W) := hO
  obtain ⟨R, hR⟩ : ∃ R, R = eqL f la lb := ⟨_, rfl⟩
  rw [← hR]
  clear ha hb C hO
  by_cases hlen : la.length = lb.length
  · have dl : ((la.length : Int) == (lb.length : Int)) = true := by simp [hlen]
    have dl2 : ((la.length : Int) != (lb.length : Int)) = false := by simp [hlen]
    have HR : Hid (R = eqL f (la.drop 0) (lb.drop 0)) := hR
    have HL : Hid (la.length = lb.length) := hlen
    clear hR hlen
    go_enter Tryd.func37, Tryd.ntmps37
    go_wp2_with fail
    go_loopw [17] (fun i_ w' => ∃ i : Nat, i_ = .int .i64 i ∧ i ≤ la.length ∧ Hid (R = eqL f (la.drop i) (lb.drop i)) ∧ Hid (OW ob L w w' ∧ MV ob W w')) (fun i_ _ => la.length - (intOf i_).toNat)
    case atStart => exact ⟨0, rfl, Nat.zero_le _, HR, ⟨HO.out, MV.refl _ _⟩⟩
    case round =>
      clear HR HO
      obtain ⟨i, rfl, hi, HR, HO⟩ := hrel
      obtain ⟨w0, hw0⟩ : ∃ w0, w0 = wr := ⟨_, rfl⟩
      rw [← hw0] at HO ⊢
      clear hw0
      by_cases hlt : i < la.length
      · obtain ⟨x, hx⟩ : ∃ x, la[i]? = some x := ⟨_, List.getElem?_eq_getElem hlt⟩
        obtain ⟨y, hy⟩ : ∃ y, lb[i]? = some y := ⟨_, List.getElem?_eq_getElem (by rw [← HL.out]; exact hlt)⟩
        obtain ⟨b1, o1, e1, _, hE1⟩ := HA.out.get (by omega)
        obtain ⟨b2, o2, e2, _, hE2⟩ := HB.out.get (by rw [← HL.out]; omega)
        subst e1 e2
        obtain ⟨⟨x0, x1, x2⟩, x3⟩ := hE1 i x hx
        obtain ⟨⟨y0, y1, y2⟩, y3⟩ := hE2 i y hy
        have G := HO.out.1.g
        have x0' := cell_grew x0 G
        have x1' := cell_grew x1 G
        have x2' := cell_grew x2 G
        have y0' := cell_grew y0 G
        have y1' := cell_grew y1 G
        have y2' := cell_grew y2 G
        have x3' := cell_grew x3 G
        have y3' := cell_grew y3 G
        have z0 := lt_of_cell x0'
        have z1 := lt_of_cell y0'
        have d1 : decide ((i : Int) < (la.length : Int)) = true := by simp; omega
        have d2 : decide (i < la.length) = true := by simp; omega
        have d3 : decide ((i : Int) < (lb.length : Int)) = true := by have := HL.out; simp; omega
        have d4 : decide (i < lb.length) = true := by have := HL.out; simp; omega
        have d5 : (i : Int) < (lb.length : Int) := by have := HL.out; omega
        have HE : Hid (R = (f x y && eqL f (la.drop (i + 1)) (lb.drop (i + 1)))) := by
          have : R = (f x y && eqL f (la.drop (i + 1)) (lb.drop (i + 1))) := by rw [HR.out]; exact eqL_at hx hy
          exact this
        have CC : Hid (∀ X, OW ob L w X → Calls Tryd.prog gf #[.pointer (some ⟨ob, 0, none⟩), x.v, y.v] X fun en w' => en = .returned (.bool (f x y)) ∧ OW ob L w w' ∧ MV ob X w') := fun X h => HC.out x y X h
        obtain ⟨⟨xn, xu, xh⟩, xm⟩ := x
        obtain ⟨⟨yn, yu, yh⟩, ym⟩ := y
        unfold FT.v at CC
        clear hE1 hE2 x0 x1 x2 x3 y0 y1 y2 y3 G hx hy HR
        go_wp2_with fail
        have g0 : Grew w0 ((w0.alloc (.cells #[.int .i64 xn, .bool xu, .int .i64 xh, .bool xm] 70)).alloc (.cells #[.int .i64 yn, .bool yu, .int .i64 yh, .bool ym] 70)) := ((Grew.refl w0).alloc _).alloc _
        refine (CC.out _ (HO.out.1.grew g0)).mono ?_
        rintro en w1 ⟨rfl, k1, k2⟩
        have Y : Hid (OW ob L w w1 ∧ MV ob W w1) := ⟨k1, (HO.out.2.trans (g0.mv ob)).trans k2⟩
        clear k1 k2 CC g0 HO x0' x1' x2' x3' y0' y1' y2' y3'
        cases hf : f ⟨⟨xn, xu, xh⟩, xm⟩ ⟨⟨yn, yu, yh⟩, ym⟩ with
        | false =>
          have hR : Hid (R = false) := by
            have : R = false := by rw [HE.out, hf]; rfl
            exact this
          clear hf HE
          go_wp2_with fail
          go_ret
          exact ⟨by rw [hR.out]; rfl, Y.out⟩
        | true =>
          have hR : Hid (R = eqL f (la.drop (i + 1)) (lb.drop (i + 1))) := by
            have : R = eqL f (la.drop (i + 1)) (lb.drop (i + 1)) := by rw [HE.out, hf]; rfl
            exact this
          clear hf HE
          go_wp2_with fail
          go_roundw
          case rel => exact ⟨i + 1, by go_num, by omega, hR, Y⟩
          case measure => simp [intOf]; omega
      · have d1 : decide ((i : Int) < (la.length : Int)) = false := by simp; omega
        have hR : Hid (R = true) := by
          have : R = true := by
            rw [HR.out, List.drop_of_length_le (by omega), List.drop_of_length_le (by rw [← HL.out]; omega)]
            rfl
          exact this
        clear HR
        go_wp2_with fail
        go_ret
        exact ⟨by rw [hR.out]; rfl, HO.out⟩
  · have dl : ((la.length : Int) == (lb.length : Int)) = false := by simp; omega
    have dl2 : ((la.length : Int) != (lb.length : Int)) = true := by simp; omega
    have hR' : Hid (R = false) := by
      have : R = false := by rw [hR]; exact eqL_len hlen
      exact this
    clear hR hlen
    go_enter Tryd.func37, Tryd.ntmps37
    go_wp2_with fail
    go_ret
    exact ⟨by rw [hR'.out]; rfl, HO.out, MV.refl _ _⟩
end Go.Proofs.YtojkonoffdlbpaaDoor
