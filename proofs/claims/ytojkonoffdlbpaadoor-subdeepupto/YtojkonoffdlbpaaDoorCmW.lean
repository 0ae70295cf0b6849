/-
  Sub's fields and comp of an order; no statement is proved here.
-/
import Derived.Test.YtojkonoffdlbpaaDoorEqO
import Derived.Test.YtojkonoffdlbpaaDoorCkW
namespace Go.Proofs.YtojkonoffdlbpaaDoor
open Go.RowKit
set_option linter.unusedVariables false
set_option linter.unusedSimpArgs false

def strangeP (N : Nat) (f : FT) : Bool := f.ty.num == 5 && !(isH N f.ty.heap)
def fieldsP (L : List RT) (a b : List FT) : Bool := decide (b.length ≤ a.length) && (eqL (fieldP L) (a.take b.length) b && !((a.drop b.length).any (strangeP (flatT L).length)))
def compP (L : List RT) (a b : CT) : Bool := a.kind == b.kind && (if a.kind = 1 then eqL (valP L) b.params a.params && eqL (valP L) a.results b.results else if a.kind = 2 then fieldsP L a.fields b.fields else if a.kind = 3 then (match a.fields, b.fields with | [x], [y] => fieldP L x y | _, _ => false) else false)
set_option maxRecDepth 100000 in
set_option maxHeartbeats 1000000 in
theorem strange_any {ob : Nat} {L : List RT} {w : World} (a : FT) : MC ob L w 39 #[.pointer (some ⟨ob, 0, none⟩), a.v] (strangeP (flatT L).length a) := by
  intro W hO
  have C1 : Hid (∀ X, OW ob L w X → Calls Tryd.prog 48 #[.pointer (some ⟨ob, 0, none⟩), .int .i64 a.ty.heap] X fun en w' => en = .returned (.bool (isH (flatT L).length a.ty.heap)) ∧ Grew X w') := fun X h => has_any h
  have HO : Hid (OW ob L w W) := hO
  unfold strangeP
  generalize isH (flatT L).length a.ty.heap = r1 at *
  obtain ⟨⟨an, au, ah⟩, am⟩ := a
  unfold FT.v
  clear hO
  have g0 : Hid (Grew W (W.alloc (.cells #[.int .i64 an, .bool au, .int .i64 ah, .bool am] 70))) := (Grew.refl W).alloc _
  cases hc : (an == 5) with
  | false =>
    clear C1
    go_enter Tryd.func39, Tryd.ntmps39
    go_wp2_with fail
    go_ret
    exact ⟨rfl, HO.out.grew g0.out, g0.out.mv ob⟩
  | true =>
    go_enter Tryd.func39, Tryd.ntmps39
    go_wp2_with fail
    refine (C1.out _ (HO.out.grew g0.out)).mono ?_
    rintro en w1 ⟨rfl, g1⟩
    have Y : Hid (Grew W w1) := g0.out.trans g1
    clear g1 C1
    go_wp2_with fail
    go_ret
    exact ⟨rfl, HO.out.grew Y.out, Y.out.mv ob⟩
set_option maxRecDepth 100000 in
set_option maxHeartbeats 2000000 in
theorem idxF_any {ob gf : Nat} {L : List RT} {w W : World} {va : Value} {la : List FT} {f : FT → Bool} (hO : OW ob L w W) (ha : LF w va la) (heg : ∀ args w, (callFunc gf args).run Tryd.prog w = .ok (.enter gf args) w) (C : ∀ x : FT, MC ob L w gf #[.pointer (some ⟨ob, 0, none⟩), x.v] (f x)) (hl : la.length ≤ 1048576) :
    Calls Tryd.prog 47 #[va, .func (.func gf) #[.pointer (some ⟨ob, 0, none⟩)] #[]] W fun en w' => ∃ k : Int, en = .returned (.int .i64 k) ∧ decide (0 ≤ k) = la.any f ∧ OW ob L w w' ∧ MV ob W w' := by
  obtain ⟨aa, ac, ea, hac, _⟩ := ha.one
  subst ea
  have HA : Hid (LF w (.slice aa la.length ac) la) := ha
  have HC : Hid (∀ x : FT, MC ob L w gf #[.pointer (some ⟨ob, 0, none⟩), x.v] (f x)) := C
  have HO : Hid (OW ob L w W) := hO
  obtain ⟨R, hR⟩ : ∃ R, R = la.any f := ⟨_, rfl⟩
  rw [← hR]
  have HR : Hid (R = (la.drop 0).any f) := hR
  clear ha C hO hR
  go_enter Tryd.func47, Tryd.ntmps47
  go_wp2_with fail
  go_loopw [8] (fun i_ w' => ∃ i : Nat, i_ = .int .i64 i ∧ i ≤ la.length ∧ Hid (R = (la.drop i).any f) ∧ Hid (OW ob L w w' ∧ MV ob W w')) (fun i_ _ => la.length - (intOf i_).toNat)
  case atStart => exact ⟨0, rfl, Nat.zero_le _, HR, ⟨HO.out, MV.refl _ _⟩⟩
  case round =>
    clear HR HO
    obtain ⟨i, rfl, hi, HR, HO⟩ := hrel
    obtain ⟨w0, hw0⟩ : ∃ w0, w0 = wr := ⟨_, rfl⟩
    rw [← hw0] at HO ⊢
    clear hw0
    by_cases hlt : i < la.length
    · obtain ⟨x, hx⟩ : ∃ x, la[i]? = some x := ⟨_, List.getElem?_eq_getElem hlt⟩
      obtain ⟨b1, o1, e1, _, hE1⟩ := HA.out.get (by omega)
      subst e1
      obtain ⟨⟨x0, x1, x2⟩, x3⟩ := hE1 i x hx
      have G := HO.out.1.g
      have x0' := cell_grew x0 G
      have x1' := cell_grew x1 G
      have x2' := cell_grew x2 G
      have x3' := cell_grew x3 G
      have z0 := lt_of_cell x0'
      have d1 : decide ((i : Int) < (la.length : Int)) = true := by simp; omega
      have d2 : decide (i < la.length) = true := by simp; omega
      have HE : Hid (R = (f x || (la.drop (i + 1)).any f)) := by
        have : R = (f x || (la.drop (i + 1)).any f) := by
          obtain ⟨h1, e1⟩ := List.getElem?_eq_some_iff.1 hx
          rw [HR.out, List.drop_eq_getElem_cons h1, e1, List.any_cons]
        exact this
      have CC : Hid (∀ X, OW ob L w X → Calls Tryd.prog gf #[.pointer (some ⟨ob, 0, none⟩), x.v] X fun en w' => en = .returned (.bool (f x)) ∧ OW ob L w w' ∧ MV ob X w') := fun X h => HC.out x X h
      obtain ⟨⟨xn, xu, xh⟩, xm⟩ := x
      unfold FT.v at CC
      clear hE1 x0 x1 x2 x3 G hx HR
      go_wp2_with fail
      refine (CC.out _ HO.out.1).mono ?_
      rintro en w1 ⟨rfl, k1, k2⟩
      have Y : Hid (OW ob L w w1 ∧ MV ob W w1) := ⟨k1, HO.out.2.trans k2⟩
      clear k1 k2 CC HO x0' x1' x2' x3'
      cases hf : f ⟨⟨xn, xu, xh⟩, xm⟩ with
      | true =>
        have hR : Hid (R = true) := by
          have : R = true := by rw [HE.out, hf]; rfl
          exact this
        clear hf HE
        go_wp2_with fail
        go_ret
        exact ⟨_, rfl, by rw [hR.out]; simp, Y.out⟩
      | false =>
        have hR : Hid (R = (la.drop (i + 1)).any f) := by
          have : R = (la.drop (i + 1)).any f := by rw [HE.out, hf]; rfl
          exact this
        clear hf HE
        go_wp2_with fail
        go_roundw
        case rel => exact ⟨i + 1, by go_num, by omega, hR, Y⟩
        case measure => simp [intOf]; omega
    · have d1 : decide ((i : Int) < (la.length : Int)) = false := by simp; omega
      have hR : Hid (R = false) := by
        have : R = false := by
          rw [HR.out, List.drop_of_length_le (by omega)]
          rfl
        exact this
      clear HR
      go_wp2_with fail
      go_ret
      exact ⟨_, rfl, by rw [hR.out]; rfl, HO.out⟩
set_option maxRecDepth 100000 in
set_option maxHeartbeats 1000000 in
theorem cntF_any {ob gf : Nat} {L : List RT} {w W : World} {va : Value} {la : List FT} {f : FT → Bool} (hO : OW ob L w W) (ha : LF w va la) (heg : ∀ args w, (callFunc gf args).run Tryd.prog w = .ok (.enter gf args) w) (C : ∀ x : FT, MC ob L w gf #[.pointer (some ⟨ob, 0, none⟩), x.v] (f x)) (hl : la.length ≤ 1048576) :
    Calls Tryd.prog 38 #[va, .func (.func gf) #[.pointer (some ⟨ob, 0, none⟩)] #[]] W fun en w' => en = .returned (.bool (la.any f)) ∧ OW ob L w w' ∧ MV ob W w' := by
  have CI : Hid (Calls Tryd.prog 47 #[va, .func (.func gf) #[.pointer (some ⟨ob, 0, none⟩)] #[]] W fun en w' => ∃ k : Int, en = .returned (.int .i64 k) ∧ decide (0 ≤ k) = la.any f ∧ OW ob L w w' ∧ MV ob W w') := idxF_any hO ha heg C hl
  obtain ⟨aa, ac, ea, hac, _⟩ := ha.one
  subst ea
  generalize la.any f = R at *
  clear ha C hO heg
  go_enter Tryd.func38, Tryd.ntmps38
  go_wp2_with fail
  refine CI.out.mono ?_
  rintro en w1 ⟨k, rfl, hk, y1, y2⟩
  have Y : Hid (OW ob L w w1 ∧ MV ob W w1) := ⟨y1, y2⟩
  clear y1 y2 CI
  subst hk
  go_wp2_with fail
  go_ret
  exact ⟨rfl, Y.out⟩
set_option maxRecDepth 100000 in
set_option maxHeartbeats 1000000 in
theorem vals_any {ob : Nat} {L : List RT} {w : World} {va vb : Value} {la lb : List VT} (ha : LV w va la) (hb : LV w vb lb) (hl : la.length ≤ 1048576) : MC ob L w 24 #[.pointer (some ⟨ob, 0, none⟩), va, vb] (eqL (valP L) la lb) := by
  intro W hO
  have CI : Hid (Calls Tryd.prog 35 #[va, vb, .func (.func 36) #[.pointer (some ⟨ob, 0, none⟩)] #[]] W fun en w' => en = .returned (.bool (eqL (valP L) la lb)) ∧ OW ob L w w' ∧ MV ob W w') := eqV_any hO ha hb (enters_of Tryd.func36 (by kernel_rfl) rfl) (fun x y X h => val_any h x y) hl
  obtain ⟨aa, ac, ea, hac, _⟩ := ha.one
  obtain ⟨ba, bc, eb, hbc, _⟩ := hb.one
  subst ea eb
  generalize eqL (valP L) la lb = R at *
  clear ha hb hO
  go_enter Tryd.func24, Tryd.ntmps24
  go_wp2_with fail
  refine CI.out.mono ?_
  rintro en w1 ⟨rfl, y1, y2⟩
  have Y : Hid (OW ob L w w1 ∧ MV ob W w1) := ⟨y1, y2⟩
  clear y1 y2 CI
  go_wp2_with fail
  go_ret
  exact ⟨rfl, Y.out⟩
theorem Lst.drop {α : Type} {k : Nat} {E : World → Nat → Nat → α → Prop} {w : World} {b off n cap : Nat} {l : List α} (h : Lst k E w (.slice (some ⟨b, off, none⟩) n cap) l) (g : Nat) (hg : g ≤ l.length) : Lst k E w (.slice (some ⟨b, off + g * k, none⟩) (n - g) (cap - g)) (l.drop g) := by
  obtain ⟨a', cap', hv, h1, h2, hz, h3⟩ := h
  injection hv with e1 e2 e3
  subst e1 e2 e3
  refine ⟨_, _, by rw [List.length_drop], by rw [List.length_drop]; omega, by omega, (fun h => by cases h), ?_⟩
  rcases h3 with rfl | ⟨b', off', ha, hc⟩
  · left; simp
  · right
    injection ha with ha
    injection ha with e1 e2
    subst e1 e2
    refine ⟨b, off + g * k, rfl, fun i x hx => ?_⟩
    rw [List.getElem?_drop] at hx
    have := hc (g + i) x hx
    rw [Nat.add_mul, ← Nat.add_assoc] at this
    exact this
end Go.Proofs.YtojkonoffdlbpaaDoor

namespace Go.Proofs.YtojkonoffdlbpaaDoor
open Go.RowKit
set_option linter.unusedVariables false
set_option linter.unusedSimpArgs false

theorem Lst.drop' {α : Type} {k : Nat} {E : World → Nat → Nat → α → Prop} {w : World} {a : Option Addr} {n cap : Nat} {l : List α} (h : Lst k E w (.slice a n cap) l) (g : Nat) (hg : g ≤ l.length) : Lst k E w (.slice (if cap = g then a else a.map (fun x => x.add (g * k))) (n - g) (cap - g)) (l.drop g) := by
  obtain ⟨a', cap', hv, h1, h2, hz, h3⟩ := h
  injection hv with e1 e2 e3
  subst e1 e2 e3
  refine ⟨_, _, by rw [List.length_drop], by rw [List.length_drop]; omega, by omega, ?_, ?_⟩
  · intro h
    by_cases hc : cap = g
    · omega
    · rw [if_neg hc] at h
      cases a with
      | none => have := hz rfl; omega
      | some ad => cases h
  · by_cases hc : cap = g
    · left
      exact List.drop_of_length_le (by omega)
    · rw [if_neg hc]
      rcases h3 with rfl | ⟨b, off, ha, hc'⟩
      · left; simp
      · right
        subst ha
        refine ⟨b, off + g * k, ?_, fun i x hx => ?_⟩
        · simp [Addr.add]
        · rw [List.getElem?_drop] at hx
          have := hc' (g + i) x hx
          rw [Nat.add_mul, ← Nat.add_assoc] at this
          exact this
set_option maxRecDepth 100000 in
set_option maxHeartbeats 2000000 in
theorem fields_le {ob na ac : Nat} {aa : Option Addr} {L : List RT} {w W : World} {vb : Value} {la lb : List FT} (ha : LF w (.slice aa na ac) la) (hb : LF w vb lb) (hl : la.length ≤ 1048576) (hO : OW ob L w W) (hle : lb.length ≤ la.length) :
    Calls Tryd.prog 25 #[.pointer (some ⟨ob, 0, none⟩), .slice aa na ac, vb] W fun en w' => en = .returned (.bool (eqL (fieldP L) (la.take lb.length) lb && !((la.drop lb.length).any (strangeP (flatT L).length)))) ∧ OW ob L w w' ∧ MV ob W w' := by
  have hna := ha.len
  subst hna
  obtain ⟨_, _, ea, hac, hac2⟩ := ha.one
  injection ea with e1 e2 e3
  subst e1 e3
  obtain ⟨ba, bc, eb, hbc, _⟩ := hb.one
  subst eb
  have CE : Hid (∀ X, OW ob L w X → Calls Tryd.prog 37 #[.slice aa lb.length ac, .slice ba lb.length bc, .func (.func 26) #[.pointer (some ⟨ob, 0, none⟩)] #[]] X fun en w' => en = .returned (.bool (eqL (fieldP L) (la.take lb.length) lb)) ∧ OW ob L w w' ∧ MV ob X w') := fun X h => eqF_any h (ha.take lb.length hle) hb (enters_of Tryd.func26 (by kernel_rfl) rfl) (fun x y => field_any x y) (by rw [List.length_take]; omega)
  have CS : Hid (∀ X, OW ob L w X → Calls Tryd.prog 38 #[.slice (if ac = lb.length then aa else aa.map (fun x => x.add (lb.length * 4))) (la.length - lb.length) (ac - lb.length), .func (.func 39) #[.pointer (some ⟨ob, 0, none⟩)] #[]] X fun en w' => en = .returned (.bool ((la.drop lb.length).any (strangeP (flatT L).length))) ∧ OW ob L w w' ∧ MV ob X w') := fun X h => cntF_any h (ha.drop' lb.length hle) (enters_of Tryd.func39 (by kernel_rfl) rfl) (fun x => strange_any x) (by rw [List.length_drop]; omega)
  have HO : Hid (OW ob L w W) := hO
  generalize eqL (fieldP L) (la.take lb.length) lb = R1 at *
  generalize (la.drop lb.length).any (strangeP (flatT L).length) = R2 at *
  generalize hN : la.length = N at *
  generalize hM : lb.length = M at *
  clear ha hb hO hN hM
  generalize hq : (if ac = M then aa else aa.map (fun x => x.add (M * 4))) = q at *
  have d1 : decide ((N : Int) < (M : Int)) = false := by simp; omega
  have d2 : decide ((M : Int) ≤ (N : Int)) = true := by simp; omega
  have d3 : decide (M ≤ N) = true := by simp; omega
  have d4 : decide (M ≤ ac) = true := by simp; omega
  have d5 : decide ((M : Int) ≤ (ac : Int)) = true := by simp; omega
  have d6 : decide (N ≤ ac) = true := by simp; omega
  go_enter Tryd.func25, Tryd.ntmps25
  go_wp2_with fail
  go_quiet (fail)
  go_wp2_with fail
  refine (CE.out _ (HO.out.grew ((Grew.refl _).drewN _))).mono ?_
  rintro en w1 ⟨rfl, y1, y2⟩
  have Y : Hid (OW ob L w w1 ∧ MV ob W w1) := ⟨y1, (((Grew.refl _).drewN _).mv ob).trans y2⟩
  clear y1 y2 CE HO
  cases R1 with
  | false =>
    clear CS
    go_wp2_with fail
    go_ret
    exact ⟨rfl, Y.out⟩
  | true =>
    go_wp2_with fail
    refine (CS.out _ Y.out.1).mono ?_
    rintro en w2 ⟨rfl, y1, y2⟩
    have Z : Hid (OW ob L w w2 ∧ MV ob W w2) := ⟨y1, Y.out.2.trans y2⟩
    clear y1 y2 CS Y
    go_wp2_with fail
    go_ret
    exact ⟨rfl, Z.out⟩
set_option maxRecDepth 100000 in
set_option maxHeartbeats 2000000 in
theorem fields_any {ob : Nat} {L : List RT} {w : World} {va vb : Value} {la lb : List FT} (ha : LF w va la) (hb : LF w vb lb) (hl : la.length ≤ 1048576) : MC ob L w 25 #[.pointer (some ⟨ob, 0, none⟩), va, vb] (fieldsP L la lb) := by
  intro W hO
  unfold fieldsP
  by_cases hle : lb.length ≤ la.length
  · rw [decide_eq_true hle, Bool.true_and]
    obtain ⟨aa, ac, ea, hac, _⟩ := ha.one
    subst ea
    exact fields_le ha hb hl hO hle
  · have d1 : decide ((la.length : Int) < (lb.length : Int)) = true := by simp; omega
    rw [decide_eq_false hle, Bool.false_and]
    obtain ⟨aa, ac, ea, hac, _⟩ := ha.one
    obtain ⟨ba, bc, eb, hbc, _⟩ := hb.one
    subst ea eb
    have HO : Hid (OW ob L w W) := hO
    clear ha hb hO
    go_enter Tryd.func25, Tryd.ntmps25
    go_wp2_with fail
    go_ret
    exact ⟨rfl, HO.out, MV.refl _ _⟩
end Go.Proofs.YtojkonoffdlbpaaDoor
