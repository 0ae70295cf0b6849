/-
  sub.Val; no statement is proved here.
-/
import Derived.Test.YtnmbniojejckpaaGreatDoorHeaV
import Derived.Test.YtnmbniojejckpaaGreatDoorRgL
set_option maxRecDepth 100000
set_option maxHeartbeats 8000000
namespace Go.Proofs.YtnmbniojejckpaaGreatDoor
open Go.RowKit
set_option linter.unusedVariables false
set_option linter.unusedSimpArgs false
def bytesP (n : Int) : Int := if n = 6 then 1 else if n = 7 then 2 else if n = 1 ∨ n = 3 then 4 else if n = 2 ∨ n = 4 then 8 else 0
def numP (a b : VT) : Bool := a.num == b.num && decide (0 < bytesP a.num)
def valP (L : List RT) (a b : VT) : Bool := if (a.num == 5) && (b.num == 5) then (b.null || !a.null) && heapP L a.heap b.heap else numP a b
theorem bytes_any (n h : Int) (u : Bool) (w : World) : Calls Tryz.prog 127 #[.agg #[.int .i64 n, .bool u, .int .i64 h]] w fun en w' => en = .returned (.int .i64 (bytesP n)) ∧ Grew w w' := by
  have fin : ∀ r, bytesP n = r → bytesP n = r := fun _ h => h
  by_cases h6 : n = 6
  · subst h6
    go_enter Tryz.func127, Tryz.ntmps127
    go_wp2_with fail
    go_ret
    exact ⟨rfl, (Grew.refl w).alloc _⟩
  have d6 : (n == 6) = false := by simpa using h6
  by_cases h7 : n = 7
  · subst h7
    go_enter Tryz.func127, Tryz.ntmps127
    go_wp2_with fail
    go_ret
    exact ⟨rfl, (Grew.refl w).alloc _⟩
  have d7 : (n == 7) = false := by simpa using h7
  by_cases h1 : n = 1
  · subst h1
    go_enter Tryz.func127, Tryz.ntmps127
    go_wp2_with fail
    go_ret
    exact ⟨rfl, (Grew.refl w).alloc _⟩
  have d1 : (n == 1) = false := by simpa using h1
  by_cases h3 : n = 3
  · subst h3
    go_enter Tryz.func127, Tryz.ntmps127
    go_wp2_with fail
    go_ret
    exact ⟨rfl, (Grew.refl w).alloc _⟩
  have d3 : (n == 3) = false := by simpa using h3
  by_cases h2 : n = 2
  · subst h2
    go_enter Tryz.func127, Tryz.ntmps127
    go_wp2_with fail
    go_ret
    exact ⟨rfl, (Grew.refl w).alloc _⟩
  have d2 : (n == 2) = false := by simpa using h2
  by_cases h4 : n = 4
  · subst h4
    go_enter Tryz.func127, Tryz.ntmps127
    go_wp2_with fail
    go_ret
    exact ⟨rfl, (Grew.refl w).alloc _⟩
  have d4 : (n == 4) = false := by simpa using h4
  have e : bytesP n = 0 := by unfold bytesP; rw [if_neg h6, if_neg h7, if_neg (by omega), if_neg (by omega)]
  rw [e]
  clear fin e h1 h2 h3 h4 h6 h7
  go_enter Tryz.func127, Tryz.ntmps127
  go_wp2_with fail
  go_ret
  exact ⟨rfl, (Grew.refl w).alloc _⟩
theorem numV_any (a b : VT) (w : World) : Calls Tryz.prog 110 #[a.v, b.v] w fun en w' => en = .returned (.bool (numP a b)) ∧ Grew w w' := by
  have CB : Hid (∀ X, Calls Tryz.prog 127 #[.agg #[.int .i64 a.num, .bool a.null, .int .i64 a.heap]] X fun en w' => en = .returned (.int .i64 (bytesP a.num)) ∧ Grew X w') := fun X => bytes_any _ _ _ X
  unfold numP VT.v
  generalize bytesP a.num = by_ at *
  obtain ⟨an, au, ah⟩ := a
  obtain ⟨bn, bu, bh⟩ := b
  cases hc : (an == bn) with
  | false =>
    go_enter Tryz.func110, Tryz.ntmps110
    go_wp2_with fail
    go_ret
    exact ⟨rfl, ((Grew.refl w).alloc _).alloc _⟩
  | true =>
    go_enter Tryz.func110, Tryz.ntmps110
    go_wp2_with fail
    refine (CB.out _).mono ?_
    rintro en w1 ⟨rfl, g1⟩
    have G1 : Hid (Grew w w1) := (((Grew.refl w).alloc _).alloc _).trans g1
    clear g1 CB
    go_wp2_with fail
    go_ret
    exact ⟨by simp, G1.out⟩
theorem val_any {ob : Nat} {L : List RT} {w W : World} (hO : OW ob L w W) (a b : VT) :
    Calls Tryz.prog 112 #[.pointer (some ⟨ob, 0, none⟩), a.v, b.v] W fun en w' => en = .returned (.bool (valP L a b)) ∧ OW ob L w w' ∧ MV ob W w' := by
  have CN : Hid (∀ X, Calls Tryz.prog 110 #[a.v, b.v] X fun en w' => en = .returned (.bool (numP a b)) ∧ Grew X w') := fun X => numV_any a b X
  have CH : Hid (∀ X, OW ob L w X → Calls Tryz.prog 130 #[.pointer (some ⟨ob, 0, none⟩), .int .i64 a.heap, .int .i64 b.heap] X fun en w' => en = .returned (.bool (heapP L a.heap b.heap)) ∧ OW ob L w w' ∧ MV ob X w') := fun X h => heap_any h _ _
  have HO : Hid (OW ob L w W) := hO
  unfold valP
  generalize numP a b = nn at *
  generalize heapP L a.heap b.heap = hh at *
  obtain ⟨an, au, ah⟩ := a
  obtain ⟨bn, bu, bh⟩ := b
  unfold VT.v at CN ⊢
  clear hO
  have g0 : Hid (Grew W ((W.alloc (.cells #[.int .i64 an, .bool au, .int .i64 ah] 46)).alloc (.cells #[.int .i64 bn, .bool bu, .int .i64 bh] 46))) := ((Grew.refl W).alloc _).alloc _
  by_cases h5 : an = 5 ∧ bn = 5
  · obtain ⟨rfl, rfl⟩ := h5
    by_cases hn : bu = true ∨ au = false
    · have e : (bu || !au) = true := by rcases hn with rfl | rfl <;> simp
      have hcs : bu = true ∨ (bu = false ∧ au = false) := by cases bu <;> simp_all
      clear hn CN
      simp only [e, Bool.true_and, beq_self_eq_true, if_true]
      clear e
      rcases hcs with rfl | ⟨rfl, rfl⟩
      all_goals
        go_enter Tryz.func112, Tryz.ntmps112
        go_wp2_with fail
        refine (CH.out _ (HO.out.grew g0.out)).mono ?_
        rintro en w1 ⟨rfl, y1, y2⟩
        have Y : Hid (OW ob L w w1 ∧ MV ob W w1) := ⟨y1, (g0.out.mv ob).trans y2⟩
        clear y1 y2 CH
        go_wp2_with fail
        go_ret
        exact ⟨rfl, Y.out⟩
    · have hcs : bu = false ∧ au = true := by cases bu <;> cases au <;> simp_all
      obtain ⟨rfl, rfl⟩ := hcs
      clear hn CN CH
      simp only [Bool.not_true, Bool.or_self, Bool.false_and, beq_self_eq_true, Bool.and_self, if_true]
      go_enter Tryz.func112, Tryz.ntmps112
      go_wp2_with fail
      go_ret
      exact ⟨rfl, HO.out.grew g0.out, g0.out.mv ob⟩
  · have e : ((an == 5) && (bn == 5)) = false := by
      cases e1 : (an == 5) with
      | false => rfl
      | true =>
        cases e2 : (bn == 5) with
        | false => rfl
        | true => exact absurd ⟨by simpa using e1, by simpa using e2⟩ h5
    have hcs : (an == 5) = false ∨ (an = 5 ∧ (bn == 5) = false) := by
      cases e1 : (an == 5) with
      | false => exact Or.inl rfl
      | true => rw [e1] at e; exact Or.inr ⟨by simpa using e1, by simpa using e⟩
    simp only [e]
    clear h5 e CH
    rcases hcs with d | ⟨rfl, d⟩
    all_goals
      go_enter Tryz.func112, Tryz.ntmps112
      go_wp2_with fail
      refine (CN.out _).mono ?_
      rintro en w1 ⟨rfl, g1⟩
      have Y : Hid (Grew W w1) := g0.out.trans g1
      clear g1 CN
      go_wp2_with fail
      go_ret
      exact ⟨rfl, HO.out.grew Y.out, Y.out.mv ob⟩
theorem oclosed_ow {w : World} {v : Value} {L : List RT} (h : LR w v L) (hf : Fit L) (ht : Tab w) (hc : closedP 0 L = true) :
    Calls Tryz.prog 111 #[v] w fun en w' => ∃ ob w1, en = .returned (.tuple #[.pointer (some ⟨ob, 0, none⟩), .bool true]) ∧ Grew w w1 ∧ OW ob L w1 w' ∧ Grew w w' := by
  have C : Hid (Calls Tryz.prog 128 #[v] w fun en w' => ∃ p : Int, en = .returned (.tuple #[.int .i64 p, .int .i64 0]) ∧ Grew w w') := by
    have := closed_any h hf.sml
    rw [hc] at this
    exact this
  have CN : Hid (∀ X, Grew w X → Calls Tryz.prog 129 #[v] X fun en w' => ∃ ob, en = .returned (.pointer (some ⟨ob, 0, none⟩)) ∧ OW ob L X w' ∧ Grew w w') := fun X g => by
    refine (newOrder_any (h.grew g) hf).mono ?_
    rintro en w' ⟨ob, tv, e, h1, h2, h3, g'⟩
    exact ⟨ob, e, ⟨hf, hc, ht.grew g, g', h1, _, _, _, h2, h.grew g, h3, Or.inl rfl⟩, g.trans g'⟩
  obtain ⟨va, vc, ev, _⟩ := h.one
  subst ev
  clear h hf hc ht
  go_enter Tryz.func111, Tryz.ntmps111
  go_wp2_with fail
  refine C.out.mono ?_
  rintro en w1 ⟨p, rfl, g1⟩
  have G1 : Hid (Grew w w1) := g1
  clear g1 C
  go_wp2_with fail
  refine (CN.out w1 G1.out).mono ?_
  rintro en w2 ⟨ob, rfl, h1, g2⟩
  have K : Hid (Grew w w1 ∧ OW ob L w1 w2 ∧ Grew w w2) := ⟨G1.out, h1, g2⟩
  clear h1 g2 CN G1
  go_wp2_with fail
  go_ret2
  exact ⟨ob, w1, rfl, K.out⟩
theorem MV.grew {ob : Nat} {L : List RT} {w w1 A B : World} (k : MV ob A B) (g : Grew w A) (g1 : Grew w w1) (o : OW ob L w1 A) : Grew w B := k.t.grew g (fun x hx => by
  rw [hx]
  exact Nat.le_trans g1.2 o.lo)
def valS (L : List RT) (a b : VT) : Bool := if (a.num == 5) && (b.num == 5) then closedP 0 L && valP L a b else numP a b
theorem subVal_any {w : World} {v : Value} {L : List RT} (h : LR w v L) (hf : Fit L) (ht : Tab w) (a b : VT) :
    Calls Tryz.prog 87 #[v, a.v, b.v] w fun en w' => en = .returned (.bool (valS L a b)) ∧ Grew w w' := by
  have CN : Hid (∀ X, Calls Tryz.prog 110 #[a.v, b.v] X fun en w' => en = .returned (.bool (numP a b)) ∧ Grew X w') := fun X => numV_any a b X
  obtain ⟨va, vc, ev, _⟩ := h.one
  subst ev
  have CO : Hid (∀ X, Grew w X → closedP 0 L = false → Calls Tryz.prog 111 #[.slice va L.length vc] X fun en w' => en = .returned (.tuple #[.pointer none, .bool false]) ∧ Grew X w') := fun X g hc => oclosed_no (h.grew g) hf hc
  have CY : Hid (∀ X, Grew w X → closedP 0 L = true → Calls Tryz.prog 111 #[.slice va L.length vc] X fun en w' => ∃ ob w1, en = .returned (.tuple #[.pointer (some ⟨ob, 0, none⟩), .bool true]) ∧ Grew X w1 ∧ OW ob L w1 w' ∧ Grew X w') := fun X g hc => oclosed_ow (h.grew g) hf (ht.grew g) hc
  have CV : Hid (∀ ob w1 X, OW ob L w1 X → Calls Tryz.prog 112 #[.pointer (some ⟨ob, 0, none⟩), a.v, b.v] X fun en w' => en = .returned (.bool (valP L a b)) ∧ OW ob L w1 w' ∧ MV ob X w') := fun ob w1 X hO => val_any hO a b
  clear h hf ht
  obtain ⟨an, az, ah⟩ := a
  obtain ⟨bn, bz, bh⟩ := b
  unfold valS
  unfold VT.v at *
  simp only at *
  by_cases h5 : an = 5
  · by_cases h6 : bn = 5
    · have e : ((an == 5) && (bn == 5)) = true := by simp [h5, h6]
      rw [e, if_pos rfl]
      subst h5 h6
      clear e CN
      cases hc : closedP 0 L with
      | false =>
        go_enter Tryz.func87, Tryz.ntmps87
        go_wp2_with fail
        refine (CO.out _ (by repeat (first | with_reducible exact Grew.refl _ | refine Grew.alloc ?_ _)) hc).mono ?_
        rintro en w1 ⟨rfl, g1⟩
        have G1 : Hid (Grew w w1) := Grew.trans (by repeat (first | with_reducible exact Grew.refl _ | refine Grew.alloc ?_ _)) g1
        clear g1 CO CY CV
        go_wp2_with fail
        go_ret
        exact ⟨rfl, G1.out⟩
      | true =>
        rw [Bool.true_and]
        generalize valP L ⟨5, az, ah⟩ ⟨5, bz, bh⟩ = B at *
        go_enter Tryz.func87, Tryz.ntmps87
        go_wp2_with fail
        obtain ⟨w0, hw0⟩ : ∃ w0, w0 = (w.alloc (.cells #[.int .i64 5, .bool az, .int .i64 ah] 46)).alloc (.cells #[.int .i64 5, .bool bz, .int .i64 bh] 46) := ⟨_, rfl⟩
        have G0 : Hid (Grew w w0) := by rw [hw0]; exact ((Grew.refl w).alloc _).alloc _
        have N0 : Hid (w0.heap[w.heap.size]? = some (.cells #[.int .i64 5, .bool az, .int .i64 ah] 46 (0, 0))) := by rw [hw0]; exact heap_alloc (heap_alloc_last _ _) _
        have N1 : Hid (w0.heap[w.heap.size + 1]? = some (.cells #[.int .i64 5, .bool bz, .int .i64 bh] 46 (0, 0))) := by
          rw [hw0]
          have := heap_alloc_last (w.alloc (.cells #[.int .i64 5, .bool az, .int .i64 ah] 46)) (.cells #[.int .i64 5, .bool bz, .int .i64 bh] 46)
          rw [alloc_size] at this
          exact this
        rw [← hw0]
        clear hw0
        refine (CY.out _ G0.out hc).mono ?_
        rintro en w2 ⟨ob, w1, rfl, g1, hO, g2⟩
        have M0 := (g2.turn []).other N0.out (by simp)
        have M1 := (g2.turn []).other N1.out (by simp)
        have a0 := cell_of M0 0
        have a1 := cell_of M0 1
        have a2 := cell_of M0 2
        have b0 := cell_of M1 0
        have b1 := cell_of M1 1
        have b2 := cell_of M1 2
        simp at a0 a1 a2 b0 b1 b2
        have h1 := lt_of_obj M0
        have h2 := lt_of_obj M1
        have CV2 := CV.out ob w1 w2 hO
        have K : Hid (Grew w w1 ∧ OW ob L w1 w2 ∧ Grew w w2) := ⟨G0.out.trans g1, hO, G0.out.trans g2⟩
        clear g1 hO g2 CO CY CV M0 M1 N0 N1 G0
        go_wp2_with fail
        refine CV2.mono ?_
        rintro en w3 ⟨rfl, hO, mv⟩
        have G3 : Hid (Grew w w3) := mv.grew K.out.2.2 K.out.1 K.out.2.1
        clear hO mv CV2
        go_wp2_with fail
        all_goals
          go_ret
          exact ⟨rfl, G3.out⟩
    · have e : ((an == 5) && (bn == 5)) = false := by simp [h6]
      rw [e, if_neg (by simp)]
      have d1 : (bn == 5) = false := by simp [h6]
      have d2 : (bn != 5) = true := by simp [h6]
      subst h5
      generalize numP ⟨5, az, ah⟩ ⟨bn, bz, bh⟩ = B at *
      clear e h6 CO CY CV
      go_enter Tryz.func87, Tryz.ntmps87
      go_wp2_with fail
      refine (CN.out _).mono ?_
      rintro en w1 ⟨rfl, g1⟩
      have G1 : Hid (Grew w w1) := Grew.trans (by repeat (first | with_reducible exact Grew.refl _ | refine Grew.alloc ?_ _)) g1
      clear g1 CN
      go_wp2_with fail
      go_ret
      exact ⟨rfl, G1.out⟩
  · have e : ((an == 5) && (bn == 5)) = false := by simp [h5]
    rw [e, if_neg (by simp)]
    have d1 : (an == 5) = false := by simp [h5]
    have d2 : (an != 5) = true := by simp [h5]
    generalize numP ⟨an, az, ah⟩ ⟨bn, bz, bh⟩ = B at *
    clear e h5 CO CY CV
    go_enter Tryz.func87, Tryz.ntmps87
    go_wp2_with fail
    refine (CN.out _).mono ?_
    rintro en w1 ⟨rfl, g1⟩
    have G1 : Hid (Grew w w1) := Grew.trans (by repeat (first | with_reducible exact Grew.refl _ | refine Grew.alloc ?_ _)) g1
    clear g1 CN
    go_wp2_with fail
    go_ret
    exact ⟨rfl, G1.out⟩
end Go.Proofs.YtnmbniojejckpaaGreatDoor
