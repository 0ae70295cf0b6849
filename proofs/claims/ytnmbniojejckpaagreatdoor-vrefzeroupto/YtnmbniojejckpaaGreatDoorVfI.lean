/-
  vref's takers: what is taken for a new array; no statement is proved here.
-/
import Derived.Test.YtnmbniojejckpaaGreatDoorVfF
set_option maxRecDepth 100000
set_option maxHeartbeats 8000000
namespace Go.Proofs.YtnmbniojejckpaaGreatDoor
open Go.RowKit
set_option linter.unusedVariables false
set_option linter.unusedSimpArgs false
theorem abs_any (b : Bool) (h : Int) (w : World) : Calls Tryz.prog 33 #[.bool b, .int .i64 h] w fun en w' => en = .returned (.agg #[.int .i64 5, .bool b, .int .i64 h]) ∧ Grew w w' := by
  go_enter Tryz.func33, Tryz.ntmps33
  go_wp2_with fail
  refine bodyPost_ret (v := .agg #[.int .i64 5, .bool b, .int .i64 h]) (by simp [results, Tryz.results33, go_sem]) rfl ?_
  exact ⟨rfl, (by repeat (first | with_reducible exact .refl _ | refine .alloc ?_ _ | refine .set ?_ (by simp) _ | refine .drewN ?_ _ | refine .drew ?_))⟩
theorem ql_any (v : Value) (w : World) : Calls Tryz.prog 32 #[v] w fun en w' => en = .returned v ∧ Grew w w' := by
  go_enter Tryz.func32, Tryz.ntmps32
  go_wp2_with fail
  go_ret
  exact ⟨rfl, (by repeat (first | with_reducible exact .refl _ | refine .alloc ?_ _ | refine .set ?_ (by simp) _ | refine .drewN ?_ _ | refine .drew ?_))⟩
theorem q32_any (w : World) : Calls Tryz.prog 34 #[] w fun en w' => en = .returned (.agg #[.int .i64 1, .bool false, .int .i64 0]) ∧ Grew w w' := by
  go_enter Tryz.func34, Tryz.ntmps34
  go_wp2_with fail
  refine bodyPost_ret (v := .agg #[.int .i64 1, .bool false, .int .i64 0]) (by simp [results, Tryz.results34, go_sem]) rfl ?_
  exact ⟨rfl, (by repeat (first | with_reducible exact .refl _ | refine .alloc ?_ _ | refine .set ?_ (by simp) _ | refine .drewN ?_ _ | refine .drew ?_))⟩
/- Not over: an error that is none of vref's own 'there is no such instruction', what lies below B kept. -/
theorem Z6.of {p : Program} {k : Nat} {a : Array Value} {X : World} {B : Nat} {e : Int} {w' : World} (he : e ≠ 6) (h : KB B X w') : Z6 B X (.returned (.int .i64 e)) w' := ⟨e, rfl, he, h⟩
section
variable {w : World} {B C : Nat}
theorem swaps1_z (F : FRS B C w) {X : World} (g : Grew w X) {p q : Nat} {ia ua : Option Addr} {il ic ul uc : Nat} {li lu : List VT} (np : X.cell? ⟨p, 0, none⟩ = some (.slice ia il ic)) (nq : X.cell? ⟨q, 0, none⟩ = some (.slice ua ul uc)) (hi : LV X (.slice ia il ic) li) (hu : LV X (.slice ua ul uc) lu) (hn : lu.length ≤ 8000000) (hb : ∀ a, ua = some a → a.block < X.heap.size) :
    Calls Tryz.prog 66 #[.pointer (some ⟨C, 0, none⟩), .pointer (some ⟨p, 0, none⟩), .pointer (some ⟨q, 0, none⟩)] X (Z6 B X) := by
  have CS : Hid (∀ Y, Grew X Y → Calls Tryz.prog 67 #[.pointer (some ⟨C, 0, none⟩), .slice ia il ic, .slice ua ul uc] Y (Z6T B C Y)) := fun Y gy => F.swap Y _ _ li lu (g.trans gy) (hi.grew gy) (hu.grew gy) hn (fun a n c e => by
    injection e with e1 _ _
    exact Nat.lt_of_lt_of_le (hb a e1) gy.2)
  have HB := Hid.mk' (Nat.le_trans F.hB g.2)
  clear F g hi hu hb hn
  go_enter Tryz.func66, Tryz.ntmps66
  go_wp2_with fail
  refine (CS.out _ (Grew.refl X)).mono ?_
  rintro en w1 ⟨e, rfl, he, k1, _⟩
  have K1 := Hid.mk' k1
  have H6 := Hid.mk' he
  clear k1 he CS np nq
  go_wp2_with fail
  go_ret
  exact ⟨_, rfl, H6.out, K1.out⟩
theorem Two.setP {C : Nat} {v : Value} {X w1 : World} (t : Two C v X w1) {p : Addr} (hp : X.heap.size ≤ p.block) (u : Value) : Two C v X (w1.setCell p u) := fun x h1 h2 h3 => by
  rw [Below.heap_setCell _ _ _ _ (by omega)]
  exact t x h1 h2 h3
theorem Two.allocN {C : Nat} {v : Value} {X w1 : World} (t : Two C v X w1) (hs : X.heap.size ≤ w1.heap.size) (o : Obj) : Two C v X (w1.alloc o) := fun x h1 h2 h3 => by
  rw [Below.heap_alloc _ _ _ (by omega)]
  exact t x h1 h2 h3
theorem KB.allocN {B : Nat} {X w1 : World} (h : KB B X w1) (hB : B ≤ w1.heap.size) (o : Obj) : KB B X (w1.alloc o) := h.trans (Grew.kb ((Grew.refl w1).alloc _) hB)
def PopQ (B C : Nat) (X : World) : Ending → World → Prop := fun en w' => ∃ (a : Int) (b : Bool) (c : Int), en = .returned (.tuple #[.agg #[.int .i64 a, .bool b, .int .i64 c], .int .i64 130]) ∧ KB B X w' ∧ Two C NILS X w'
theorem popRef_z (F : FRS B C w) {X : World} (g : Grew w X) : Calls Tryz.prog 28 #[.pointer (some ⟨C, 0, none⟩)] X (PopQ B C X) := by
  have CS : Hid (∀ Y, Grew X Y → Calls Tryz.prog 62 #[.pointer (some ⟨C, 0, none⟩)] Y (PopQ B C Y)) := fun Y gy => F.pop Y (g.trans gy)
  have HB := Hid.mk' (Nat.le_trans F.hB g.2)
  have NR : (X.alloc (.cells #[.int .i64 0, .bool false, .int .i64 0] 46)).heap[X.heap.size]? = some (.cells #[.int .i64 0, .bool false, .int .i64 0] 46 (0, 0)) := heap_alloc_last _ _
  have HR := Hid.mk' NR
  have HC := Hid.mk' (Nat.lt_of_lt_of_le F.hC g.2)
  clear NR
  clear F g
  go_enter Tryz.func28, Tryz.ntmps28
  go_wp2_with fail
  refine (CS.out _ ((Grew.refl X).alloc _)).mono ?_
  rintro en w1 ⟨a, b, c, rfl, k1, t1⟩
  have hkb : KB B X w1 := KB.trans (Grew.kb ((Grew.refl X).alloc _) HB.out) k1
  have N1 := (t1 X.heap.size (by simp) (by have := HC.out; omega) (by simp [Value.ownBlock])).trans HR.out
  have tx : Two C NILS X w1 := fun x h1 h2 h3 => (t1 x (by simp; omega) h2 h3).trans (Below.heap_alloc _ _ _ h1)
  have K1 := Hid.mk' hkb
  have TX := Hid.mk' tx
  have lB := lt_of_obj N1
  have z0 := cell_of N1 0
  have z1 := cell_of N1 1
  have z2 := cell_of N1 2
  have y0 := free_of N1 0
  have y1 := free_of N1 1
  have y2 := free_of N1 2
  simp at z0 z1 z2
  have HN1 := Hid.mk' N1
  clear k1 t1 hkb tx N1 CS HR
  go_wp2_with fail
  have hb : X.heap.size ≤ X.heap.size := Nat.le_refl _
  have b3 := heap_set (heap_set (heap_set HN1.out 0 (.int .i64 a)) 1 (.bool b)) 2 (.int .i64 c)
  have k2 := ((K1.out.set (p := ⟨X.heap.size, 0, none⟩) HB.out (.int .i64 a)).set (p := ⟨X.heap.size, 1, none⟩) HB.out (.bool b)).set (p := ⟨X.heap.size, 2, none⟩) HB.out (.int .i64 c)
  have t2 := ((TX.out.setP (p := ⟨X.heap.size, 0, none⟩) hb (.int .i64 a)).setP (p := ⟨X.heap.size, 1, none⟩) hb (.bool b)).setP (p := ⟨X.heap.size, 2, none⟩) hb (.int .i64 c)
  generalize ((w1.setCell ⟨X.heap.size, 0, none⟩ (.int .i64 a)).setCell ⟨X.heap.size, 1, none⟩ (.bool b)).setCell ⟨X.heap.size, 2, none⟩ (.int .i64 c) = w2 at *
  have k3 := k2.allocN (Nat.le_trans HB.out k2.2) (.cells #[.int .i64 a, .bool b, .int .i64 c] 46)
  have t3 := t2.allocN k2.2 (.cells #[.int .i64 a, .bool b, .int .i64 c] 46)
  have b4 := heap_alloc b3 (.cells #[.int .i64 a, .bool b, .int .i64 c] 46)
  have c0 := cell_of b4 0
  have c1 := cell_of b4 1
  have c2 := cell_of b4 2
  simp at c0 c1 c2
  refine bodyPost_ret (v := .tuple #[.agg #[.int .i64 a, .bool b, .int .i64 c], .int .i64 130]) (by simp [results, Tryz.results28, go_sem, c0, c1, c2]) rfl ?_
  exact ⟨a, b, c, rfl, k3, t3⟩
theorem converts1_z (F : FRS B C w) {X : World} (g : Grew w X) {p : Nat} {h : Int} (np : X.cell? ⟨p, 0, none⟩ = some (.int .i64 h)) : Calls Tryz.prog 119 #[.pointer (some ⟨C, 0, none⟩), .pointer (some ⟨p, 0, none⟩)] X (PopQ B C X) := by
  have CS : Hid (∀ Y, Grew X Y → Calls Tryz.prog 50 #[.pointer (some ⟨C, 0, none⟩), .agg #[.int .i64 5, .bool true, .int .i64 h]] Y (PopQ B C Y)) := fun Y gy => F.popT Y 5 h true (g.trans gy)
  have CA : Hid (∀ Y, Calls Tryz.prog 33 #[.bool true, .int .i64 h] Y fun en w' => en = .returned (.agg #[.int .i64 5, .bool true, .int .i64 h]) ∧ Grew Y w') := fun Y => abs_any true h Y
  have HB := Hid.mk' (Nat.le_trans F.hB g.2)
  have NR : (X.alloc (.cells #[.int .i64 0, .bool false, .int .i64 0] 46)).heap[X.heap.size]? = some (.cells #[.int .i64 0, .bool false, .int .i64 0] 46 (0, 0)) := heap_alloc_last _ _
  have HR := Hid.mk' NR
  have HC := Hid.mk' (Nat.lt_of_lt_of_le F.hC g.2)
  have lp := lt_of_cell np
  clear NR
  clear F g
  go_enter Tryz.func119, Tryz.ntmps119
  go_wp2_with fail
  refine (CA.out _).mono ?_
  rintro en wa ⟨rfl, ga⟩
  have gxa : Grew (X.alloc (.cells #[.int .i64 0, .bool false, .int .i64 0] 46)) wa := ga
  have HR2 := Hid.mk' ((gxa.turn []).other HR.out (by simp))
  have GA : Hid (Grew X wa) := Grew.trans ((Grew.refl X).alloc _) gxa
  clear ga gxa CA HR np lp
  go_wp2_with fail
  refine (CS.out _ GA.out).mono ?_
  rintro en w1 ⟨a, b, c, rfl, k1, t1⟩
  have hkb : KB B X w1 := KB.trans (Grew.kb GA.out HB.out) k1
  have N1 := (t1 X.heap.size (lt_of_obj HR2.out) (by have := HC.out; omega) (by simp [Value.ownBlock])).trans HR2.out
  have tx : Two C NILS X w1 := fun x h1 h2 h3 => (t1 x (Nat.lt_of_lt_of_le h1 GA.out.2) h2 h3).trans (GA.out.1.block x h1)
  have K1 := Hid.mk' hkb
  have TX := Hid.mk' tx
  have lB := lt_of_obj N1
  have z0 := cell_of N1 0
  have z1 := cell_of N1 1
  have z2 := cell_of N1 2
  have y0 := free_of N1 0
  have y1 := free_of N1 1
  have y2 := free_of N1 2
  simp at z0 z1 z2
  have HN1 := Hid.mk' N1
  clear k1 t1 hkb tx N1 CS HR2
  go_wp2_with fail
  have hb : X.heap.size ≤ X.heap.size := Nat.le_refl _
  have b3 := heap_set (heap_set (heap_set HN1.out 0 (.int .i64 a)) 1 (.bool b)) 2 (.int .i64 c)
  have k2 := ((K1.out.set (p := ⟨X.heap.size, 0, none⟩) HB.out (.int .i64 a)).set (p := ⟨X.heap.size, 1, none⟩) HB.out (.bool b)).set (p := ⟨X.heap.size, 2, none⟩) HB.out (.int .i64 c)
  have t2 := ((TX.out.setP (p := ⟨X.heap.size, 0, none⟩) hb (.int .i64 a)).setP (p := ⟨X.heap.size, 1, none⟩) hb (.bool b)).setP (p := ⟨X.heap.size, 2, none⟩) hb (.int .i64 c)
  generalize ((w1.setCell ⟨X.heap.size, 0, none⟩ (.int .i64 a)).setCell ⟨X.heap.size, 1, none⟩ (.bool b)).setCell ⟨X.heap.size, 2, none⟩ (.int .i64 c) = w2 at *
  have k3 := k2
  have t3 := t2
  have b4 := b3
  have c0 := cell_of b4 0
  have c1 := cell_of b4 1
  have c2 := cell_of b4 2
  simp at c0 c1 c2
  refine bodyPost_ret (v := .tuple #[.agg #[.int .i64 a, .bool b, .int .i64 c], .int .i64 130]) (by simp [results, Tryz.results119, go_sem, c0, c1, c2]) rfl ?_
  exact ⟨a, b, c, rfl, k3, t3⟩
theorem turns1_z {X : World} (hB : B ≤ X.heap.size) {p q k k2 : Nat} {lb A2 B2 : Array Value} (hen : ∀ args W, (callFunc k args).run Tryz.prog W = .ok (.enter k args) W) (np : X.cell? ⟨p, 0, none⟩ = some (.func (.func k) #[] lb)) (nq : X.cell? ⟨q, 0, none⟩ = some (.func (.func k2) A2 B2)) (hp : ∀ Y, Grew X Y → Calls Tryz.prog k (#[.pointer (some ⟨C, 0, none⟩)] ++ lb) Y (PopQ B C Y)) :
    Calls Tryz.prog 61 #[.pointer (some ⟨C, 0, none⟩), .pointer (some ⟨p, 0, none⟩), .pointer (some ⟨q, 0, none⟩)] X (Z6 B X) := by
  have CS : Hid (∀ Y, Grew X Y → Calls Tryz.prog k (#[.pointer (some ⟨C, 0, none⟩)] ++ lb) Y (PopQ B C Y)) := hp
  have HB := Hid.mk' hB
  clear hp hB
  go_enter Tryz.func61, Tryz.ntmps61
  go_wp2_with fail
  refine (CS.out _ (Grew.refl X)).mono ?_
  rintro en w1 ⟨a, b, c, rfl, k1, _⟩
  have K1 := Hid.mk' k1
  clear k1 CS np nq hen
  go_wp2_with fail
  go_ret
  exact ⟨_, rfl, by decide, by first | exact K1.out | exact K1.out.allocN (Nat.le_trans HB.out K1.out.2) _⟩
end
/- What the takers answer: a list of types and an error. -/
def TkQ (X : World) (en : Ending) (w' : World) : Prop := ∃ (v : Value) (l : List VT) (e : Int), en = .returned (.tuple #[v, .int .i64 e]) ∧ e ≠ 6 ∧ LV w' v l ∧ Grew X w'
section
variable {w : World} {B C : Nat}
theorem one_lst (X : World) (a c : Int) (b : Bool) : LV (X.alloc (.cells #[.int .i64 a, .bool b, .int .i64 c] 46)) (.slice (some ⟨X.heap.size, 0, none⟩) 1 1) [⟨a, b, c⟩] := by
  have H := heap_alloc_last X (.cells #[.int .i64 a, .bool b, .int .i64 c] 46)
  refine ⟨some ⟨X.heap.size, 0, none⟩, 1, rfl, Nat.le_refl _, by decide, (fun h => nomatch h), Or.inr ⟨X.heap.size, 0, rfl, fun i x hx => ?_⟩⟩
  match i, hx with
  | 0, hx =>
    obtain rfl : _ = x := Option.some.inj hx
    exact ⟨(cell_of H 0).trans rfl, (cell_of H 1).trans rfl, (cell_of H 2).trans rfl⟩
theorem makes1_z (F : FRS B C w) {X : World} (g : Grew w X) {p q k : Nat} {lb es : Array Value} {n : Nat} (h32 : n < 4294967296) (hen : ∀ args W, (callFunc k args).run Tryz.prog W = .ok (.enter k args) W) (np : X.cell? ⟨p, 0, none⟩ = some (.func (.func k) #[] lb)) (nq : X.cell? ⟨q, 1, none⟩ = some (.int .u32 (n : Int))) (hp : ∀ Y, Grew X Y → Calls Tryz.prog k lb Y (TkQ Y)) :
    Calls Tryz.prog 104 #[.pointer (some ⟨C, 0, none⟩), .pointer (some ⟨p, 0, none⟩), .pointer (some ⟨q, 0, none⟩)] X (Z6 B X) := by
  have CT : Hid (∀ Y, Grew X Y → Calls Tryz.prog k lb Y (TkQ Y)) := hp
  have CD : Hid (∀ Y, Calls Tryz.prog 79 #[.bool false, .int .u32 (n : Int)] Y fun en w' => en = .returned (.agg #[.int .i64 5, .bool false, .int .i64 (n : Int)]) ∧ Grew Y w') := fun Y => qdefined_any false n h32 Y
  have CL : Hid (∀ v Y, Calls Tryz.prog 32 #[v] Y fun en w' => en = .returned v ∧ Grew Y w') := ql_any
  have CS : Hid (∀ Y (v u : Value) (li lu : List VT), Grew X Y → LV Y v li → LV Y u lu → lu.length ≤ 8000000 → (∀ a n c, u = .slice (some a) n c → a.block < Y.heap.size) → Calls Tryz.prog 67 #[.pointer (some ⟨C, 0, none⟩), v, u] Y (Z6T B C Y)) := fun Y v u li lu gy => F.swap Y v u li lu (g.trans gy)
  have HB := Hid.mk' (Nat.le_trans F.hB g.2)
  clear F g h32 hp
  go_enter Tryz.func104, Tryz.ntmps104
  go_wp2_with fail
  refine (CT.out _ (Grew.refl X)).mono ?_
  rintro en w1 ⟨v, l, e, rfl, he, hl, g1⟩
  have G1 := Hid.mk' g1
  have H6 := Hid.mk' he
  have HL := Hid.mk' hl
  have nq1 := cell_grew nq g1
  obtain ⟨va, vc, ev, _⟩ := hl.one
  subst ev
  clear he hl g1 CT np nq hen
  by_cases h0 : e = 0
  · subst h0
    go_wp2_with fail
    refine (CD.out _).mono ?_
    rintro en w2 ⟨rfl, g2⟩
    have G2 := Hid.mk' (G1.out.trans g2)
    have HL2 := Hid.mk' (HL.out.grew g2)
    clear g2 CD G1 HL nq1
    go_wp2_with fail
    refine (CL.out _ _).mono ?_
    rintro en w3 ⟨rfl, g3⟩
    have g3' : Grew (w2.alloc (.cells #[.int .i64 5, .bool false, .int .i64 (n : Int)] 46)) w3 := g3
    have gg : Grew w2 w3 := Grew.trans ((Grew.refl w2).alloc _) g3'
    have HU := Hid.mk' ((one_lst w2 5 (n : Int) false).grew g3')
    have HL3 := Hid.mk' (HL2.out.grew gg)
    have hbl : w2.heap.size < w3.heap.size := Nat.lt_of_lt_of_le (by simp) g3'.2
    have HX := Hid.mk' hbl
    have G3 := Hid.mk' (G2.out.trans gg)
    clear g3 g3' gg hbl CL G2 HL2
    go_wp2_with fail
    refine (CS.out _ _ _ l _ G3.out HL3.out HU.out (by simp) (fun a n c e => by
      injection e with e1 _ _
      injection e1 with e1
      subst e1
      exact HX.out)).mono ?_
    rintro en w4 ⟨e, rfl, he, k4, _⟩
    have K4 := Hid.mk' ((Grew.kb G3.out HB.out).trans k4)
    have HE := Hid.mk' he
    clear he k4 CS
    go_wp2_with fail
    go_ret
    exact ⟨_, rfl, HE.out, K4.out⟩
  · have e1 : (e == 0) = false := by rw [beq_eq_false_iff_ne]; exact h0
    clear h0
    go_wp2_with fail
    go_ret
    exact ⟨_, rfl, H6.out, Grew.kb G1.out HB.out⟩
end
section
variable {w : World} {cx : Array Value} {TT : List RT} {FL : List Int} {EL : List VT} {RB : List Bool} {dt : Int}
theorem two_lst (X : World) (a c a2 c2 : Int) (b b2 : Bool) : LV (X.alloc (.cells #[.int .i64 a, .bool b, .int .i64 c, .int .i64 a2, .bool b2, .int .i64 c2] 46)) (.slice (some ⟨X.heap.size, 0, none⟩) 2 2) [⟨a, b, c⟩, ⟨a2, b2, c2⟩] := by
  have H := heap_alloc_last X (.cells #[.int .i64 a, .bool b, .int .i64 c, .int .i64 a2, .bool b2, .int .i64 c2] 46)
  refine ⟨some ⟨X.heap.size, 0, none⟩, 2, rfl, Nat.le_refl _, by decide, (fun h => nomatch h), Or.inr ⟨X.heap.size, 0, rfl, fun i x hx => ?_⟩⟩
  match i, hx with
  | 0, hx =>
    obtain rfl : _ = x := Option.some.inj hx
    exact ⟨(cell_of H 0).trans rfl, (cell_of H 1).trans rfl, (cell_of H 2).trans rfl⟩
  | 1, hx =>
    obtain rfl : _ = x := Option.some.inj hx
    exact ⟨(cell_of H 3).trans rfl, (cell_of H 4).trans rfl, (cell_of H 5).trans rfl⟩
theorem arrayNew1_z (hc : CTX w cx TT FL EL RB dt) {X : World} (g : Grew w X) {p q : Nat} {es : Array Value} (hx : X.heap[p]? = some (.cells cx 30 (0, 0))) (hq : X.heap[q]? = some (.cells es 52 (0, 0))) {n : Nat} (h32 : n < 4294967296) (h1 : es[1]? = some (.int .u32 (n : Int))) : Calls Tryz.prog 80 #[.pointer (some ⟨p, 0, none⟩), .pointer (some ⟨q, 0, none⟩)] X (TkQ X) := by
  have CE : Hid (∀ Y, Grew X Y → Calls Tryz.prog 81 #[.agg cx, .int .u32 (n : Int)] Y (FtQ Y)) := fun Y gy => element_any hc n h32 (g.trans gy)
  have hsz := hc.sz
  have HX := Hid.mk' hx
  have q1 := (cell_of hq 1).trans h1
  have GP : Hid (Grew X X) := Grew.refl X
  have CU : Hid (∀ Y (n h : Int) (z : Bool), Calls Tryz.prog 71 #[.agg #[.int .i64 n, .bool z, .int .i64 h]] Y (VtQ Y)) := fun Y n h z => unpack_any n h z Y
  have CI : Hid (∀ Y, Calls Tryz.prog 34 #[] Y fun en w' => en = .returned (.agg #[.int .i64 1, .bool false, .int .i64 0]) ∧ Grew Y w') := q32_any
  have CL : Hid (∀ v Y, Calls Tryz.prog 32 #[v] Y fun en w' => en = .returned v ∧ Grew Y w') := ql_any
  clear hc g h32 hq h1
  go_enter Tryz.func80, Tryz.ntmps80
  go_wp2_with (first
    | (with_reducible refine stop_load 30 rfl ?_
       unfold Stop
       refine wpList_load_row rfl 30 _ rfl p (by go_simp) 30 cx (0, 0) _ HX.out Tryz.underlying30 rfl (by rw [hsz]; kernel_rfl) ?_)
    | fail)
  refine (CE.out _ (Grew.refl X)).mono ?_
  rintro en w1 ⟨a, b, c, d, e, rfl, he, g1⟩
  clear GP
  have GP := Hid.mk' g1
  have H6 := Hid.mk' he
  clear he g1 CE HX hx
  go_wp2_with fail
  refine (CU.out _ _ _ _).mono ?_
  rintro en w2 ⟨ua, ub, uc, rfl, g2⟩
  have gx : Grew X w2 := Grew.trans (by repeat (first | with_reducible exact GP.out | with_reducible exact .refl _ | refine .alloc ?_ _ | refine .set ?_ (by first | (simp; done) | (have := GP.out.2; simp; omega)) _ | refine .drewN ?_ _ | refine .drew ?_)) g2
  clear GP
  have GP := Hid.mk' gx
  clear gx g2 CU
  go_wp2_with fail
  refine (CI.out _).mono ?_
  rintro en w3 ⟨rfl, g3⟩
  have gx : Grew X w3 := Grew.trans (by repeat (first | with_reducible exact GP.out | with_reducible exact .refl _ | refine .alloc ?_ _ | refine .set ?_ (by first | (simp; done) | (have := GP.out.2; simp; omega)) _ | refine .drewN ?_ _ | refine .drew ?_)) g3
  clear GP
  have GP := Hid.mk' gx
  clear gx g3
  go_wp2_with fail
  refine (CL.out _ _).mono ?_
  rintro en w4 ⟨rfl, g4⟩
  have gl : Grew (w3.alloc (.cells #[.int .i64 ua, .bool ub, .int .i64 uc, .int .i64 1, .bool false, .int .i64 0] 46)) w4 := g4
  have HU := Hid.mk' ((two_lst w3 ua uc 1 0 ub false).grew gl)
  have gx : Grew X w4 := Grew.trans (by repeat (first | with_reducible exact GP.out | with_reducible exact .refl _ | refine .alloc ?_ _ | refine .set ?_ (by first | (simp; done) | (have := GP.out.2; simp; omega)) _ | refine .drewN ?_ _ | refine .drew ?_)) g4
  clear GP
  have GP := Hid.mk' gx
  clear gx g4 gl
  go_wp2_with fail
  refine bodyPost_ret (v := .tuple #[.slice (some ⟨w3.heap.size, 0, none⟩) 2 2, .int .i64 e]) (by simp [results, Tryz.results80, go_sem]) rfl ?_
  exact ⟨_, _, e, rfl, H6.out, HU.out, GP.out⟩
theorem arrayNewDefault1_z (hc : CTX w cx TT FL EL RB dt) {X : World} (g : Grew w X) {p q : Nat} {es : Array Value} (hx : X.heap[p]? = some (.cells cx 30 (0, 0))) (hq : X.heap[q]? = some (.cells es 52 (0, 0))) {n : Nat} (h32 : n < 4294967296) (h1 : es[1]? = some (.int .u32 (n : Int))) : Calls Tryz.prog 82 #[.pointer (some ⟨p, 0, none⟩), .pointer (some ⟨q, 0, none⟩)] X (TkQ X) := by
  have CE : Hid (∀ Y, Grew X Y → Calls Tryz.prog 81 #[.agg cx, .int .u32 (n : Int)] Y (FtQ Y)) := fun Y gy => element_any hc n h32 (g.trans gy)
  have hsz := hc.sz
  have HX := Hid.mk' hx
  have q1 := (cell_of hq 1).trans h1
  have GP : Hid (Grew X X) := Grew.refl X
  have CN : Hid (∀ Y (n h : Int) (z m : Bool), Calls Tryz.prog 74 #[.agg #[.int .i64 n, .bool z, .int .i64 h, .bool m]] Y (BoQ Y)) := fun Y n h z m => noDefault_any n h z m Y
  have CI : Hid (∀ Y, Calls Tryz.prog 34 #[] Y fun en w' => en = .returned (.agg #[.int .i64 1, .bool false, .int .i64 0]) ∧ Grew Y w') := q32_any
  have CL : Hid (∀ v Y, Calls Tryz.prog 32 #[v] Y fun en w' => en = .returned v ∧ Grew Y w') := ql_any
  clear hc g h32 hq h1
  go_enter Tryz.func82, Tryz.ntmps82
  go_wp2_with (first
    | (with_reducible refine stop_load 30 rfl ?_
       unfold Stop
       refine wpList_load_row rfl 30 _ rfl p (by go_simp) 30 cx (0, 0) _ HX.out Tryz.underlying30 rfl (by rw [hsz]; kernel_rfl) ?_)
    | fail)
  refine (CE.out _ (Grew.refl X)).mono ?_
  rintro en w1 ⟨a, b, c, d, e, rfl, he, g1⟩
  clear GP
  have GP := Hid.mk' g1
  have H6 := Hid.mk' he
  clear he g1 CE HX hx
  by_cases h0 : e = 0
  · subst h0
    go_wp2_with fail
    refine (CN.out _ _ _ _ _).mono ?_
    rintro en w2 ⟨r, rfl, g2⟩
    have gx : Grew X w2 := Grew.trans (by repeat (first | with_reducible exact GP.out | with_reducible exact .refl _ | refine .alloc ?_ _ | refine .set ?_ (by first | (simp; done) | (have := GP.out.2; simp; omega)) _ | refine .drewN ?_ _ | refine .drew ?_)) g2
    clear GP
    have GP := Hid.mk' gx
    clear gx g2 CN
    cases r
    · go_wp2_with fail
      refine (CI.out _).mono ?_
      rintro en w3 ⟨rfl, g3⟩
      have gx : Grew X w3 := Grew.trans (by repeat (first | with_reducible exact GP.out | with_reducible exact .refl _ | refine .alloc ?_ _ | refine .set ?_ (by first | (simp; done) | (have := GP.out.2; simp; omega)) _ | refine .drewN ?_ _ | refine .drew ?_)) g3
      clear GP
      have GP := Hid.mk' gx
      clear gx g3
      go_wp2_with fail
      refine (CL.out _ _).mono ?_
      rintro en w4 ⟨rfl, g4⟩
      have gl : Grew (w3.alloc (.cells #[.int .i64 1, .bool false, .int .i64 0] 46)) w4 := g4
      have HU := Hid.mk' ((one_lst w3 1 0 false).grew gl)
      have gx : Grew X w4 := Grew.trans (by repeat (first | with_reducible exact GP.out | with_reducible exact .refl _ | refine .alloc ?_ _ | refine .set ?_ (by first | (simp; done) | (have := GP.out.2; simp; omega)) _ | refine .drewN ?_ _ | refine .drew ?_)) g4
      clear GP
      have GP := Hid.mk' gx
      clear gx g4 gl
      go_wp2_with fail
      refine bodyPost_ret (v := .tuple #[.slice (some ⟨w3.heap.size, 0, none⟩) 1 1, .int .i64 0]) (by simp [results, Tryz.results82, go_sem]) rfl ?_
      exact ⟨_, _, 0, rfl, by decide, HU.out, GP.out⟩
    · go_wp2_with fail
      refine (CI.out _).mono ?_
      rintro en w3 ⟨rfl, g3⟩
      have gx : Grew X w3 := Grew.trans (by repeat (first | with_reducible exact GP.out | with_reducible exact .refl _ | refine .alloc ?_ _ | refine .set ?_ (by first | (simp; done) | (have := GP.out.2; simp; omega)) _ | refine .drewN ?_ _ | refine .drew ?_)) g3
      clear GP
      have GP := Hid.mk' gx
      clear gx g3
      go_wp2_with fail
      refine (CL.out _ _).mono ?_
      rintro en w4 ⟨rfl, g4⟩
      have gl : Grew (w3.alloc (.cells #[.int .i64 1, .bool false, .int .i64 0] 46)) w4 := g4
      have HU := Hid.mk' ((one_lst w3 1 0 false).grew gl)
      have gx : Grew X w4 := Grew.trans (by repeat (first | with_reducible exact GP.out | with_reducible exact .refl _ | refine .alloc ?_ _ | refine .set ?_ (by first | (simp; done) | (have := GP.out.2; simp; omega)) _ | refine .drewN ?_ _ | refine .drew ?_)) g4
      clear GP
      have GP := Hid.mk' gx
      clear gx g4 gl
      go_wp2_with fail
      refine bodyPost_ret (v := .tuple #[.slice (some ⟨w3.heap.size, 0, none⟩) 1 1, .int .i64 163]) (by simp [results, Tryz.results82, go_sem]) rfl ?_
      exact ⟨_, _, 163, rfl, by decide, HU.out, GP.out⟩
  · have e1 : (e == 0) = false := by rw [beq_eq_false_iff_ne]; exact h0
    clear h0 CN
    go_wp2_with fail
    refine (CI.out _).mono ?_
    rintro en w2 ⟨rfl, g2⟩
    have gx : Grew X w2 := Grew.trans (by repeat (first | with_reducible exact GP.out | with_reducible exact .refl _ | refine .alloc ?_ _ | refine .set ?_ (by first | (simp; done) | (have := GP.out.2; simp; omega)) _ | refine .drewN ?_ _ | refine .drew ?_)) g2
    clear GP
    have GP := Hid.mk' gx
    clear gx g2
    go_wp2_with fail
    refine (CL.out _ _).mono ?_
    rintro en w3 ⟨rfl, g3⟩
    have gl : Grew (w2.alloc (.cells #[.int .i64 1, .bool false, .int .i64 0] 46)) w3 := g3
    have HU := Hid.mk' ((one_lst w2 1 0 false).grew gl)
    have gx : Grew X w3 := Grew.trans (by repeat (first | with_reducible exact GP.out | with_reducible exact .refl _ | refine .alloc ?_ _ | refine .set ?_ (by first | (simp; done) | (have := GP.out.2; simp; omega)) _ | refine .drewN ?_ _ | refine .drew ?_)) g3
    clear GP
    have GP := Hid.mk' gx
    clear gx g3 gl
    go_wp2_with fail
    refine bodyPost_ret (v := .tuple #[.slice (some ⟨w2.heap.size, 0, none⟩) 1 1, .int .i64 e]) (by simp [results, Tryz.results82, go_sem]) rfl ?_
    exact ⟨_, _, e, rfl, H6.out, HU.out, GP.out⟩
end
end Go.Proofs.YtnmbniojejckpaaGreatDoor
