/-
  sub.Top: a heap type's family; no statement is proved here.
-/
import Derived.Test.YtnmbniojejckpaaGreatDoorVfX
import Derived.Test.YtnmbniojejckpaaGreatDoorVfM
import Derived.Test.YtnmbniojejckpaaGreatDoorVfP
import Derived.Test.YtnmbniojejckpaaGreatDoorSvT
set_option maxRecDepth 100000
set_option maxHeartbeats 8000000
namespace Go.Proofs.YtnmbniojejckpaaGreatDoor
open Go.RowKit
set_option linter.unusedVariables false
set_option linter.unusedSimpArgs false
section
variable {w : World} {cx : Array Value} {TT : List RT} {FL : List Int} {EL : List VT} {RB : List Bool} {dt : Int}
variable {B C : Nat}
theorem branch1_z (FL9 : FRL C w) {X : World} (g : Grew w X) (hBX : B ≤ X.heap.size) {p q : Nat} {es : Array Value} (hq : X.heap[q]? = some (.cells es 52 (0, 0))) {n : Nat} (h32 : n < 4294967296) (h1 : es[1]? = some (.int .u32 (n : Int))) {ya : Option Addr} {yc : Nat} {sl : List VT} (h15 : es[15]? = some (.slice ya sl.length yc)) (hsl : LV X (.slice ya sl.length yc) sl) : Calls Tryz.prog 115 #[.pointer (some ⟨C, 0, none⟩), .pointer (some ⟨q, 0, none⟩), .pointer (some ⟨p, 0, none⟩)] X (Z6 B X) := by
  have CB : Hid (∀ Y, Grew X Y → Calls Tryz.prog 116 #[.pointer (some ⟨C, 0, none⟩), .int .u32 (n : Int)] Y fun en w' => ∃ a c e, en = .returned (.tuple #[.slice a 0 c, .int .i64 e]) ∧ (e = 0 ∨ e = 133) ∧ Grew Y w') := fun Y gy => FL9 Y n (g.trans gy) h32
  have HB := Hid.mk' hBX
  have q1 := (cell_of hq 1).trans h1
  have q15 := (cell_of hq 15).trans h15
  have lq := lt_of_cell q15
  have GP : Hid (Grew X X) := Grew.refl X
  have HL := Hid.mk' hsl
  have hmx : sl.length ≤ 9223372036854775807 := by
    obtain ⟨_, _, _, h1, h2⟩ := hsl.one
    simp [maxLen] at h2
    omega
  clear FL9 g hq h15 hsl h1 h32 hBX
  by_cases h0 : sl.length < 2
  · have d1 : decide ((sl.length : Int) < 2) = true := by simp; omega
    go_enter Tryz.func115, Tryz.ntmps115
    go_wp2_with fail
    go_ret
    exact ⟨_, rfl, by decide, Grew.kb GP.out HB.out⟩
  · have d1 : decide ((sl.length : Int) < 2) = false := by simp; omega
    have d2 : decide (0 < sl.length) = true := by simp; omega
    have d3 : decide ((0 : Int) < (sl.length : Int)) = true := by simp; omega
    have d5 : (0 : Int) < (sl.length : Int) := by omega
    have d6 : 0 < sl.length := by omega
    have d7 : decide (1 < sl.length) = true := by simp; omega
    have d8 : decide ((1 : Int) < (sl.length : Int)) = true := by simp; omega
    have d9 : (1 : Int) < (sl.length : Int) := by omega
    have d10 : 1 < sl.length := by omega
    have hnil : ¬ sl = [] := by
      intro e
      rw [e] at d2
      simp at d2
    obtain ⟨f, hf0⟩ : ∃ f, sl[0]? = some f := ⟨_, List.getElem?_eq_getElem (by omega)⟩
    obtain ⟨f2, hf2⟩ : ∃ f, sl[1]? = some f := ⟨_, List.getElem?_eq_getElem (by omega)⟩
    obtain ⟨b, off, ea, _, hE⟩ := HL.out.get (by omega)
    subst ea
    obtain ⟨x0, x1, x2⟩ := hE 0 f hf0
    obtain ⟨x3, x4, x5⟩ := hE 1 f2 hf2
    simp at x0 x1 x2 x3 x4 x5
    have hbl := lt_of_cell x0
    clear hE hf0 hf2 h0
    obtain ⟨fn, fz, fh⟩ := f
    obtain ⟨un, uz, uh⟩ := f2
    simp only at x0 x1 x2 x3 x4 x5
    go_enter Tryz.func115, Tryz.ntmps115
    go_wp2_with fail
    go_region_held3 (fun Y => Y.cell? ⟨q, 15, none⟩ = some (.slice (some ⟨b, off, none⟩) sl.length yc) ∧ Y.cell? ⟨b, off, none⟩ = some (.int .i64 fn) ∧ Y.cell? ⟨b, off + 1, none⟩ = some (.bool fz) ∧ Y.cell? ⟨b, off + 2, none⟩ = some (.int .i64 fh) ∧ Y.cell? ⟨b, off + 3, none⟩ = some (.int .i64 un) ∧ Y.cell? ⟨b, off + 3 + 1, none⟩ = some (.bool uz) ∧ Y.cell? ⟨b, off + 3 + 2, none⟩ = some (.int .i64 uh)) (first | (go_keep) | (refine ⟨?_, ?_, ?_, ?_, ?_, ?_, ?_⟩ <;> (repeat rw [World.cell?_setCell_far _ _ _ _ (by first | (simp; omega) | omega)]) <;> assumption)) (fail)
    all_goals
      go_wp2_with fail
      refine (CB.out _ (by repeat (first | with_reducible exact GP.out | refine .alloc ?_ _ | refine .drewN ?_ _ | refine .drew ?_))).mono ?_
      rintro en w1 ⟨a, c, e, rfl, he, g1⟩
      have gx : Grew X w1 := Grew.trans (by repeat (first | with_reducible exact GP.out | refine .alloc ?_ _ | refine .drewN ?_ _ | refine .drew ?_)) g1
      clear GP
      have GP := Hid.mk' gx
      clear gx g1 CB q1 q15 lq x0 x1 x2 x3 x4 x5 hbl
      rcases he with rfl | rfl
      all_goals
        go_wp2_with fail
        go_ret
        exact ⟨_, rfl, by decide, Grew.kb (by repeat (first | with_reducible exact GP.out | with_reducible exact .refl _ | refine .alloc ?_ _ | refine .set ?_ (by first | (simp; done) | (have := GP.out.2; simp; omega)) _ | refine .drewN ?_ _ | refine .drew ?_)) HB.out⟩
end
section
variable {w : World} {cx : Array Value} {TT : List RT} {FL : List Int} {EL : List VT} {RB : List Bool} {dt : Int}
theorem family_any {v : Value} {L : List RT} (h : LR w v L) (hf : Fit L) (ht : Tab w) (n : Int) : Calls Tryz.prog 131 #[v, .int .i64 n] w fun en w' => ∃ a b c e, en = .returned (.tuple #[.agg #[.int .i64 a, .int .i64 b, .int .i64 c], .int .i64 e]) ∧ e ≠ 6 ∧ Grew w w' := by
  obtain ⟨va, vc, ev, _⟩ := h.one
  subst ev
  have CO : Hid (∀ X, Grew w X → closedP 0 L = false → Calls Tryz.prog 111 #[.slice va L.length vc] X fun en w' => en = .returned (.tuple #[.pointer none, .bool false]) ∧ Grew X w') := fun X g hc => oclosed_no (h.grew g) hf hc
  have CY : Hid (∀ X, Grew w X → closedP 0 L = true → Calls Tryz.prog 111 #[.slice va L.length vc] X fun en w' => ∃ ob w1, en = .returned (.tuple #[.pointer (some ⟨ob, 0, none⟩), .bool true]) ∧ Grew X w1 ∧ OW ob L w1 w' ∧ Grew X w') := fun X g hc => oclosed_ow (h.grew g) hf (ht.grew g) hc
  have CV : Hid (∀ ob w1 X, OW ob L w1 X → Calls Tryz.prog 135 #[.pointer (some ⟨ob, 0, none⟩), .int .i64 n] X fun en w' => en = .returned (.tuple #[.agg #[.int .i64 (kA (kinO L n)), .int .i64 (kB (kinO L n)), .int .i64 (kD (kinO L n))], .bool (kinO L n).isSome]) ∧ Grew X w') := fun ob w1 X hO => kin_any hO n
  have N0 : Hid ((w.alloc (.cells #[.int .i64 0, .int .i64 0, .int .i64 0] 185)).heap[w.heap.size]? = some (.cells #[.int .i64 0, .int .i64 0, .int .i64 0] 185 (0, 0))) := heap_alloc_last _ _
  clear h hf ht
  cases hc : closedP 0 L with
  | false =>
    go_enter Tryz.func131, Tryz.ntmps131
    go_wp2_with fail
    refine (CO.out _ (by repeat (first | with_reducible exact .refl _ | refine .alloc ?_ _)) hc).mono ?_
    rintro en w1 ⟨rfl, g1⟩
    have gz : Grew (w.alloc (.cells #[.int .i64 0, .int .i64 0, .int .i64 0] 185)) w1 := Grew.trans (by repeat (first | with_reducible exact .refl _ | refine .alloc ?_ _)) g1
    have G1 : Hid (Grew w w1) := Grew.trans ((Grew.refl _).alloc _) gz
    have N1 := Hid.mk' ((gz.turn []).other N0.out (by simp))
    have z0 := lt_of_obj N1.out
    have x0 := cell_of N1.out 0
    have x1 := cell_of N1.out 1
    have x2 := cell_of N1.out 2
    simp at x0 x1 x2
    have y0 := free_of N1.out 0
    have y1 := free_of N1.out 1
    have y2 := free_of N1.out 2
    clear g1 gz CO CY CV N0
    go_wp2_with fail
    have b3 := heap_set (heap_set (heap_set N1.out 0 (.int .i64 0)) 1 (.int .i64 0)) 2 (.int .i64 0)
    have G9 := Hid.mk' (((G1.out.set (p := ⟨w.heap.size, 0, none⟩) (Nat.le_refl _) (.int .i64 0)).set (p := ⟨w.heap.size, 1, none⟩) (Nat.le_refl _) (.int .i64 0)).set (p := ⟨w.heap.size, 2, none⟩) (Nat.le_refl _) (.int .i64 0))
    generalize ((w1.setCell ⟨w.heap.size, 0, none⟩ (.int .i64 0)).setCell ⟨w.heap.size, 1, none⟩ (.int .i64 0)).setCell ⟨w.heap.size, 2, none⟩ (.int .i64 0) = w9 at *
    have c0 := cell_of b3 0
    have c1 := cell_of b3 1
    have c2 := cell_of b3 2
    simp at c0 c1 c2
    refine bodyPost_ret (v := .tuple #[.agg #[.int .i64 0, .int .i64 0, .int .i64 0], .int .i64 50]) (by simp [results, Tryz.results131, go_sem, c0, c1, c2]) rfl ?_
    exact ⟨_, _, _, _, rfl, by decide, G9.out⟩
  | true =>
    go_enter Tryz.func131, Tryz.ntmps131
    go_wp2_with fail
    refine (CY.out _ (by repeat (first | with_reducible exact .refl _ | refine .alloc ?_ _)) hc).mono ?_
    rintro en w1 ⟨ob, w0, rfl, _, hO, g1⟩
    have gz : Grew (w.alloc (.cells #[.int .i64 0, .int .i64 0, .int .i64 0] 185)) w1 := Grew.trans (by repeat (first | with_reducible exact .refl _ | refine .alloc ?_ _)) g1
    have G1 : Hid (Grew w w1) := Grew.trans ((Grew.refl _).alloc _) gz
    have N1 := Hid.mk' ((gz.turn []).other N0.out (by simp))
    have CV := Hid.mk' (CV.out ob w0 w1 hO)
    have z0 := lt_of_obj N1.out
    clear g1 gz CO CY hO N0
    generalize kA (kinO L n) = a at *
    generalize kB (kinO L n) = b at *
    generalize kD (kinO L n) = c at *
    generalize (kinO L n).isSome = r at *
    go_wp2_with fail
    refine CV.out.mono ?_
    rintro en w2 ⟨rfl, g2⟩
    have gz : Grew w1 w2 := Grew.trans (by repeat (first | with_reducible exact .refl _ | refine .alloc ?_ _)) g2
    have G2 : Hid (Grew w w2) := Grew.trans G1.out gz
    have N2 := Hid.mk' ((gz.turn []).other N1.out (by simp))
    have y0 := lt_of_obj N2.out
    have x0 := cell_of N2.out 0
    have x1 := cell_of N2.out 1
    have x2 := cell_of N2.out 2
    simp at x0 x1 x2
    have y3 := free_of N2.out 0
    have y4 := free_of N2.out 1
    have y5 := free_of N2.out 2
    clear g2 gz G1 N1 z0 CV
    cases r with
    | false =>
      go_wp2_with fail
      have b3 := heap_set (heap_set (heap_set N2.out 0 (.int .i64 0)) 1 (.int .i64 0)) 2 (.int .i64 0)
      have G9 := Hid.mk' (((G2.out.set (p := ⟨w.heap.size, 0, none⟩) (Nat.le_refl _) (.int .i64 0)).set (p := ⟨w.heap.size, 1, none⟩) (Nat.le_refl _) (.int .i64 0)).set (p := ⟨w.heap.size, 2, none⟩) (Nat.le_refl _) (.int .i64 0))
      generalize ((w2.setCell ⟨w.heap.size, 0, none⟩ (.int .i64 0)).setCell ⟨w.heap.size, 1, none⟩ (.int .i64 0)).setCell ⟨w.heap.size, 2, none⟩ (.int .i64 0) = w9 at *
      have b4 := heap_alloc b3 (.cells #[.int .i64 a, .int .i64 b, .int .i64 c] 185)
      have c0 := cell_of b4 0
      have c1 := cell_of b4 1
      have c2 := cell_of b4 2
      simp at c0 c1 c2
      refine bodyPost_ret (v := .tuple #[.agg #[.int .i64 0, .int .i64 0, .int .i64 0], .int .i64 50]) (by simp [results, Tryz.results131, go_sem, c0, c1, c2]) rfl ?_
      exact ⟨_, _, _, _, rfl, by decide, G9.out.alloc _⟩
    | true =>
      go_wp2_with fail
      have b3 := heap_set (heap_set (heap_set N2.out 0 (.int .i64 a)) 1 (.int .i64 b)) 2 (.int .i64 c)
      have G9 := Hid.mk' (((G2.out.set (p := ⟨w.heap.size, 0, none⟩) (Nat.le_refl _) (.int .i64 a)).set (p := ⟨w.heap.size, 1, none⟩) (Nat.le_refl _) (.int .i64 b)).set (p := ⟨w.heap.size, 2, none⟩) (Nat.le_refl _) (.int .i64 c))
      generalize ((w2.setCell ⟨w.heap.size, 0, none⟩ (.int .i64 a)).setCell ⟨w.heap.size, 1, none⟩ (.int .i64 b)).setCell ⟨w.heap.size, 2, none⟩ (.int .i64 c) = w9 at *
      have b4 := heap_alloc b3 (.cells #[.int .i64 a, .int .i64 b, .int .i64 c] 185)
      have c0 := cell_of b4 0
      have c1 := cell_of b4 1
      have c2 := cell_of b4 2
      simp at c0 c1 c2
      refine bodyPost_ret (v := .tuple #[.agg #[.int .i64 a, .int .i64 b, .int .i64 c], .int .i64 0]) (by simp [results, Tryz.results131, go_sem, c0, c1, c2]) rfl ?_
      exact ⟨_, _, _, _, rfl, by decide, G9.out.alloc _⟩
theorem top_any {v : Value} {L : List RT} (h : LR w v L) (hf : Fit L) (ht : Tab w) (n : Int) : Calls Tryz.prog 114 #[v, .int .i64 n] w fun en w' => ∃ b e, en = .returned (.tuple #[.int .i64 b, .int .i64 e]) ∧ e ≠ 6 ∧ Grew w w' := by
  have CF : Hid (∀ X, Grew w X → Calls Tryz.prog 131 #[v, .int .i64 n] X fun en w' => ∃ a b c e, en = .returned (.tuple #[.agg #[.int .i64 a, .int .i64 b, .int .i64 c], .int .i64 e]) ∧ e ≠ 6 ∧ Grew X w') := fun X g => family_any (h.grew g) hf (ht.grew g) n
  obtain ⟨va, vc, ev, _⟩ := h.one
  subst ev
  clear h hf ht
  go_enter Tryz.func114, Tryz.ntmps114
  go_wp2_with fail
  refine (CF.out _ (by repeat (first | with_reducible exact .refl _ | refine .alloc ?_ _))).mono ?_
  rintro en w1 ⟨a, b, c, e, rfl, he, g1⟩
  have G1 : Hid (Grew w w1) := Grew.trans (by repeat (first | with_reducible exact .refl _ | refine .alloc ?_ _)) g1
  have H6 := Hid.mk' he
  clear g1 he CF
  go_wp2_with fail
  refine bodyPost_ret (v := .tuple #[.int .i64 b, .int .i64 e]) (by simp [results, Tryz.results114, go_sem]) rfl ?_
  refine ⟨_, _, rfl, H6.out, ?_⟩
  repeat (first | with_reducible exact G1.out | refine .alloc ?_ _ | refine .set ?_ (by have := G1.out.2; first | (simp; done) | (simp; omega)) _ | refine .drewN ?_ _ | refine .drew ?_)
end
end Go.Proofs.YtnmbniojejckpaaGreatDoor
