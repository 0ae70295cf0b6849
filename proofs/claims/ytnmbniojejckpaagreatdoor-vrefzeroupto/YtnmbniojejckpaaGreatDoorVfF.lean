/-
  A fresh checker: what each of its calls answers there; no statement is proved here.
-/
import Derived.Test.YtnmbniojejckpaaGreatDoorVfC
import Derived.Test.YtnmbniojejckpaaGreatDoorVfA
import Derived.Test.YtnmbniojejckpaaGreatDoorSvT
import Derived.Test.YtnmbniojejckpaaGreatDoorCgW
import Derived.Test.YtnmbniojejckpaaGreatDoorGrO
set_option maxRecDepth 100000
set_option maxHeartbeats 8000000
namespace Go.Proofs.YtnmbniojejckpaaGreatDoor
open Go.RowKit
set_option linter.unusedVariables false
set_option linter.unusedSimpArgs false
def ErQ (X : World) (en : Ending) (w' : World) : Prop := ∃ e : Int, en = .returned (.int .i64 e) ∧ e ≠ 6 ∧ Grew X w'
theorem sbelow_any {n : Nat} {d : Int} (h32 : n < 4294967296) {e : Int} (he : e = if d ≤ (n : Int) then 150 else 0) (w : World) :
    Calls Tryz.prog 56 #[.int .u32 (n : Int), .int .i64 d] w fun en w' => en = .returned (.int .i64 e) ∧ Grew w w' := by
  have hw : IntKind.i64.wrap (n : Int) = (n : Int) := by rw [IntKind.wrap_i64]; omega
  clear h32
  by_cases h : d ≤ (n : Int)
  · have hc : decide (d ≤ (n : Int)) = true := by simpa using h
    rw [if_pos h] at he
    subst he
    go_enter Tryz.func56, Tryz.ntmps56
    go_wp2_with fail
    go_ret
    exact ⟨rfl, Grew.refl _⟩
  · have hc : decide (d ≤ (n : Int)) = false := by simpa using h
    rw [if_neg h] at he
    subst he
    go_enter Tryz.func56, Tryz.ntmps56
    go_wp2_with fail
    go_ret
    exact ⟨rfl, Grew.refl _⟩
section
variable {w : World} {cx : Array Value} {TT : List RT} {FL : List Int} {EL : List VT} {RB : List Bool} {dt : Int}
theorem settable_any (hc : CTX w cx TT FL EL RB dt) (n : Nat) (h32 : n < 4294967296) {X : World} (g : Grew w X) : Calls Tryz.prog 89 #[.agg cx, .int .u32 (n : Int)] X (FtQ X) := by
  have CE : Hid (∀ Y, Grew X Y → Calls Tryz.prog 81 #[.agg cx, .int .u32 (n : Int)] Y (FtQ Y)) := fun Y gy => element_any hc n h32 (g.trans gy)
  have GP : Hid (Grew X X) := Grew.refl X
  have hsz := hc.sz
  have N0 : ((X.alloc (.cells cx 30)).alloc (.cells #[.int .i64 0, .bool false, .int .i64 0, .bool false] 112)).heap[X.heap.size]? = some (.cells cx 30 (0, 0)) := heap_alloc (heap_alloc_last _ _) _
  have NR : ((X.alloc (.cells cx 30)).alloc (.cells #[.int .i64 0, .bool false, .int .i64 0, .bool false] 112)).heap[X.heap.size + 1]? = some (.cells #[.int .i64 0, .bool false, .int .i64 0, .bool false] 112 (0, 0)) := by
    have := heap_alloc_last (X.alloc (.cells cx 30)) (.cells #[.int .i64 0, .bool false, .int .i64 0, .bool false] 112)
    rw [alloc_size] at this
    exact this
  have HN := Hid.mk' N0
  have HR := Hid.mk' NR
  clear hc g h32 N0 NR
  go_enter Tryz.func89, Tryz.ntmps89
  go_wp2_with (first
    | (with_reducible refine stop_load 30 rfl ?_
       unfold Stop
       refine wpList_load_row rfl 30 _ rfl X.heap.size (by go_simp) 30 cx (0, 0) _ HN.out Tryz.underlying30 rfl (by rw [hsz]; kernel_rfl) ?_)
    | fail)
  refine (CE.out _ (by repeat (first | with_reducible exact .refl _ | refine .alloc ?_ _))).mono ?_
  rintro en w1 ⟨a, b, c, d, e, rfl, he, g1⟩
  have gx : Grew X w1 := Grew.trans (by repeat (first | with_reducible exact .refl _ | refine .alloc ?_ _)) g1
  have N1 := (g1.turn []).other HR.out (by simp)
  have H6 := Hid.mk' he
  clear GP
  have GP := Hid.mk' gx
  have lB := lt_of_obj N1
  have z0 := cell_of N1 0
  have z1 := cell_of N1 1
  have z2 := cell_of N1 2
  have z3 := cell_of N1 3
  have y0 := free_of N1 0
  have y1 := free_of N1 1
  have y2 := free_of N1 2
  have y3 := free_of N1 3
  simp at z0 z1 z2 z3
  clear gx g1 CE HN HR he
  have HN1 := Hid.mk' N1
  clear N1
  by_cases h0 : e = 0
  · subst h0
    cases d with
    | true =>
      go_wp2_with fail
      have hB : X.heap.size ≤ X.heap.size + 1 := by omega
      have b3 := heap_set (heap_set (heap_set (heap_set HN1.out 0 (.int .i64 a)) 1 (.bool b)) 2 (.int .i64 c)) 3 (.bool true)
      have G2 := Hid.mk' ((((GP.out.set (p := ⟨X.heap.size + 1, 0, none⟩) hB (.int .i64 a)).set (p := ⟨X.heap.size + 1, 1, none⟩) hB (.bool b)).set (p := ⟨X.heap.size + 1, 2, none⟩) hB (.int .i64 c)).set (p := ⟨X.heap.size + 1, 3, none⟩) hB (.bool true))
      generalize (((w1.setCell ⟨X.heap.size + 1, 0, none⟩ (.int .i64 a)).setCell ⟨X.heap.size + 1, 1, none⟩ (.bool b)).setCell ⟨X.heap.size + 1, 2, none⟩ (.int .i64 c)).setCell ⟨X.heap.size + 1, 3, none⟩ (.bool true) = w2 at *
      have gz : Grew w2 (w2.alloc (.cells #[.int .i64 a, .bool b, .int .i64 c, .bool true] 112)) := (Grew.refl w2).alloc _
      have b4 := heap_alloc b3 (.cells #[.int .i64 a, .bool b, .int .i64 c, .bool true] 112)
      have c0 := cell_of b4 0
      have c1 := cell_of b4 1
      have c2 := cell_of b4 2
      have c3 := cell_of b4 3
      simp at c0 c1 c2 c3
      refine bodyPost_ret (v := .tuple #[.agg #[.int .i64 a, .bool b, .int .i64 c, .bool true], .int .i64 0]) (by simp [results, Tryz.results89, go_sem, c0, c1, c2, c3]) rfl ?_
      exact ⟨_, _, _, _, _, rfl, by decide, G2.out.trans gz⟩
    | false =>
      go_wp2_with fail
      have hB : X.heap.size ≤ X.heap.size + 1 := by omega
      have b3 := heap_set (heap_set (heap_set (heap_set HN1.out 0 (.int .i64 a)) 1 (.bool b)) 2 (.int .i64 c)) 3 (.bool false)
      have G2 := Hid.mk' ((((GP.out.set (p := ⟨X.heap.size + 1, 0, none⟩) hB (.int .i64 a)).set (p := ⟨X.heap.size + 1, 1, none⟩) hB (.bool b)).set (p := ⟨X.heap.size + 1, 2, none⟩) hB (.int .i64 c)).set (p := ⟨X.heap.size + 1, 3, none⟩) hB (.bool false))
      generalize (((w1.setCell ⟨X.heap.size + 1, 0, none⟩ (.int .i64 a)).setCell ⟨X.heap.size + 1, 1, none⟩ (.bool b)).setCell ⟨X.heap.size + 1, 2, none⟩ (.int .i64 c)).setCell ⟨X.heap.size + 1, 3, none⟩ (.bool false) = w2 at *
      have gz : Grew w2 (w2.alloc (.cells #[.int .i64 a, .bool b, .int .i64 c, .bool false] 112)) := (Grew.refl w2).alloc _
      have b4 := heap_alloc b3 (.cells #[.int .i64 a, .bool b, .int .i64 c, .bool false] 112)
      have c0 := cell_of b4 0
      have c1 := cell_of b4 1
      have c2 := cell_of b4 2
      have c3 := cell_of b4 3
      simp at c0 c1 c2 c3
      refine bodyPost_ret (v := .tuple #[.agg #[.int .i64 a, .bool b, .int .i64 c, .bool false], .int .i64 161]) (by simp [results, Tryz.results89, go_sem, c0, c1, c2, c3]) rfl ?_
      exact ⟨_, _, _, _, _, rfl, by decide, G2.out.trans gz⟩
  · have e1 : (e == 0) = false := by rw [beq_eq_false_iff_ne]; exact h0
    clear h0
    go_wp2_with fail
    have hB : X.heap.size ≤ X.heap.size + 1 := by omega
    have b3 := heap_set (heap_set (heap_set (heap_set HN1.out 0 (.int .i64 a)) 1 (.bool b)) 2 (.int .i64 c)) 3 (.bool d)
    have G2 := Hid.mk' ((((GP.out.set (p := ⟨X.heap.size + 1, 0, none⟩) hB (.int .i64 a)).set (p := ⟨X.heap.size + 1, 1, none⟩) hB (.bool b)).set (p := ⟨X.heap.size + 1, 2, none⟩) hB (.int .i64 c)).set (p := ⟨X.heap.size + 1, 3, none⟩) hB (.bool d))
    generalize (((w1.setCell ⟨X.heap.size + 1, 0, none⟩ (.int .i64 a)).setCell ⟨X.heap.size + 1, 1, none⟩ (.bool b)).setCell ⟨X.heap.size + 1, 2, none⟩ (.int .i64 c)).setCell ⟨X.heap.size + 1, 3, none⟩ (.bool d) = w2 at *
    have gz : Grew w2 (w2.alloc (.cells #[.int .i64 a, .bool b, .int .i64 c, .bool d] 112)) := (Grew.refl w2).alloc _
    have b4 := heap_alloc b3 (.cells #[.int .i64 a, .bool b, .int .i64 c, .bool d] 112)
    have c0 := cell_of b4 0
    have c1 := cell_of b4 1
    have c2 := cell_of b4 2
    have c3 := cell_of b4 3
    simp at c0 c1 c2 c3
    refine bodyPost_ret (v := .tuple #[.agg #[.int .i64 a, .bool b, .int .i64 c, .bool d], .int .i64 e]) (by simp [results, Tryz.results89, go_sem, c0, c1, c2, c3]) rfl ?_
    exact ⟨_, _, _, _, _, rfl, H6.out, G2.out.trans gz⟩
theorem fromData_any (hc : CTX w cx TT FL EL RB dt) (n : Nat) (h32 : n < 4294967296) (a c : Int) (b d : Bool) {X : World} (g : Grew w X) : Calls Tryz.prog 43 #[.agg cx, .int .u32 (n : Int), .agg #[.int .i64 a, .bool b, .int .i64 c, .bool d]] X (ErQ X) := by
  have CB : Hid (∀ Y, Calls Tryz.prog 56 #[.int .u32 (n : Int), .int .i64 dt] Y fun en w' => en = .returned (.int .i64 (if dt ≤ (n : Int) then 150 else 0)) ∧ Grew Y w') := fun Y => sbelow_any h32 rfl Y
  have H6 : Hid ((if dt ≤ (n : Int) then (150 : Int) else 0) ≠ 6) := by show (if dt ≤ (n : Int) then (150 : Int) else 0) ≠ 6; split <;> decide
  generalize (if dt ≤ (n : Int) then (150 : Int) else 0) = e at *
  have hsz := hc.sz
  have hx7 : cx[7]'(by omega) = .int .i64 dt := getE hc.datas
  have GP : Hid (Grew X X) := Grew.refl X
  clear hc g h32
  by_cases h5 : a = 5
  · subst h5
    go_enter Tryz.func43, Tryz.ntmps43
    go_wp2_with fail
    go_ret
    exact ⟨_, rfl, by decide, (by repeat (first | with_reducible exact GP.out | with_reducible exact .refl _ | refine .alloc ?_ _ | refine .set ?_ (by first | (simp; done) | (have := GP.out.2; simp; omega)) _ | refine .drewN ?_ _ | refine .drew ?_))⟩
  · have e1 : (a == 5) = false := by rw [beq_eq_false_iff_ne]; exact h5
    clear h5
    go_enter Tryz.func43, Tryz.ntmps43
    go_wp2_with fail
    refine (CB.out _).mono ?_
    rintro en w1 ⟨rfl, g1⟩
    have gx : Grew X w1 := Grew.trans (by repeat (first | with_reducible exact GP.out | with_reducible exact .refl _ | refine .alloc ?_ _ | refine .set ?_ (by first | (simp; done) | (have := GP.out.2; simp; omega)) _ | refine .drewN ?_ _ | refine .drew ?_)) g1
    clear GP
    have GP := Hid.mk' gx
    clear gx g1 CB
    go_wp2_with fail
    go_ret
    exact ⟨_, rfl, H6.out, GP.out⟩
end
section
variable {w : World} {cx : Array Value} {TT : List RT} {FL : List Int} {EL : List VT} {RB : List Bool} {dt : Int}
theorem fromElem_any (hc : CTX w cx TT FL EL RB dt) (n : Nat) (h32 : n < 4294967296) (a c : Int) (b d : Bool) {X : World} (g : Grew w X) : Calls Tryz.prog 44 #[.agg cx, .int .u32 (n : Int), .agg #[.int .i64 a, .bool b, .int .i64 c, .bool d]] X (ErQ X) := by
  obtain ⟨tv, ht, hl⟩ := hc.types
  obtain ⟨ev, he, hle⟩ := hc.elems
  have CV : Hid (∀ (p : VT) Y, Grew X Y → Calls Tryz.prog 87 #[tv, .agg #[.int .i64 p.num, .bool p.null, .int .i64 p.heap], .agg #[.int .i64 a, .bool b, .int .i64 c]] Y fun en w' => en = .returned (.bool (valS TT p ⟨a, b, c⟩)) ∧ Grew Y w') := fun p Y gy => subVal_any (hl.grew (g.trans gy)) hc.fit (hc.tab.grew (g.trans gy)) p ⟨a, b, c⟩
  have hsz := hc.sz
  obtain ⟨ta, tc, e1, _⟩ := hl.one
  subst e1
  obtain ⟨ea, ec, e1, _⟩ := hle.one
  subst e1
  have hx0 : cx[0]'(by omega) = .slice ta TT.length tc := getE ht
  have hx6 : cx[6]'(by omega) = .slice ea EL.length ec := getE he
  have N0 : Hid ((X.alloc (.cells cx 30)).heap[X.heap.size]? = some (.cells cx 30 (0, 0))) := heap_alloc_last _ _
  by_cases hn : n < EL.length
  · obtain ⟨p, hp⟩ : ∃ p, EL[n]? = some p := ⟨_, List.getElem?_eq_getElem hn⟩
    have CA : Hid (∀ Y, Grew X Y → Calls Tryz.prog 86 #[.slice ea EL.length ec, .int .u32 (n : Int)] Y fun en w' => en = .returned (.tuple #[.agg #[.int .i64 p.num, .bool p.null, .int .i64 p.heap], .int .i64 0]) ∧ Grew Y w') := fun Y gy => atVT_in (hle.grew (g.trans gy)) hp h32
    have CV := Hid.mk' (CV.out p)
    have GP : Hid (Grew X X) := Grew.refl X
    have H0 := Hid.mk' hx0
    generalize valS TT p ⟨a, b, c⟩ = r at *
    clear hc g h32 hl hle ht he hn hp
    cases r
    all_goals
      go_enter Tryz.func44, Tryz.ntmps44
      go_wp2_with fail
      refine (CA.out _ (by repeat (first | with_reducible exact .refl _ | refine .alloc ?_ _))).mono ?_
      rintro en w1 ⟨rfl, g1⟩
      have gc : Grew (X.alloc (.cells cx 30)) w1 := Grew.trans ((Grew.refl _).alloc _) g1
      have gf : Grew ((X.alloc (.cells cx 30)).alloc (.cells #[.int .i64 a, .bool b, .int .i64 c, .bool d] 112)) w1 := g1
      have NF : ((X.alloc (.cells cx 30)).alloc (.cells #[.int .i64 a, .bool b, .int .i64 c, .bool d] 112)).heap[X.heap.size + 1]? = some (.cells #[.int .i64 a, .bool b, .int .i64 c, .bool d] 112 (0, 0)) := by
        have := heap_alloc_last (X.alloc (.cells cx 30)) (.cells #[.int .i64 a, .bool b, .int .i64 c, .bool d] 112)
        rw [alloc_size] at this
        exact this
      have B1 := (gf.turn []).other NF (by simp)
      have q0 := (cell_of ((gc.turn []).other N0.out (by simp)) 0).trans ((Array.getElem?_eq_getElem (by omega)).trans (congrArg some H0.out))
      have q1 := cell_of B1 0
      have q2 := cell_of B1 1
      have q3 := cell_of B1 2
      simp at q1 q2 q3
      have l0 := lt_of_cell q0
      have l1 := lt_of_obj B1
      have gx : Grew X w1 := Grew.trans ((Grew.refl X).alloc _) gc
      clear GP
      have GP := Hid.mk' gx
      clear gx g1 gc gf NF B1 CA hx6
      go_wp2_with fail
      refine (CV.out _ (by repeat (first | with_reducible exact GP.out | refine .alloc ?_ _))).mono ?_
      rintro en w2 ⟨rfl, g2⟩
      have gx : Grew X w2 := Grew.trans (by repeat (first | with_reducible exact GP.out | refine .alloc ?_ _)) g2
      clear GP
      have GP := Hid.mk' gx
      clear gx g2 CV q0 q1 q2 q3
      go_wp2_with fail
      go_ret
      exact ⟨_, rfl, by decide, (by repeat (first | with_reducible exact GP.out | with_reducible exact .refl _ | refine .alloc ?_ _ | refine .set ?_ (by first | (simp; done) | (have := GP.out.2; simp; omega)) _ | refine .drewN ?_ _ | refine .drew ?_))⟩
  · have CA : Hid (∀ Y, Grew X Y → Calls Tryz.prog 86 #[.slice ea EL.length ec, .int .u32 (n : Int)] Y fun en w' => en = .returned (.tuple #[.agg #[.int .i64 0, .bool false, .int .i64 0], .int .i64 150]) ∧ Grew Y w') := fun Y gy => atVT_out (hle.grew (g.trans gy)) (by omega) h32
    have GP : Hid (Grew X X) := Grew.refl X
    clear hc g h32 hl hle ht he hn CV hx0
    go_enter Tryz.func44, Tryz.ntmps44
    go_wp2_with fail
    refine (CA.out _ (by repeat (first | with_reducible exact .refl _ | refine .alloc ?_ _))).mono ?_
    rintro en w1 ⟨rfl, g1⟩
    have gx : Grew X w1 := Grew.trans (by repeat (first | with_reducible exact .refl _ | refine .alloc ?_ _)) g1
    clear GP
    have GP := Hid.mk' gx
    clear gx g1 CA
    go_wp2_with fail
    go_ret
    exact ⟨_, rfl, by decide, (by repeat (first | with_reducible exact GP.out | with_reducible exact .refl _ | refine .alloc ?_ _ | refine .set ?_ (by first | (simp; done) | (have := GP.out.2; simp; omega)) _ | refine .drewN ?_ _ | refine .drew ?_))⟩
end
theorem popP_e6 (h : Nat) (dead : Bool) (ops : List VT) : (popP h dead ops).1 ≠ 6 := by
  rcases popP_err h dead ops with e | e <;> rw [e] <;> decide
theorem popTP_e6 (m : VT → VT → Bool) (h : Nat) (dead : Bool) (ops : List VT) (t : VT) : (popTP m h dead ops t).1 ≠ 6 := by
  unfold popTP
  split
  · split
    · exact popP_e6 h dead ops
    · simp
  · simp
theorem popsR_e6 (m : VT → VT → Bool) (h : Nat) (dead : Bool) : ∀ (l ops : List VT), (popsR m h dead l ops).1 ≠ 6
  | [], ops => by unfold popsR; simp
  | t :: l, ops => by
    unfold popsR
    split
    · exact popsR_e6 m h dead l _
    · exact popTP_e6 m h dead ops t
def Z6 (B : Nat) (w : World) : Ending → World → Prop := fun en w' => ∃ e : Int, en = .returned (.int .i64 e) ∧ e ≠ 6 ∧ KB B w w'
def Z6T (B C : Nat) (w : World) : Ending → World → Prop := fun en w' => ∃ e : Int, en = .returned (.int .i64 e) ∧ e ≠ 6 ∧ KB B w w' ∧ Two C NILS w w'
/- The checker at C is one that New has made of nothing. -/
structure FRS (B C : Nat) (w : World) : Prop where
  hB : B ≤ w.heap.size
  hC : C < w.heap.size
  swap : ∀ X (v u : Value) (li lu : List VT), Grew w X → LV X v li → LV X u lu → lu.length ≤ 8000000 → (∀ a n c, u = .slice (some a) n c → a.block < X.heap.size) → Calls Tryz.prog 67 #[.pointer (some ⟨C, 0, none⟩), v, u] X (Z6T B C X)
  pops : ∀ X (v : Value) (l : List VT), Grew w X → LV X v l → Calls Tryz.prog 17 #[.pointer (some ⟨C, 0, none⟩), v] X (Z6T B C X)
  push : ∀ X (tn th : Int) (tz : Bool), Grew w X → Calls Tryz.prog 60 #[.pointer (some ⟨C, 0, none⟩), .agg #[.int .i64 tn, .bool tz, .int .i64 th]] X (Z6T B C X)
  pop : ∀ X, Grew w X → Calls Tryz.prog 62 #[.pointer (some ⟨C, 0, none⟩)] X fun en w' => ∃ (a : Int) (b : Bool) (c : Int), en = .returned (.tuple #[.agg #[.int .i64 a, .bool b, .int .i64 c], .int .i64 130]) ∧ KB B X w' ∧ Two C NILS X w'
  popT : ∀ X (tn th : Int) (tz : Bool), Grew w X → Calls Tryz.prog 50 #[.pointer (some ⟨C, 0, none⟩), .agg #[.int .i64 tn, .bool tz, .int .i64 th]] X fun en w' => ∃ (a : Int) (b : Bool) (c : Int), en = .returned (.tuple #[.agg #[.int .i64 a, .bool b, .int .i64 c], .int .i64 130]) ∧ KB B X w' ∧ Two C NILS X w'
theorem FRS.grew {B C : Nat} {w w' : World} (h : FRS B C w) (g : Grew w w') : FRS B C w' :=
  ⟨Nat.le_trans h.hB g.2, Nat.lt_of_lt_of_le h.hC g.2, fun X v u li lu k => h.swap X v u li lu (g.trans k), fun X v l k => h.pops X v l (g.trans k), fun X a b c k => h.push X a b c (g.trans k), fun X k => h.pop X (g.trans k), fun X a b c k => h.popT X a b c (g.trans k)⟩
theorem lst_nil {α : Type} {k : Nat} {E : World → Nat → Nat → α → Prop} {w : World} : Lst k E w NILS [] :=
  ⟨none, 0, rfl, Nat.le_refl _, by decide, fun _ => rfl, Or.inl rfl⟩
theorem lst_nil0 {α : Type} {k : Nat} {E : World → Nat → Nat → α → Prop} {w : World} (a : Addr) : Lst k E w (.slice (some a) 0 0) [] :=
  ⟨some a, 0, rfl, Nat.le_refl _, by decide, (fun h => nomatch h), Or.inl rfl⟩
theorem frs_of {w W0 : World} {C g c : Nat} {gv lv : Value} {xf : FV} (hx0 : xf.height = 0) (hxd : xf.dead = false) (hG : GRP [] W0 gv) (h : CHG gv W0.heap.size w C lv NILS NILS (.slice (some ⟨g, 0, none⟩) 1 c) [] [] [] [xf]) (g0 : Grew W0 w) : FRS W0.heap.size C w := by
  have e130 : (popP xf.height xf.dead []).1 = 130 := by unfold popP; simp [hx0, hxd]
  refine ⟨g0.2, h.lt, fun X v u li lu k hi hu hn hb => ?_, fun X v l k hl => ?_, fun X tn th tz k => ?_, fun X k => ?_, fun X tn th tz k => ?_⟩
  · refine (swapA (fs := []) hG (h.grew k) (g0.trans k) (by rw [hx0]; exact Nat.zero_le _) hi hu (by simpa using hn) (fun a n c e => ⟨by simp [Value.ownBlock], hb a n c e⟩)).mono ?_
    rintro en w' ⟨ov', rfl, h1, h2, _⟩
    exact ⟨_, rfl, popsR_e6 _ _ _ _ _, h1, h2⟩
  · refine (popsA (fs := []) hG (h.grew k) (g0.trans k) (by rw [hx0]; exact Nat.zero_le _) hl).mono ?_
    rintro en w' ⟨ov', rfl, h1, h2, _⟩
    exact ⟨_, rfl, popsR_e6 _ _ _ _ _, h1, h2⟩
  · refine (pushW (h.grew k) (by simp) (by simp) tn th tz).mono ?_
    rintro en w' ⟨ov', rfl, _, h1, h2, _⟩
    exact ⟨_, rfl, by decide, h1, h2⟩
  · refine (popA (fs := []) (h.grew k) (by rw [hx0]; exact Nat.zero_le _)).mono ?_
    rintro en w' ⟨ov', rfl, _, h1, h2, _⟩
    rw [e130]
    exact ⟨_, _, _, rfl, h1, h2⟩
  · refine (popTypeA (fs := []) hG (h.grew k) (g0.trans k) (by rw [hx0]; exact Nat.zero_le _) ⟨tn, tz, th⟩).mono ?_
    rintro en w' ⟨ov', rfl, _, h1, h2, _⟩
    have e2 : (popTP (matB []) xf.height xf.dead [] ⟨tn, tz, th⟩).1 = 130 := by
      unfold popTP
      simp [e130]
    rw [e2]
    exact ⟨_, _, _, rfl, h1, h2⟩
end Go.Proofs.YtnmbniojejckpaaGreatDoor
