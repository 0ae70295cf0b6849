/-
  What may stand in a constant expression, one instruction: the program's answer; no statement is proved here.
-/
import Derived.Test.YtikbfhhebhhglaaGreatDoorVrG
namespace Go.Proofs.YtikbfhhebhhglaaGreatDoor
open Go.RowKit
set_option linter.unusedVariables false
set_option linter.unusedSimpArgs false

def goodC : List Int := [65, 66, 67, 68, 106, 107, 108, 124, 125, 126, 208, 210, 64256, 64257, 64262, 64263, 64264, 64282, 64283, 64284]
def gloC (GL : List GLt) (gb : Int) (n : Nat) : Int := if gb ≤ (n : Int) then 150 else match GL[n]? with | none => 150 | some p => if p.mut_ then 161 else 0
def cstE (GL : List GLt) (gb op : Int) (n : Nat) : Int := if op = 35 then gloC GL gb n else if op ∈ goodC then 0 else 160
set_option maxRecDepth 100000 in
theorem below_any {n : Nat} {d : Int} (h32 : n < 4294967296) {e : Int} (he : e = if d ≤ (n : Int) then 150 else 0) (w : World) :
    Calls Tryz.prog 56 #[.int .u32 (n : Int), .int .i64 d] w fun en w' => en = .returned (.int .i64 e) ∧ Grew w w' := by
  have hw : IntKind.i64.wrap (n : Int) = (n : Int) := by rw [IntKind.wrap_i64]; omega
  clear h32
  by_cases h : d ≤ (n : Int)
  · have hc : decide (d ≤ (n : Int)) = true := by simpa using h
    rw [if_pos h] at he
    subst he
    go_enter Tryz.func56, Tryz.ntmps56
    go_wp2_with fail
    go_ret
    exact ⟨rfl, Grew.refl _⟩
  · have hc : decide (d ≤ (n : Int)) = false := by simpa using h
    rw [if_neg h] at he
    subst he
    go_enter Tryz.func56, Tryz.ntmps56
    go_wp2_with fail
    go_ret
    exact ⟨rfl, Grew.refl _⟩
set_option maxRecDepth 100000 in
set_option maxHeartbeats 2000000 in
theorem cg_far {w : World} (s0 s1 s2 s3 s5 s6 s7 s8 : Value) {gv : Value} {GL : List GLt} (hG : LGl w gv GL) (gb : Int) (n : Nat) (h32 : n < 4294967296) (h : gb ≤ (n : Int)) :
    Calls Tryz.prog 22 #[.agg #[s0, s1, s2, s3, gv, s5, s6, s7, s8], .int .u32 (n : Int), .int .i64 gb] w fun en w' => en = .returned (.int .i64 150) ∧ Grew w w' := by
  have CB : Hid (∀ X, Calls Tryz.prog 56 #[.int .u32 (n : Int), .int .i64 gb] X fun en w' => en = .returned (.int .i64 150) ∧ Grew X w') := fun X => below_any h32 (by rw [if_pos h]) X
  clear h h32 hG
  have GP : Hid (Grew w w) := Grew.refl w
  go_enter Tryz.func22, Tryz.ntmps22
  go_wp2_with fail
  refine (CB.out _).mono ?_
  rintro en w1 ⟨rfl, g1⟩
  have gx1 : Grew w w1 := Grew.trans (by repeat (first | with_reducible exact GP.out | with_reducible exact Grew.refl _ | refine Grew.alloc ?_ _ | refine Grew.set ?_ (by simp) _ | refine Grew.drewN ?_ _ | refine Grew.drew ?_)) g1
  clear GP
  have GP := Hid.mk' gx1
  clear g1 gx1
  go_wp2_with fail
  go_ret
  exact ⟨rfl, (by repeat (first | with_reducible exact GP.out | with_reducible exact Grew.refl _ | refine Grew.alloc ?_ _ | refine Grew.set ?_ (by simp) _ | refine Grew.drewN ?_ _ | refine Grew.drew ?_))⟩
set_option maxRecDepth 100000 in
set_option maxHeartbeats 2000000 in
theorem cg_out {w : World} (s0 s1 s2 s3 s5 s6 s7 s8 : Value) {gv : Value} {GL : List GLt} (hG : LGl w gv GL) (gb : Int) (n : Nat) (h32 : n < 4294967296) (h : ¬ gb ≤ (n : Int)) (hn : GL.length ≤ n) :
    Calls Tryz.prog 22 #[.agg #[s0, s1, s2, s3, gv, s5, s6, s7, s8], .int .u32 (n : Int), .int .i64 gb] w fun en w' => en = .returned (.int .i64 150) ∧ Grew w w' := by
  have CB : Hid (∀ X, Calls Tryz.prog 56 #[.int .u32 (n : Int), .int .i64 gb] X fun en w' => en = .returned (.int .i64 0) ∧ Grew X w') := fun X => below_any h32 (by rw [if_neg h]) X
  have CA : Hid (∀ X, Grew w X → Calls Tryz.prog 57 #[gv, .int .u32 (n : Int)] X fun en w' => en = .returned (.tuple #[.agg #[.int .i64 0, .bool false, .int .i64 0, .bool false], .int .i64 150]) ∧ Grew X w') := fun X g => atGL_out (hG.grew g) hn h32
  have CC : Hid (∀ X, Grew (w.alloc (.cells #[s0, s1, s2, s3, gv, s5, s6, s7, s8] 30)) X → X.cell? ⟨w.heap.size, 4, none⟩ = some gv) := fun X g => cell_grew ((cell_of (heap_alloc_last w (.cells #[s0, s1, s2, s3, gv, s5, s6, s7, s8] 30)) 4).trans rfl) g
  obtain ⟨ga, gc, hgv, _⟩ := hG.one
  subst hgv
  clear h h32 hG hn
  have GP : Hid (Grew w w) := Grew.refl w
  go_enter Tryz.func22, Tryz.ntmps22
  go_wp2_with fail
  refine (CB.out _).mono ?_
  rintro en w1 ⟨rfl, g1⟩
  have gz : Grew (w.alloc (.cells #[s0, s1, s2, s3, .slice ga GL.length gc, s5, s6, s7, s8] 30)) w1 := (by first | exact g1 | exact Grew.trans (by repeat (first | with_reducible exact Grew.refl _ | refine Grew.drew ?_ | refine Grew.drewN ?_ _)) g1)
  have c1 := CC.out _ gz
  have g1' : Grew w w1 := ((Grew.refl w).alloc _).trans gz
  clear GP g1 gz
  have GP := Hid.mk' g1'
  clear g1' CC CB
  go_wp2_with fail
  refine (CA.out _ GP.out).mono ?_
  rintro en w2 ⟨rfl, g2⟩
  have g2' := GP.out.trans g2
  clear GP g2 CA c1
  have GP := Hid.mk' g2'
  clear g2'
  go_wp2_with fail
  go_ret
  exact ⟨rfl, (by repeat (first | with_reducible exact GP.out | with_reducible exact Grew.refl _ | refine Grew.alloc ?_ _ | refine Grew.set ?_ (by have := GP.out.2; simp; omega) _ | refine Grew.drewN ?_ _ | refine Grew.drew ?_))⟩
set_option maxRecDepth 100000 in
set_option maxHeartbeats 2000000 in
theorem cg_true {w : World} (s0 s1 s2 s3 s5 s6 s7 s8 : Value) {gv : Value} {GL : List GLt} (hG : LGl w gv GL) (gb : Int) (n : Nat) (h32 : n < 4294967296) (h : ¬ gb ≤ (n : Int)) {p : GLt} (hn : GL[n]? = some p) (hm : p.mut_ = true) :
    Calls Tryz.prog 22 #[.agg #[s0, s1, s2, s3, gv, s5, s6, s7, s8], .int .u32 (n : Int), .int .i64 gb] w fun en w' => en = .returned (.int .i64 161) ∧ Grew w w' := by
  have CB : Hid (∀ X, Calls Tryz.prog 56 #[.int .u32 (n : Int), .int .i64 gb] X fun en w' => en = .returned (.int .i64 0) ∧ Grew X w') := fun X => below_any h32 (by rw [if_neg h]) X
  have CA : Hid (∀ X, Grew w X → Calls Tryz.prog 57 #[gv, .int .u32 (n : Int)] X fun en w' => en = .returned (.tuple #[.agg #[.int .i64 p.ty.num, .bool p.ty.null, .int .i64 p.ty.heap, .bool true], .int .i64 0]) ∧ Grew X w') := fun X g => by rw [← hm]; exact atGL_in (hG.grew g) hn h32
  have CC : Hid (∀ X, Grew (w.alloc (.cells #[s0, s1, s2, s3, gv, s5, s6, s7, s8] 30)) X → X.cell? ⟨w.heap.size, 4, none⟩ = some gv) := fun X g => cell_grew ((cell_of (heap_alloc_last w (.cells #[s0, s1, s2, s3, gv, s5, s6, s7, s8] 30)) 4).trans rfl) g
  obtain ⟨ga, gc, hgv, _⟩ := hG.one
  subst hgv
  clear hm h h32 hG hn
  have GP : Hid (Grew w w) := Grew.refl w
  go_enter Tryz.func22, Tryz.ntmps22
  go_wp2_with fail
  refine (CB.out _).mono ?_
  rintro en w1 ⟨rfl, g1⟩
  have gz : Grew (w.alloc (.cells #[s0, s1, s2, s3, .slice ga GL.length gc, s5, s6, s7, s8] 30)) w1 := (by first | exact g1 | exact Grew.trans (by repeat (first | with_reducible exact Grew.refl _ | refine Grew.drew ?_ | refine Grew.drewN ?_ _)) g1)
  have c1 := CC.out _ gz
  have g1' : Grew w w1 := ((Grew.refl w).alloc _).trans gz
  clear GP g1 gz
  have GP := Hid.mk' g1'
  clear g1' CC CB
  go_wp2_with fail
  refine (CA.out _ GP.out).mono ?_
  rintro en w2 ⟨rfl, g2⟩
  have g2' := GP.out.trans g2
  clear GP g2 CA c1
  have GP := Hid.mk' g2'
  clear g2'
  go_wp2_with fail
  go_ret
  exact ⟨rfl, (by repeat (first | with_reducible exact GP.out | with_reducible exact Grew.refl _ | refine Grew.alloc ?_ _ | refine Grew.set ?_ (by have := GP.out.2; simp; omega) _ | refine Grew.drewN ?_ _ | refine Grew.drew ?_))⟩
set_option maxRecDepth 100000 in
set_option maxHeartbeats 2000000 in
theorem cg_false {w : World} (s0 s1 s2 s3 s5 s6 s7 s8 : Value) {gv : Value} {GL : List GLt} (hG : LGl w gv GL) (gb : Int) (n : Nat) (h32 : n < 4294967296) (h : ¬ gb ≤ (n : Int)) {p : GLt} (hn : GL[n]? = some p) (hm : p.mut_ = false) :
    Calls Tryz.prog 22 #[.agg #[s0, s1, s2, s3, gv, s5, s6, s7, s8], .int .u32 (n : Int), .int .i64 gb] w fun en w' => en = .returned (.int .i64 0) ∧ Grew w w' := by
  have CB : Hid (∀ X, Calls Tryz.prog 56 #[.int .u32 (n : Int), .int .i64 gb] X fun en w' => en = .returned (.int .i64 0) ∧ Grew X w') := fun X => below_any h32 (by rw [if_neg h]) X
  have CA : Hid (∀ X, Grew w X → Calls Tryz.prog 57 #[gv, .int .u32 (n : Int)] X fun en w' => en = .returned (.tuple #[.agg #[.int .i64 p.ty.num, .bool p.ty.null, .int .i64 p.ty.heap, .bool false], .int .i64 0]) ∧ Grew X w') := fun X g => by rw [← hm]; exact atGL_in (hG.grew g) hn h32
  have CC : Hid (∀ X, Grew (w.alloc (.cells #[s0, s1, s2, s3, gv, s5, s6, s7, s8] 30)) X → X.cell? ⟨w.heap.size, 4, none⟩ = some gv) := fun X g => cell_grew ((cell_of (heap_alloc_last w (.cells #[s0, s1, s2, s3, gv, s5, s6, s7, s8] 30)) 4).trans rfl) g
  obtain ⟨ga, gc, hgv, _⟩ := hG.one
  subst hgv
  clear hm h h32 hG hn
  have GP : Hid (Grew w w) := Grew.refl w
  go_enter Tryz.func22, Tryz.ntmps22
  go_wp2_with fail
  refine (CB.out _).mono ?_
  rintro en w1 ⟨rfl, g1⟩
  have gz : Grew (w.alloc (.cells #[s0, s1, s2, s3, .slice ga GL.length gc, s5, s6, s7, s8] 30)) w1 := (by first | exact g1 | exact Grew.trans (by repeat (first | with_reducible exact Grew.refl _ | refine Grew.drew ?_ | refine Grew.drewN ?_ _)) g1)
  have c1 := CC.out _ gz
  have g1' : Grew w w1 := ((Grew.refl w).alloc _).trans gz
  clear GP g1 gz
  have GP := Hid.mk' g1'
  clear g1' CC CB
  go_wp2_with fail
  refine (CA.out _ GP.out).mono ?_
  rintro en w2 ⟨rfl, g2⟩
  have g2' := GP.out.trans g2
  clear GP g2 CA c1
  have GP := Hid.mk' g2'
  clear g2'
  go_wp2_with fail
  go_ret
  exact ⟨rfl, (by repeat (first | with_reducible exact GP.out | with_reducible exact Grew.refl _ | refine Grew.alloc ?_ _ | refine Grew.set ?_ (by have := GP.out.2; simp; omega) _ | refine Grew.drewN ?_ _ | refine Grew.drew ?_))⟩
theorem constG_any {w : World} (s0 s1 s2 s3 s5 s6 s7 s8 : Value) {gv : Value} {GL : List GLt} (hG : LGl w gv GL) (gb : Int) (n : Nat) (h32 : n < 4294967296) :
    Calls Tryz.prog 22 #[.agg #[s0, s1, s2, s3, gv, s5, s6, s7, s8], .int .u32 (n : Int), .int .i64 gb] w fun en w' => en = .returned (.int .i64 (gloC GL gb n)) ∧ Grew w w' := by
  unfold gloC
  by_cases h : gb ≤ (n : Int)
  · rw [if_pos h]
    exact cg_far s0 s1 s2 s3 s5 s6 s7 s8 hG gb n h32 h
  · rw [if_neg h]
    cases hp : GL[n]? with
    | none => exact cg_out s0 s1 s2 s3 s5 s6 s7 s8 hG gb n h32 h (by rw [List.getElem?_eq_none_iff] at hp; exact hp)
    | some p =>
      cases hm : p.mut_ with
      | true => simpa [hm] using cg_true s0 s1 s2 s3 s5 s6 s7 s8 hG gb n h32 h hp hm
      | false => simpa [hm] using cg_false s0 s1 s2 s3 s5 s6 s7 s8 hG gb n h32 h hp hm
set_option maxRecDepth 100000 in
set_option maxHeartbeats 2000000 in
theorem cs_65 {w : World} (s0 s1 s2 s3 s5 s6 s7 s8 : Value) {gv : Value} {GL : List GLt} (hG : LGl w gv GL) (gb : Int) (n : Nat) (h32 : n < 4294967296) (v2 v3 v4 v5 v6 v7 v8 v9 v10 v11 v12 v13 v14 v15 v16 : Value)  :
    Calls Tryz.prog 12 #[.agg #[s0, s1, s2, s3, gv, s5, s6, s7, s8], .agg #[.int .i64 65, .int .u32 (n : Int), v2, v3, v4, v5, v6, v7, v8, v9, v10, v11, v12, v13, v14, v15, v16], .int .i64 gb] w fun en w' => en = .returned (.int .i64 0) ∧ Grew w w' := by
  have GP : Hid (Grew w w) := Grew.refl w
  clear hG h32
  go_enter Tryz.func12, Tryz.ntmps12
  go_wp2_with fail
  go_ret
  exact ⟨rfl, (by repeat (first | with_reducible exact GP.out | with_reducible exact Grew.refl _ | refine Grew.alloc ?_ _ | refine Grew.set ?_ (by simp) _ | refine Grew.drewN ?_ _ | refine Grew.drew ?_))⟩
set_option maxRecDepth 100000 in
set_option maxHeartbeats 2000000 in
theorem cs_66 {w : World} (s0 s1 s2 s3 s5 s6 s7 s8 : Value) {gv : Value} {GL : List GLt} (hG : LGl w gv GL) (gb : Int) (n : Nat) (h32 : n < 4294967296) (v2 v3 v4 v5 v6 v7 v8 v9 v10 v11 v12 v13 v14 v15 v16 : Value)  :
    Calls Tryz.prog 12 #[.agg #[s0, s1, s2, s3, gv, s5, s6, s7, s8], .agg #[.int .i64 66, .int .u32 (n : Int), v2, v3, v4, v5, v6, v7, v8, v9, v10, v11, v12, v13, v14, v15, v16], .int .i64 gb] w fun en w' => en = .returned (.int .i64 0) ∧ Grew w w' := by
  have GP : Hid (Grew w w) := Grew.refl w
  clear hG h32
  go_enter Tryz.func12, Tryz.ntmps12
  go_wp2_with fail
  go_ret
  exact ⟨rfl, (by repeat (first | with_reducible exact GP.out | with_reducible exact Grew.refl _ | refine Grew.alloc ?_ _ | refine Grew.set ?_ (by simp) _ | refine Grew.drewN ?_ _ | refine Grew.drew ?_))⟩
set_option maxRecDepth 100000 in
set_option maxHeartbeats 2000000 in
theorem cs_67 {w : World} (s0 s1 s2 s3 s5 s6 s7 s8 : Value) {gv : Value} {GL : List GLt} (hG : LGl w gv GL) (gb : Int) (n : Nat) (h32 : n < 4294967296) (v2 v3 v4 v5 v6 v7 v8 v9 v10 v11 v12 v13 v14 v15 v16 : Value)  :
    Calls Tryz.prog 12 #[.agg #[s0, s1, s2, s3, gv, s5, s6, s7, s8], .agg #[.int .i64 67, .int .u32 (n : Int), v2, v3, v4, v5, v6, v7, v8, v9, v10, v11, v12, v13, v14, v15, v16], .int .i64 gb] w fun en w' => en = .returned (.int .i64 0) ∧ Grew w w' := by
  have GP : Hid (Grew w w) := Grew.refl w
  clear hG h32
  go_enter Tryz.func12, Tryz.ntmps12
  go_wp2_with fail
  go_ret
  exact ⟨rfl, (by repeat (first | with_reducible exact GP.out | with_reducible exact Grew.refl _ | refine Grew.alloc ?_ _ | refine Grew.set ?_ (by simp) _ | refine Grew.drewN ?_ _ | refine Grew.drew ?_))⟩
set_option maxRecDepth 100000 in
set_option maxHeartbeats 2000000 in
theorem cs_68 {w : World} (s0 s1 s2 s3 s5 s6 s7 s8 : Value) {gv : Value} {GL : List GLt} (hG : LGl w gv GL) (gb : Int) (n : Nat) (h32 : n < 4294967296) (v2 v3 v4 v5 v6 v7 v8 v9 v10 v11 v12 v13 v14 v15 v16 : Value)  :
    Calls Tryz.prog 12 #[.agg #[s0, s1, s2, s3, gv, s5, s6, s7, s8], .agg #[.int .i64 68, .int .u32 (n : Int), v2, v3, v4, v5, v6, v7, v8, v9, v10, v11, v12, v13, v14, v15, v16], .int .i64 gb] w fun en w' => en = .returned (.int .i64 0) ∧ Grew w w' := by
  have GP : Hid (Grew w w) := Grew.refl w
  clear hG h32
  go_enter Tryz.func12, Tryz.ntmps12
  go_wp2_with fail
  go_ret
  exact ⟨rfl, (by repeat (first | with_reducible exact GP.out | with_reducible exact Grew.refl _ | refine Grew.alloc ?_ _ | refine Grew.set ?_ (by simp) _ | refine Grew.drewN ?_ _ | refine Grew.drew ?_))⟩
set_option maxRecDepth 100000 in
set_option maxHeartbeats 2000000 in
theorem cs_106 {w : World} (s0 s1 s2 s3 s5 s6 s7 s8 : Value) {gv : Value} {GL : List GLt} (hG : LGl w gv GL) (gb : Int) (n : Nat) (h32 : n < 4294967296) (v2 v3 v4 v5 v6 v7 v8 v9 v10 v11 v12 v13 v14 v15 v16 : Value)  :
    Calls Tryz.prog 12 #[.agg #[s0, s1, s2, s3, gv, s5, s6, s7, s8], .agg #[.int .i64 106, .int .u32 (n : Int), v2, v3, v4, v5, v6, v7, v8, v9, v10, v11, v12, v13, v14, v15, v16], .int .i64 gb] w fun en w' => en = .returned (.int .i64 0) ∧ Grew w w' := by
  have GP : Hid (Grew w w) := Grew.refl w
  clear hG h32
  go_enter Tryz.func12, Tryz.ntmps12
  go_wp2_with fail
  go_ret
  exact ⟨rfl, (by repeat (first | with_reducible exact GP.out | with_reducible exact Grew.refl _ | refine Grew.alloc ?_ _ | refine Grew.set ?_ (by simp) _ | refine Grew.drewN ?_ _ | refine Grew.drew ?_))⟩
set_option maxRecDepth 100000 in
set_option maxHeartbeats 2000000 in
theorem cs_107 {w : World} (s0 s1 s2 s3 s5 s6 s7 s8 : Value) {gv : Value} {GL : List GLt} (hG : LGl w gv GL) (gb : Int) (n : Nat) (h32 : n < 4294967296) (v2 v3 v4 v5 v6 v7 v8 v9 v10 v11 v12 v13 v14 v15 v16 : Value)  :
    Calls Tryz.prog 12 #[.agg #[s0, s1, s2, s3, gv, s5, s6, s7, s8], .agg #[.int .i64 107, .int .u32 (n : Int), v2, v3, v4, v5, v6, v7, v8, v9, v10, v11, v12, v13, v14, v15, v16], .int .i64 gb] w fun en w' => en = .returned (.int .i64 0) ∧ Grew w w' := by
  have GP : Hid (Grew w w) := Grew.refl w
  clear hG h32
  go_enter Tryz.func12, Tryz.ntmps12
  go_wp2_with fail
  go_ret
  exact ⟨rfl, (by repeat (first | with_reducible exact GP.out | with_reducible exact Grew.refl _ | refine Grew.alloc ?_ _ | refine Grew.set ?_ (by simp) _ | refine Grew.drewN ?_ _ | refine Grew.drew ?_))⟩
set_option maxRecDepth 100000 in
set_option maxHeartbeats 2000000 in
theorem cs_108 {w : World} (s0 s1 s2 s3 s5 s6 s7 s8 : Value) {gv : Value} {GL : List GLt} (hG : LGl w gv GL) (gb : Int) (n : Nat) (h32 : n < 4294967296) (v2 v3 v4 v5 v6 v7 v8 v9 v10 v11 v12 v13 v14 v15 v16 : Value)  :
    Calls Tryz.prog 12 #[.agg #[s0, s1, s2, s3, gv, s5, s6, s7, s8], .agg #[.int .i64 108, .int .u32 (n : Int), v2, v3, v4, v5, v6, v7, v8, v9, v10, v11, v12, v13, v14, v15, v16], .int .i64 gb] w fun en w' => en = .returned (.int .i64 0) ∧ Grew w w' := by
  have GP : Hid (Grew w w) := Grew.refl w
  clear hG h32
  go_enter Tryz.func12, Tryz.ntmps12
  go_wp2_with fail
  go_ret
  exact ⟨rfl, (by repeat (first | with_reducible exact GP.out | with_reducible exact Grew.refl _ | refine Grew.alloc ?_ _ | refine Grew.set ?_ (by simp) _ | refine Grew.drewN ?_ _ | refine Grew.drew ?_))⟩
set_option maxRecDepth 100000 in
set_option maxHeartbeats 2000000 in
theorem cs_124 {w : World} (s0 s1 s2 s3 s5 s6 s7 s8 : Value) {gv : Value} {GL : List GLt} (hG : LGl w gv GL) (gb : Int) (n : Nat) (h32 : n < 4294967296) (v2 v3 v4 v5 v6 v7 v8 v9 v10 v11 v12 v13 v14 v15 v16 : Value)  :
    Calls Tryz.prog 12 #[.agg #[s0, s1, s2, s3, gv, s5, s6, s7, s8], .agg #[.int .i64 124, .int .u32 (n : Int), v2, v3, v4, v5, v6, v7, v8, v9, v10, v11, v12, v13, v14, v15, v16], .int .i64 gb] w fun en w' => en = .returned (.int .i64 0) ∧ Grew w w' := by
  have GP : Hid (Grew w w) := Grew.refl w
  clear hG h32
  go_enter Tryz.func12, Tryz.ntmps12
  go_wp2_with fail
  go_ret
  exact ⟨rfl, (by repeat (first | with_reducible exact GP.out | with_reducible exact Grew.refl _ | refine Grew.alloc ?_ _ | refine Grew.set ?_ (by simp) _ | refine Grew.drewN ?_ _ | refine Grew.drew ?_))⟩
set_option maxRecDepth 100000 in
set_option maxHeartbeats 2000000 in
theorem cs_125 {w : World} (s0 s1 s2 s3 s5 s6 s7 s8 : Value) {gv : Value} {GL : List GLt} (hG : LGl w gv GL) (gb : Int) (n : Nat) (h32 : n < 4294967296) (v2 v3 v4 v5 v6 v7 v8 v9 v10 v11 v12 v13 v14 v15 v16 : Value)  :
    Calls Tryz.prog 12 #[.agg #[s0, s1, s2, s3, gv, s5, s6, s7, s8], .agg #[.int .i64 125, .int .u32 (n : Int), v2, v3, v4, v5, v6, v7, v8, v9, v10, v11, v12, v13, v14, v15, v16], .int .i64 gb] w fun en w' => en = .returned (.int .i64 0) ∧ Grew w w' := by
  have GP : Hid (Grew w w) := Grew.refl w
  clear hG h32
  go_enter Tryz.func12, Tryz.ntmps12
  go_wp2_with fail
  go_ret
  exact ⟨rfl, (by repeat (first | with_reducible exact GP.out | with_reducible exact Grew.refl _ | refine Grew.alloc ?_ _ | refine Grew.set ?_ (by simp) _ | refine Grew.drewN ?_ _ | refine Grew.drew ?_))⟩
set_option maxRecDepth 100000 in
set_option maxHeartbeats 2000000 in
theorem cs_126 {w : World} (s0 s1 s2 s3 s5 s6 s7 s8 : Value) {gv : Value} {GL : List GLt} (hG : LGl w gv GL) (gb : Int) (n : Nat) (h32 : n < 4294967296) (v2 v3 v4 v5 v6 v7 v8 v9 v10 v11 v12 v13 v14 v15 v16 : Value)  :
    Calls Tryz.prog 12 #[.agg #[s0, s1, s2, s3, gv, s5, s6, s7, s8], .agg #[.int .i64 126, .int .u32 (n : Int), v2, v3, v4, v5, v6, v7, v8, v9, v10, v11, v12, v13, v14, v15, v16], .int .i64 gb] w fun en w' => en = .returned (.int .i64 0) ∧ Grew w w' := by
  have GP : Hid (Grew w w) := Grew.refl w
  clear hG h32
  go_enter Tryz.func12, Tryz.ntmps12
  go_wp2_with fail
  go_ret
  exact ⟨rfl, (by repeat (first | with_reducible exact GP.out | with_reducible exact Grew.refl _ | refine Grew.alloc ?_ _ | refine Grew.set ?_ (by simp) _ | refine Grew.drewN ?_ _ | refine Grew.drew ?_))⟩
set_option maxRecDepth 100000 in
set_option maxHeartbeats 2000000 in
theorem cs_208 {w : World} (s0 s1 s2 s3 s5 s6 s7 s8 : Value) {gv : Value} {GL : List GLt} (hG : LGl w gv GL) (gb : Int) (n : Nat) (h32 : n < 4294967296) (v2 v3 v4 v5 v6 v7 v8 v9 v10 v11 v12 v13 v14 v15 v16 : Value)  :
    Calls Tryz.prog 12 #[.agg #[s0, s1, s2, s3, gv, s5, s6, s7, s8], .agg #[.int .i64 208, .int .u32 (n : Int), v2, v3, v4, v5, v6, v7, v8, v9, v10, v11, v12, v13, v14, v15, v16], .int .i64 gb] w fun en w' => en = .returned (.int .i64 0) ∧ Grew w w' := by
  have GP : Hid (Grew w w) := Grew.refl w
  clear hG h32
  go_enter Tryz.func12, Tryz.ntmps12
  go_wp2_with fail
  go_ret
  exact ⟨rfl, (by repeat (first | with_reducible exact GP.out | with_reducible exact Grew.refl _ | refine Grew.alloc ?_ _ | refine Grew.set ?_ (by simp) _ | refine Grew.drewN ?_ _ | refine Grew.drew ?_))⟩
set_option maxRecDepth 100000 in
set_option maxHeartbeats 2000000 in
theorem cs_210 {w : World} (s0 s1 s2 s3 s5 s6 s7 s8 : Value) {gv : Value} {GL : List GLt} (hG : LGl w gv GL) (gb : Int) (n : Nat) (h32 : n < 4294967296) (v2 v3 v4 v5 v6 v7 v8 v9 v10 v11 v12 v13 v14 v15 v16 : Value)  :
    Calls Tryz.prog 12 #[.agg #[s0, s1, s2, s3, gv, s5, s6, s7, s8], .agg #[.int .i64 210, .int .u32 (n : Int), v2, v3, v4, v5, v6, v7, v8, v9, v10, v11, v12, v13, v14, v15, v16], .int .i64 gb] w fun en w' => en = .returned (.int .i64 0) ∧ Grew w w' := by
  have GP : Hid (Grew w w) := Grew.refl w
  clear hG h32
  go_enter Tryz.func12, Tryz.ntmps12
  go_wp2_with fail
  go_ret
  exact ⟨rfl, (by repeat (first | with_reducible exact GP.out | with_reducible exact Grew.refl _ | refine Grew.alloc ?_ _ | refine Grew.set ?_ (by simp) _ | refine Grew.drewN ?_ _ | refine Grew.drew ?_))⟩
set_option maxRecDepth 100000 in
set_option maxHeartbeats 2000000 in
theorem cs_64256 {w : World} (s0 s1 s2 s3 s5 s6 s7 s8 : Value) {gv : Value} {GL : List GLt} (hG : LGl w gv GL) (gb : Int) (n : Nat) (h32 : n < 4294967296) (v2 v3 v4 v5 v6 v7 v8 v9 v10 v11 v12 v13 v14 v15 v16 : Value)  :
    Calls Tryz.prog 12 #[.agg #[s0, s1, s2, s3, gv, s5, s6, s7, s8], .agg #[.int .i64 64256, .int .u32 (n : Int), v2, v3, v4, v5, v6, v7, v8, v9, v10, v11, v12, v13, v14, v15, v16], .int .i64 gb] w fun en w' => en = .returned (.int .i64 0) ∧ Grew w w' := by
  have GP : Hid (Grew w w) := Grew.refl w
  clear hG h32
  go_enter Tryz.func12, Tryz.ntmps12
  go_wp2_with fail
  go_ret
  exact ⟨rfl, (by repeat (first | with_reducible exact GP.out | with_reducible exact Grew.refl _ | refine Grew.alloc ?_ _ | refine Grew.set ?_ (by simp) _ | refine Grew.drewN ?_ _ | refine Grew.drew ?_))⟩
set_option maxRecDepth 100000 in
set_option maxHeartbeats 2000000 in
theorem cs_64257 {w : World} (s0 s1 s2 s3 s5 s6 s7 s8 : Value) {gv : Value} {GL : List GLt} (hG : LGl w gv GL) (gb : Int) (n : Nat) (h32 : n < 4294967296) (v2 v3 v4 v5 v6 v7 v8 v9 v10 v11 v12 v13 v14 v15 v16 : Value)  :
    Calls Tryz.prog 12 #[.agg #[s0, s1, s2, s3, gv, s5, s6, s7, s8], .agg #[.int .i64 64257, .int .u32 (n : Int), v2, v3, v4, v5, v6, v7, v8, v9, v10, v11, v12, v13, v14, v15, v16], .int .i64 gb] w fun en w' => en = .returned (.int .i64 0) ∧ Grew w w' := by
  have GP : Hid (Grew w w) := Grew.refl w
  clear hG h32
  go_enter Tryz.func12, Tryz.ntmps12
  go_wp2_with fail
  go_ret
  exact ⟨rfl, (by repeat (first | with_reducible exact GP.out | with_reducible exact Grew.refl _ | refine Grew.alloc ?_ _ | refine Grew.set ?_ (by simp) _ | refine Grew.drewN ?_ _ | refine Grew.drew ?_))⟩
set_option maxRecDepth 100000 in
set_option maxHeartbeats 2000000 in
theorem cs_64262 {w : World} (s0 s1 s2 s3 s5 s6 s7 s8 : Value) {gv : Value} {GL : List GLt} (hG : LGl w gv GL) (gb : Int) (n : Nat) (h32 : n < 4294967296) (v2 v3 v4 v5 v6 v7 v8 v9 v10 v11 v12 v13 v14 v15 v16 : Value)  :
    Calls Tryz.prog 12 #[.agg #[s0, s1, s2, s3, gv, s5, s6, s7, s8], .agg #[.int .i64 64262, .int .u32 (n : Int), v2, v3, v4, v5, v6, v7, v8, v9, v10, v11, v12, v13, v14, v15, v16], .int .i64 gb] w fun en w' => en = .returned (.int .i64 0) ∧ Grew w w' := by
  have GP : Hid (Grew w w) := Grew.refl w
  clear hG h32
  go_enter Tryz.func12, Tryz.ntmps12
  go_wp2_with fail
  go_ret
  exact ⟨rfl, (by repeat (first | with_reducible exact GP.out | with_reducible exact Grew.refl _ | refine Grew.alloc ?_ _ | refine Grew.set ?_ (by simp) _ | refine Grew.drewN ?_ _ | refine Grew.drew ?_))⟩
set_option maxRecDepth 100000 in
set_option maxHeartbeats 2000000 in
theorem cs_64263 {w : World} (s0 s1 s2 s3 s5 s6 s7 s8 : Value) {gv : Value} {GL : List GLt} (hG : LGl w gv GL) (gb : Int) (n : Nat) (h32 : n < 4294967296) (v2 v3 v4 v5 v6 v7 v8 v9 v10 v11 v12 v13 v14 v15 v16 : Value)  :
    Calls Tryz.prog 12 #[.agg #[s0, s1, s2, s3, gv, s5, s6, s7, s8], .agg #[.int .i64 64263, .int .u32 (n : Int), v2, v3, v4, v5, v6, v7, v8, v9, v10, v11, v12, v13, v14, v15, v16], .int .i64 gb] w fun en w' => en = .returned (.int .i64 0) ∧ Grew w w' := by
  have GP : Hid (Grew w w) := Grew.refl w
  clear hG h32
  go_enter Tryz.func12, Tryz.ntmps12
  go_wp2_with fail
  go_ret
  exact ⟨rfl, (by repeat (first | with_reducible exact GP.out | with_reducible exact Grew.refl _ | refine Grew.alloc ?_ _ | refine Grew.set ?_ (by simp) _ | refine Grew.drewN ?_ _ | refine Grew.drew ?_))⟩
set_option maxRecDepth 100000 in
set_option maxHeartbeats 2000000 in
theorem cs_64264 {w : World} (s0 s1 s2 s3 s5 s6 s7 s8 : Value) {gv : Value} {GL : List GLt} (hG : LGl w gv GL) (gb : Int) (n : Nat) (h32 : n < 4294967296) (v2 v3 v4 v5 v6 v7 v8 v9 v10 v11 v12 v13 v14 v15 v16 : Value)  :
    Calls Tryz.prog 12 #[.agg #[s0, s1, s2, s3, gv, s5, s6, s7, s8], .agg #[.int .i64 64264, .int .u32 (n : Int), v2, v3, v4, v5, v6, v7, v8, v9, v10, v11, v12, v13, v14, v15, v16], .int .i64 gb] w fun en w' => en = .returned (.int .i64 0) ∧ Grew w w' := by
  have GP : Hid (Grew w w) := Grew.refl w
  clear hG h32
  go_enter Tryz.func12, Tryz.ntmps12
  go_wp2_with fail
  go_ret
  exact ⟨rfl, (by repeat (first | with_reducible exact GP.out | with_reducible exact Grew.refl _ | refine Grew.alloc ?_ _ | refine Grew.set ?_ (by simp) _ | refine Grew.drewN ?_ _ | refine Grew.drew ?_))⟩
set_option maxRecDepth 100000 in
set_option maxHeartbeats 2000000 in
theorem cs_64282 {w : World} (s0 s1 s2 s3 s5 s6 s7 s8 : Value) {gv : Value} {GL : List GLt} (hG : LGl w gv GL) (gb : Int) (n : Nat) (h32 : n < 4294967296) (v2 v3 v4 v5 v6 v7 v8 v9 v10 v11 v12 v13 v14 v15 v16 : Value)  :
    Calls Tryz.prog 12 #[.agg #[s0, s1, s2, s3, gv, s5, s6, s7, s8], .agg #[.int .i64 64282, .int .u32 (n : Int), v2, v3, v4, v5, v6, v7, v8, v9, v10, v11, v12, v13, v14, v15, v16], .int .i64 gb] w fun en w' => en = .returned (.int .i64 0) ∧ Grew w w' := by
  have GP : Hid (Grew w w) := Grew.refl w
  clear hG h32
  go_enter Tryz.func12, Tryz.ntmps12
  go_wp2_with fail
  go_ret
  exact ⟨rfl, (by repeat (first | with_reducible exact GP.out | with_reducible exact Grew.refl _ | refine Grew.alloc ?_ _ | refine Grew.set ?_ (by simp) _ | refine Grew.drewN ?_ _ | refine Grew.drew ?_))⟩
set_option maxRecDepth 100000 in
set_option maxHeartbeats 2000000 in
theorem cs_64283 {w : World} (s0 s1 s2 s3 s5 s6 s7 s8 : Value) {gv : Value} {GL : List GLt} (hG : LGl w gv GL) (gb : Int) (n : Nat) (h32 : n < 4294967296) (v2 v3 v4 v5 v6 v7 v8 v9 v10 v11 v12 v13 v14 v15 v16 : Value)  :
    Calls Tryz.prog 12 #[.agg #[s0, s1, s2, s3, gv, s5, s6, s7, s8], .agg #[.int .i64 64283, .int .u32 (n : Int), v2, v3, v4, v5, v6, v7, v8, v9, v10, v11, v12, v13, v14, v15, v16], .int .i64 gb] w fun en w' => en = .returned (.int .i64 0) ∧ Grew w w' := by
  have GP : Hid (Grew w w) := Grew.refl w
  clear hG h32
  go_enter Tryz.func12, Tryz.ntmps12
  go_wp2_with fail
  go_ret
  exact ⟨rfl, (by repeat (first | with_reducible exact GP.out | with_reducible exact Grew.refl _ | refine Grew.alloc ?_ _ | refine Grew.set ?_ (by simp) _ | refine Grew.drewN ?_ _ | refine Grew.drew ?_))⟩
set_option maxRecDepth 100000 in
set_option maxHeartbeats 2000000 in
theorem cs_64284 {w : World} (s0 s1 s2 s3 s5 s6 s7 s8 : Value) {gv : Value} {GL : List GLt} (hG : LGl w gv GL) (gb : Int) (n : Nat) (h32 : n < 4294967296) (v2 v3 v4 v5 v6 v7 v8 v9 v10 v11 v12 v13 v14 v15 v16 : Value)  :
    Calls Tryz.prog 12 #[.agg #[s0, s1, s2, s3, gv, s5, s6, s7, s8], .agg #[.int .i64 64284, .int .u32 (n : Int), v2, v3, v4, v5, v6, v7, v8, v9, v10, v11, v12, v13, v14, v15, v16], .int .i64 gb] w fun en w' => en = .returned (.int .i64 0) ∧ Grew w w' := by
  have GP : Hid (Grew w w) := Grew.refl w
  clear hG h32
  go_enter Tryz.func12, Tryz.ntmps12
  go_wp2_with fail
  go_ret
  exact ⟨rfl, (by repeat (first | with_reducible exact GP.out | with_reducible exact Grew.refl _ | refine Grew.alloc ?_ _ | refine Grew.set ?_ (by simp) _ | refine Grew.drewN ?_ _ | refine Grew.drew ?_))⟩
set_option maxRecDepth 100000 in
set_option maxHeartbeats 2000000 in
theorem cs_no {w : World} (s0 s1 s2 s3 s5 s6 s7 s8 : Value) {gv : Value} {GL : List GLt} (hG : LGl w gv GL) (gb : Int) (n : Nat) (h32 : n < 4294967296) (v2 v3 v4 v5 v6 v7 v8 v9 v10 v11 v12 v13 v14 v15 v16 : Value) (op : Int) (h0 : op ≠ 35) (h : op ∉ goodC) :
    Calls Tryz.prog 12 #[.agg #[s0, s1, s2, s3, gv, s5, s6, s7, s8], .agg #[.int .i64 op, .int .u32 (n : Int), v2, v3, v4, v5, v6, v7, v8, v9, v10, v11, v12, v13, v14, v15, v16], .int .i64 gb] w fun en w' => en = .returned (.int .i64 160) ∧ Grew w w' := by
  have e65 : (op == 65) = false := by rw [beq_eq_false_iff_ne]; intro e; exact h (by rw [e]; decide)
  have e66 : (op == 66) = false := by rw [beq_eq_false_iff_ne]; intro e; exact h (by rw [e]; decide)
  have e67 : (op == 67) = false := by rw [beq_eq_false_iff_ne]; intro e; exact h (by rw [e]; decide)
  have e68 : (op == 68) = false := by rw [beq_eq_false_iff_ne]; intro e; exact h (by rw [e]; decide)
  have e106 : (op == 106) = false := by rw [beq_eq_false_iff_ne]; intro e; exact h (by rw [e]; decide)
  have e107 : (op == 107) = false := by rw [beq_eq_false_iff_ne]; intro e; exact h (by rw [e]; decide)
  have e108 : (op == 108) = false := by rw [beq_eq_false_iff_ne]; intro e; exact h (by rw [e]; decide)
  have e124 : (op == 124) = false := by rw [beq_eq_false_iff_ne]; intro e; exact h (by rw [e]; decide)
  have e125 : (op == 125) = false := by rw [beq_eq_false_iff_ne]; intro e; exact h (by rw [e]; decide)
  have e126 : (op == 126) = false := by rw [beq_eq_false_iff_ne]; intro e; exact h (by rw [e]; decide)
  have e208 : (op == 208) = false := by rw [beq_eq_false_iff_ne]; intro e; exact h (by rw [e]; decide)
  have e210 : (op == 210) = false := by rw [beq_eq_false_iff_ne]; intro e; exact h (by rw [e]; decide)
  have e64256 : (op == 64256) = false := by rw [beq_eq_false_iff_ne]; intro e; exact h (by rw [e]; decide)
  have e64257 : (op == 64257) = false := by rw [beq_eq_false_iff_ne]; intro e; exact h (by rw [e]; decide)
  have e64262 : (op == 64262) = false := by rw [beq_eq_false_iff_ne]; intro e; exact h (by rw [e]; decide)
  have e64263 : (op == 64263) = false := by rw [beq_eq_false_iff_ne]; intro e; exact h (by rw [e]; decide)
  have e64264 : (op == 64264) = false := by rw [beq_eq_false_iff_ne]; intro e; exact h (by rw [e]; decide)
  have e64282 : (op == 64282) = false := by rw [beq_eq_false_iff_ne]; intro e; exact h (by rw [e]; decide)
  have e64283 : (op == 64283) = false := by rw [beq_eq_false_iff_ne]; intro e; exact h (by rw [e]; decide)
  have e64284 : (op == 64284) = false := by rw [beq_eq_false_iff_ne]; intro e; exact h (by rw [e]; decide)
  have e35 : (op == 35) = false := by rw [beq_eq_false_iff_ne]; exact h0
  clear h h0
  have GP : Hid (Grew w w) := Grew.refl w
  clear hG h32
  go_enter Tryz.func12, Tryz.ntmps12
  go_wp2_with fail
  go_ret
  exact ⟨rfl, (by repeat (first | with_reducible exact GP.out | with_reducible exact Grew.refl _ | refine Grew.alloc ?_ _ | refine Grew.set ?_ (by simp) _ | refine Grew.drewN ?_ _ | refine Grew.drew ?_))⟩
set_option maxRecDepth 100000 in
set_option maxHeartbeats 2000000 in
theorem cs_35 {w : World} (s0 s1 s2 s3 s5 s6 s7 s8 : Value) {gv : Value} {GL : List GLt} (hG : LGl w gv GL) (gb : Int) (n : Nat) (h32 : n < 4294967296) (v2 v3 v4 v5 v6 v7 v8 v9 v10 v11 v12 v13 v14 v15 v16 : Value)  :
    Calls Tryz.prog 12 #[.agg #[s0, s1, s2, s3, gv, s5, s6, s7, s8], .agg #[.int .i64 35, .int .u32 (n : Int), v2, v3, v4, v5, v6, v7, v8, v9, v10, v11, v12, v13, v14, v15, v16], .int .i64 gb] w fun en w' => en = .returned (.int .i64 (gloC GL gb n)) ∧ Grew w w' := by
  have N0 : ((w.alloc (.cells #[s0, s1, s2, s3, gv, s5, s6, s7, s8] 30)).alloc (.cells #[.int .i64 35, .int .u32 (n : Int), v2, v3, v4, v5, v6, v7, v8, v9, v10, v11, v12, v13, v14, v15, v16] 52)).heap[w.heap.size]? = some (.cells #[s0, s1, s2, s3, gv, s5, s6, s7, s8] 30 (0, 0)) := heap_alloc (heap_alloc_last _ _) _
  have HN := Hid.mk' N0
  clear N0
  have CG : Hid (∀ X, Grew w X → Calls Tryz.prog 22 #[.agg #[s0, s1, s2, s3, gv, s5, s6, s7, s8], .int .u32 (n : Int), .int .i64 gb] X fun en w' => en = .returned (.int .i64 (gloC GL gb n)) ∧ Grew X w') := fun X g => constG_any s0 s1 s2 s3 s5 s6 s7 s8 (hG.grew g) gb n h32
  generalize gloC GL gb n = E at *
  have GP : Hid (Grew w w) := Grew.refl w
  clear hG h32
  go_enter Tryz.func12, Tryz.ntmps12
  go_wp2_with (first
    | (with_reducible refine stop_load 30 rfl ?_
       unfold Stop
       refine wpList_load_row rfl 30 _ rfl (w.heap.size) (by go_simp) 30 #[s0, s1, s2, s3, gv, s5, s6, s7, s8] (0, 0) _ HN.out Tryz.underlying30 rfl (by kernel_rfl) ?_)
    | fail)
  refine (CG.out _ (by repeat (first | with_reducible exact Grew.refl _ | refine Grew.alloc ?_ _ | refine Grew.drew ?_ | refine Grew.drewN ?_ _))).mono ?_
  rintro en w1 ⟨rfl, g1⟩
  have gx : Grew w w1 := Grew.trans (by repeat (first | with_reducible exact GP.out | with_reducible exact Grew.refl _ | refine Grew.alloc ?_ _ | refine Grew.set ?_ (by simp) _ | refine Grew.drewN ?_ _ | refine Grew.drew ?_)) g1
  clear GP
  have GP := Hid.mk' gx
  clear g1 gx
  go_wp2_with fail
  go_ret
  exact ⟨rfl, (by repeat (first | with_reducible exact GP.out | with_reducible exact Grew.refl _ | refine Grew.alloc ?_ _ | refine Grew.set ?_ (by simp) _ | refine Grew.drewN ?_ _ | refine Grew.drew ?_))⟩
theorem constant_any {w : World} (s0 s1 s2 s3 s5 s6 s7 s8 : Value) {gv : Value} {GL : List GLt} (hG : LGl w gv GL) (gb : Int) (n : Nat) (h32 : n < 4294967296) (op : Int) (v2 v3 v4 v5 v6 v7 v8 v9 v10 v11 v12 v13 v14 v15 v16 : Value) :
    Calls Tryz.prog 12 #[.agg #[s0, s1, s2, s3, gv, s5, s6, s7, s8], .agg #[.int .i64 op, .int .u32 (n : Int), v2, v3, v4, v5, v6, v7, v8, v9, v10, v11, v12, v13, v14, v15, v16], .int .i64 gb] w fun en w' => en = .returned (.int .i64 (cstE GL gb op n)) ∧ Grew w w' := by
  unfold cstE
  by_cases h0 : op = 35
  · subst h0
    rw [if_pos rfl]
    exact cs_35 s0 s1 s2 s3 s5 s6 s7 s8 hG gb n h32 v2 v3 v4 v5 v6 v7 v8 v9 v10 v11 v12 v13 v14 v15 v16
  · rw [if_neg h0]
    by_cases h : op ∈ goodC
    · rw [if_pos h]
      unfold goodC at h
      simp only [List.mem_cons, List.mem_nil_iff, or_false] at h
      rcases h with rfl | rfl | rfl | rfl | rfl | rfl | rfl | rfl | rfl | rfl | rfl | rfl | rfl | rfl | rfl | rfl | rfl | rfl | rfl | rfl
      · exact cs_65 s0 s1 s2 s3 s5 s6 s7 s8 hG gb n h32 v2 v3 v4 v5 v6 v7 v8 v9 v10 v11 v12 v13 v14 v15 v16
      · exact cs_66 s0 s1 s2 s3 s5 s6 s7 s8 hG gb n h32 v2 v3 v4 v5 v6 v7 v8 v9 v10 v11 v12 v13 v14 v15 v16
      · exact cs_67 s0 s1 s2 s3 s5 s6 s7 s8 hG gb n h32 v2 v3 v4 v5 v6 v7 v8 v9 v10 v11 v12 v13 v14 v15 v16
      · exact cs_68 s0 s1 s2 s3 s5 s6 s7 s8 hG gb n h32 v2 v3 v4 v5 v6 v7 v8 v9 v10 v11 v12 v13 v14 v15 v16
      · exact cs_106 s0 s1 s2 s3 s5 s6 s7 s8 hG gb n h32 v2 v3 v4 v5 v6 v7 v8 v9 v10 v11 v12 v13 v14 v15 v16
      · exact cs_107 s0 s1 s2 s3 s5 s6 s7 s8 hG gb n h32 v2 v3 v4 v5 v6 v7 v8 v9 v10 v11 v12 v13 v14 v15 v16
      · exact cs_108 s0 s1 s2 s3 s5 s6 s7 s8 hG gb n h32 v2 v3 v4 v5 v6 v7 v8 v9 v10 v11 v12 v13 v14 v15 v16
      · exact cs_124 s0 s1 s2 s3 s5 s6 s7 s8 hG gb n h32 v2 v3 v4 v5 v6 v7 v8 v9 v10 v11 v12 v13 v14 v15 v16
      · exact cs_125 s0 s1 s2 s3 s5 s6 s7 s8 hG gb n h32 v2 v3 v4 v5 v6 v7 v8 v9 v10 v11 v12 v13 v14 v15 v16
      · exact cs_126 s0 s1 s2 s3 s5 s6 s7 s8 hG gb n h32 v2 v3 v4 v5 v6 v7 v8 v9 v10 v11 v12 v13 v14 v15 v16
      · exact cs_208 s0 s1 s2 s3 s5 s6 s7 s8 hG gb n h32 v2 v3 v4 v5 v6 v7 v8 v9 v10 v11 v12 v13 v14 v15 v16
      · exact cs_210 s0 s1 s2 s3 s5 s6 s7 s8 hG gb n h32 v2 v3 v4 v5 v6 v7 v8 v9 v10 v11 v12 v13 v14 v15 v16
      · exact cs_64256 s0 s1 s2 s3 s5 s6 s7 s8 hG gb n h32 v2 v3 v4 v5 v6 v7 v8 v9 v10 v11 v12 v13 v14 v15 v16
      · exact cs_64257 s0 s1 s2 s3 s5 s6 s7 s8 hG gb n h32 v2 v3 v4 v5 v6 v7 v8 v9 v10 v11 v12 v13 v14 v15 v16
      · exact cs_64262 s0 s1 s2 s3 s5 s6 s7 s8 hG gb n h32 v2 v3 v4 v5 v6 v7 v8 v9 v10 v11 v12 v13 v14 v15 v16
      · exact cs_64263 s0 s1 s2 s3 s5 s6 s7 s8 hG gb n h32 v2 v3 v4 v5 v6 v7 v8 v9 v10 v11 v12 v13 v14 v15 v16
      · exact cs_64264 s0 s1 s2 s3 s5 s6 s7 s8 hG gb n h32 v2 v3 v4 v5 v6 v7 v8 v9 v10 v11 v12 v13 v14 v15 v16
      · exact cs_64282 s0 s1 s2 s3 s5 s6 s7 s8 hG gb n h32 v2 v3 v4 v5 v6 v7 v8 v9 v10 v11 v12 v13 v14 v15 v16
      · exact cs_64283 s0 s1 s2 s3 s5 s6 s7 s8 hG gb n h32 v2 v3 v4 v5 v6 v7 v8 v9 v10 v11 v12 v13 v14 v15 v16
      · exact cs_64284 s0 s1 s2 s3 s5 s6 s7 s8 hG gb n h32 v2 v3 v4 v5 v6 v7 v8 v9 v10 v11 v12 v13 v14 v15 v16
    · rw [if_neg h]
      exact cs_no s0 s1 s2 s3 s5 s6 s7 s8 hG gb n h32 v2 v3 v4 v5 v6 v7 v8 v9 v10 v11 v12 v13 v14 v15 v16 op h0 h
end Go.Proofs.YtikbfhhebhhglaaGreatDoor
