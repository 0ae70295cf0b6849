/-
  vref's small questions of types and fields; no statement is proved here.
-/
import Derived.Test.YtnmbniojejckpaaGreatDoorVfA
import Derived.Test.YtnmbniojejckpaaGreatDoorGrR
import Derived.Test.YtnmbniojejckpaaGreatDoorLoO
set_option maxRecDepth 100000
set_option maxHeartbeats 8000000
namespace Go.Proofs.YtnmbniojejckpaaGreatDoor
open Go.RowKit
set_option linter.unusedVariables false
set_option linter.unusedSimpArgs false
section
variable {w : World} {cx : Array Value} {TT : List RT} {FL : List Int} {EL : List VT} {RB : List Bool} {dt : Int}
theorem getE {cx : Array Value} {i : Nat} {v : Value} (h : cx[i]? = some v) {hi : i < cx.size} : cx[i]'hi = v := by
  rw [Array.getElem?_eq_getElem hi] at h
  exact Option.some.inj h
def FtQ (X : World) (en : Ending) (w' : World) : Prop := ∃ (a : Int) (b : Bool) (c : Int) (d : Bool) (e : Int), en = .returned (.tuple #[.agg #[.int .i64 a, .bool b, .int .i64 c, .bool d], .int .i64 e]) ∧ e ≠ 6 ∧ Grew X w'
theorem element_any (h : CTX w cx TT FL EL RB dt) (n : Nat) (h32 : n < 4294967296) {X : World} (g : Grew w X) :
    Calls Tryz.prog 81 #[.agg cx, .int .u32 (n : Int)] X (FtQ X) := by
  obtain ⟨tv, ht, hl⟩ := h.types
  have CC : Hid (∀ Y, Grew X Y → Calls Tryz.prog 105 #[tv, .int .i64 (n : Int), .int .i64 3] Y fun en w' => ∃ pa pn pc ra rn rc fv k l e, en = .returned (.tuple #[.agg #[.int .i64 k, .slice pa pn pc, .slice ra rn rc, fv], .int .i64 e]) ∧ (e = 0 ∨ e = 150 ∨ e = 151) ∧ LF w' fv l ∧ l.length ≤ 1048576 ∧ Grew Y w') := fun Y gy => h.comp ht _ 3 (by omega) (g.trans gy)
  have hw : IntKind.i64.wrap (n : Int) = (n : Int) := by rw [IntKind.wrap_i64]; omega
  obtain ⟨ta, tc, e1, _⟩ := hl.one
  subst e1
  have hsz := h.sz
  have hx0 : cx[0]'(by omega) = .slice ta TT.length tc := getE ht
  clear h hl g ht
  go_enter Tryz.func81, Tryz.ntmps81
  go_wp2_with fail
  obtain ⟨w0, hw0⟩ : ∃ w0, w0 = (X.alloc (.cells cx 30)).alloc (.cells #[.int .i64 0, .bool false, .int .i64 0, .bool false] 112) := ⟨_, rfl⟩
  have N0 : w0.heap[X.heap.size + 1]? = some (.cells #[.int .i64 0, .bool false, .int .i64 0, .bool false] 112 (0, 0)) := by
    rw [hw0]
    have := heap_alloc_last (X.alloc (.cells cx 30)) (.cells #[.int .i64 0, .bool false, .int .i64 0, .bool false] 112)
    rw [alloc_size] at this
    exact this
  have G0 : Hid (Grew X w0) := by rw [hw0]; exact ((Grew.refl X).alloc _).alloc _
  rw [← hw0]
  clear hw0
  refine (CC.out _ G0.out).mono ?_
  rintro en w1 ⟨pa, pn, pc, ra, rn, rc, fv, k, l, e, rfl, he, hf, hlen, g1⟩
  have G1 : Hid (Grew X w1) := G0.out.trans g1
  have N1 := (g1.turn []).other N0 (by simp)
  have lB := lt_of_obj N1
  have z0 := cell_of N1 0
  have z1 := cell_of N1 1
  have z2 := cell_of N1 2
  have z3 := cell_of N1 3
  have y0 := free_of N1 0
  have y1 := free_of N1 1
  have y2 := free_of N1 2
  have y3 := free_of N1 3
  simp at z0 z1 z2 z3
  have hB : Hid (X.heap.size ≤ X.heap.size + 1) := by show X.heap.size ≤ X.heap.size + 1; omega
  have HF := Hid.mk' hf
  obtain ⟨fa, fc, e1, hfc, _⟩ := hf.one
  subst e1
  have HN1 := Hid.mk' N1
  clear CC N0 G0 g1 hf N1
  by_cases h0 : e = 0
  · subst h0
    by_cases hl1 : l.length = 1
    · obtain ⟨f, hf0⟩ : ∃ f, l[0]? = some f := ⟨_, List.getElem?_eq_getElem (by omega)⟩
      obtain ⟨b, off, ea, _, hE⟩ := HF.out.get (by omega)
      subst ea
      obtain ⟨⟨x0, x1, x2⟩, x3⟩ := hE 0 f hf0
      simp at x0 x1 x2 x3
      have hbl := lt_of_cell x0
      rw [hl1]
      clear hE HF hf0 he hl1 hlen
      go_wp2_with fail
      have b3 := heap_set (heap_set (heap_set (heap_set HN1.out 0 (.int .i64 f.ty.num)) 1 (.bool f.ty.null)) 2 (.int .i64 f.ty.heap)) 3 (.bool f.mut_)
      have G2 := Hid.mk' ((((G1.out.set (p := ⟨X.heap.size + 1, 0, none⟩) hB.out (.int .i64 f.ty.num)).set (p := ⟨X.heap.size + 1, 1, none⟩) hB.out (.bool f.ty.null)).set (p := ⟨X.heap.size + 1, 2, none⟩) hB.out (.int .i64 f.ty.heap)).set (p := ⟨X.heap.size + 1, 3, none⟩) hB.out (.bool f.mut_))
      generalize (((w1.setCell ⟨X.heap.size + 1, 0, none⟩ (.int .i64 f.ty.num)).setCell ⟨X.heap.size + 1, 1, none⟩ (.bool f.ty.null)).setCell ⟨X.heap.size + 1, 2, none⟩ (.int .i64 f.ty.heap)).setCell ⟨X.heap.size + 1, 3, none⟩ (.bool f.mut_) = w2 at *
      have gz : Grew w2 (w2.alloc (.cells #[.int .i64 k, .slice pa pn pc, .slice ra rn rc, .slice (some ⟨b, off, none⟩) 1 fc] 106)) := (Grew.refl w2).alloc _
      have b4 := heap_alloc b3 (.cells #[.int .i64 k, .slice pa pn pc, .slice ra rn rc, .slice (some ⟨b, off, none⟩) 1 fc] 106)
      have c0 := cell_of b4 0
      have c1 := cell_of b4 1
      have c2 := cell_of b4 2
      have c3 := cell_of b4 3
      simp at c0 c1 c2 c3
      refine bodyPost_ret (v := .tuple #[.agg #[.int .i64 f.ty.num, .bool f.ty.null, .int .i64 f.ty.heap, .bool f.mut_], .int .i64 0]) (by simp [results, Tryz.results81, go_sem, c0, c1, c2, c3]) rfl ?_
      exact ⟨_, _, _, _, _, rfl, by decide, G2.out.trans gz⟩
    · have hne : ((l.length : Int) == 1) = false := by rw [beq_eq_false_iff_ne]; omega
      have hne2 : ((l.length : Int) != 1) = true := by simp [hne, bne]
      clear HF he hl1
      go_wp2_with fail
      have b3 := heap_set (heap_set (heap_set (heap_set HN1.out 0 (.int .i64 0)) 1 (.bool false)) 2 (.int .i64 0)) 3 (.bool false)
      have G2 := Hid.mk' ((((G1.out.set (p := ⟨X.heap.size + 1, 0, none⟩) hB.out (.int .i64 0)).set (p := ⟨X.heap.size + 1, 1, none⟩) hB.out (.bool false)).set (p := ⟨X.heap.size + 1, 2, none⟩) hB.out (.int .i64 0)).set (p := ⟨X.heap.size + 1, 3, none⟩) hB.out (.bool false))
      generalize (((w1.setCell ⟨X.heap.size + 1, 0, none⟩ (.int .i64 0)).setCell ⟨X.heap.size + 1, 1, none⟩ (.bool false)).setCell ⟨X.heap.size + 1, 2, none⟩ (.int .i64 0)).setCell ⟨X.heap.size + 1, 3, none⟩ (.bool false) = w2 at *
      have gz : Grew w2 (w2.alloc (.cells #[.int .i64 k, .slice pa pn pc, .slice ra rn rc, .slice fa l.length fc] 106)) := (Grew.refl w2).alloc _
      have b4 := heap_alloc b3 (.cells #[.int .i64 k, .slice pa pn pc, .slice ra rn rc, .slice fa l.length fc] 106)
      have c0 := cell_of b4 0
      have c1 := cell_of b4 1
      have c2 := cell_of b4 2
      have c3 := cell_of b4 3
      simp at c0 c1 c2 c3
      refine bodyPost_ret (v := .tuple #[.agg #[.int .i64 0, .bool false, .int .i64 0, .bool false], .int .i64 151]) (by simp [results, Tryz.results81, go_sem, c0, c1, c2, c3]) rfl ?_
      exact ⟨_, _, _, _, _, rfl, by decide, G2.out.trans gz⟩
  · have hne : (e == 0) = false := by rw [beq_eq_false_iff_ne]; exact h0
    have hne2 : (e != 0) = true := by simp [hne, bne]
    have H6 : Hid (e ≠ 6) := by
      show e ≠ 6
      omega
    clear HF he h0
    go_wp2_with fail
    have b3 := heap_set (heap_set (heap_set (heap_set HN1.out 0 (.int .i64 0)) 1 (.bool false)) 2 (.int .i64 0)) 3 (.bool false)
    have G2 := Hid.mk' ((((G1.out.set (p := ⟨X.heap.size + 1, 0, none⟩) hB.out (.int .i64 0)).set (p := ⟨X.heap.size + 1, 1, none⟩) hB.out (.bool false)).set (p := ⟨X.heap.size + 1, 2, none⟩) hB.out (.int .i64 0)).set (p := ⟨X.heap.size + 1, 3, none⟩) hB.out (.bool false))
    generalize (((w1.setCell ⟨X.heap.size + 1, 0, none⟩ (.int .i64 0)).setCell ⟨X.heap.size + 1, 1, none⟩ (.bool false)).setCell ⟨X.heap.size + 1, 2, none⟩ (.int .i64 0)).setCell ⟨X.heap.size + 1, 3, none⟩ (.bool false) = w2 at *
    have gz : Grew w2 (w2.alloc (.cells #[.int .i64 k, .slice pa pn pc, .slice ra rn rc, .slice fa l.length fc] 106)) := (Grew.refl w2).alloc _
    have b4 := heap_alloc b3 (.cells #[.int .i64 k, .slice pa pn pc, .slice ra rn rc, .slice fa l.length fc] 106)
    have c0 := cell_of b4 0
    have c1 := cell_of b4 1
    have c2 := cell_of b4 2
    have c3 := cell_of b4 3
    simp at c0 c1 c2 c3
    refine bodyPost_ret (v := .tuple #[.agg #[.int .i64 0, .bool false, .int .i64 0, .bool false], .int .i64 e]) (by simp [results, Tryz.results81, go_sem, c0, c1, c2, c3]) rfl ?_
    exact ⟨_, _, _, _, _, rfl, H6.out, G2.out.trans gz⟩
end
def VtQ (X : World) (en : Ending) (w' : World) : Prop := ∃ (a : Int) (b : Bool) (c : Int), en = .returned (.agg #[.int .i64 a, .bool b, .int .i64 c]) ∧ Grew X w'
def BoQ (X : World) (en : Ending) (w' : World) : Prop := ∃ b : Bool, en = .returned (.bool b) ∧ Grew X w'
theorem unpack_0 (n h : Int) (z : Bool) (h8 : n = 6) (X : World) : Calls Tryz.prog 71 #[.agg #[.int .i64 n, .bool z, .int .i64 h]] X fun en w' => en = .returned (.agg #[.int .i64 1, .bool false, .int .i64 0]) ∧ Grew X w' := by
  subst h8
  go_enter Tryz.func71, Tryz.ntmps71
  go_wp2_with fail
  refine bodyPost_ret (v := .agg #[.int .i64 1, .bool false, .int .i64 0]) (by simp [results, Tryz.results71, go_sem]) rfl ?_
  exact ⟨rfl, (by repeat (first | with_reducible exact .refl _ | refine .alloc ?_ _ | refine .set ?_ (by simp) _ | refine .drewN ?_ _ | refine .drew ?_))⟩
theorem unpack_1 (n h : Int) (z : Bool) (h8 : n = 7) (X : World) : Calls Tryz.prog 71 #[.agg #[.int .i64 n, .bool z, .int .i64 h]] X fun en w' => en = .returned (.agg #[.int .i64 1, .bool false, .int .i64 0]) ∧ Grew X w' := by
  subst h8
  go_enter Tryz.func71, Tryz.ntmps71
  go_wp2_with fail
  refine bodyPost_ret (v := .agg #[.int .i64 1, .bool false, .int .i64 0]) (by simp [results, Tryz.results71, go_sem]) rfl ?_
  exact ⟨rfl, (by repeat (first | with_reducible exact .refl _ | refine .alloc ?_ _ | refine .set ?_ (by simp) _ | refine .drewN ?_ _ | refine .drew ?_))⟩
theorem unpack_2 (n h : Int) (z : Bool) (h8 : n ≠ 6) (h9 : n ≠ 7) (X : World) : Calls Tryz.prog 71 #[.agg #[.int .i64 n, .bool z, .int .i64 h]] X fun en w' => en = .returned (.agg #[.int .i64 n, .bool z, .int .i64 h]) ∧ Grew X w' := by
  have e1 : (n == 6) = false := by rw [beq_eq_false_iff_ne]; exact h8
  have e2 : (n == 7) = false := by rw [beq_eq_false_iff_ne]; exact h9
  clear h8 h9
  go_enter Tryz.func71, Tryz.ntmps71
  go_wp2_with fail
  refine bodyPost_ret (v := .agg #[.int .i64 n, .bool z, .int .i64 h]) (by simp [results, Tryz.results71, go_sem]) rfl ?_
  exact ⟨rfl, (by repeat (first | with_reducible exact .refl _ | refine .alloc ?_ _ | refine .set ?_ (by simp) _ | refine .drewN ?_ _ | refine .drew ?_))⟩
theorem unpack_any (n h : Int) (z : Bool) (X : World) : Calls Tryz.prog 71 #[.agg #[.int .i64 n, .bool z, .int .i64 h]] X (VtQ X) := by
  by_cases h8 : n = 6
  · exact (unpack_0 n h z h8 X).mono (fun en w' k => ⟨_, _, _, k.1, k.2⟩)
  · by_cases h9 : n = 7
    · exact (unpack_1 n h z h9 X).mono (fun en w' k => ⟨_, _, _, k.1, k.2⟩)
    · exact (unpack_2 n h z h8 h9 X).mono (fun en w' k => ⟨_, _, _, k.1, k.2⟩)
theorem packed_0 (n h : Int) (z : Bool) (h8 : n = 6) (X : World) : Calls Tryz.prog 108 #[.agg #[.int .i64 n, .bool z, .int .i64 h]] X fun en w' => en = .returned (.bool true) ∧ Grew X w' := by
  subst h8
  go_enter Tryz.func108, Tryz.ntmps108
  go_wp2_with fail
  go_ret
  exact ⟨rfl, (by repeat (first | with_reducible exact .refl _ | refine .alloc ?_ _ | refine .set ?_ (by simp) _ | refine .drewN ?_ _ | refine .drew ?_))⟩
theorem packed_1 (n h : Int) (z : Bool) (h8 : n = 7) (X : World) : Calls Tryz.prog 108 #[.agg #[.int .i64 n, .bool z, .int .i64 h]] X fun en w' => en = .returned (.bool true) ∧ Grew X w' := by
  subst h8
  go_enter Tryz.func108, Tryz.ntmps108
  go_wp2_with fail
  go_ret
  exact ⟨rfl, (by repeat (first | with_reducible exact .refl _ | refine .alloc ?_ _ | refine .set ?_ (by simp) _ | refine .drewN ?_ _ | refine .drew ?_))⟩
theorem packed_2 (n h : Int) (z : Bool) (h8 : n ≠ 6) (h9 : n ≠ 7) (X : World) : Calls Tryz.prog 108 #[.agg #[.int .i64 n, .bool z, .int .i64 h]] X fun en w' => en = .returned (.bool false) ∧ Grew X w' := by
  have e1 : (n == 6) = false := by rw [beq_eq_false_iff_ne]; exact h8
  have e2 : (n == 7) = false := by rw [beq_eq_false_iff_ne]; exact h9
  clear h8 h9
  go_enter Tryz.func108, Tryz.ntmps108
  go_wp2_with fail
  go_ret
  exact ⟨rfl, (by repeat (first | with_reducible exact .refl _ | refine .alloc ?_ _ | refine .set ?_ (by simp) _ | refine .drewN ?_ _ | refine .drew ?_))⟩
theorem packed_any (n h : Int) (z : Bool) (X : World) : Calls Tryz.prog 108 #[.agg #[.int .i64 n, .bool z, .int .i64 h]] X (BoQ X) := by
  by_cases h8 : n = 6
  · exact (packed_0 n h z h8 X).mono (fun en w' k => ⟨_, k.1, k.2⟩)
  · by_cases h9 : n = 7
    · exact (packed_1 n h z h9 X).mono (fun en w' k => ⟨_, k.1, k.2⟩)
    · exact (packed_2 n h z h8 h9 X).mono (fun en w' k => ⟨_, k.1, k.2⟩)
theorem qdefined_any (b : Bool) (n : Nat) (h32 : n < 4294967296) (X : World) : Calls Tryz.prog 79 #[.bool b, .int .u32 (n : Int)] X fun en w' => en = .returned (.agg #[.int .i64 5, .bool b, .int .i64 (n : Int)]) ∧ Grew X w' := by
  have hw : IntKind.i64.wrap (n : Int) = (n : Int) := by rw [IntKind.wrap_i64]; omega
  clear h32
  go_enter Tryz.func79, Tryz.ntmps79
  go_wp2_with fail
  refine bodyPost_ret (v := .agg #[.int .i64 5, .bool b, .int .i64 (n : Int)]) (by simp [results, Tryz.results79, go_sem]) rfl ?_
  exact ⟨rfl, (by repeat (first | with_reducible exact .refl _ | refine .alloc ?_ _ | refine .set ?_ (by simp) _ | refine .drewN ?_ _ | refine .drew ?_))⟩
theorem noDefault_any (n h : Int) (z m : Bool) (X : World) : Calls Tryz.prog 74 #[.agg #[.int .i64 n, .bool z, .int .i64 h, .bool m]] X (BoQ X) := by
  have CD : Hid (∀ Y, Calls Tryz.prog 55 #[.agg #[.int .i64 n, .bool z, .int .i64 h]] Y fun en w' => en = .returned (.bool (defBk ⟨n, z, h⟩)) ∧ Grew Y w') := fun Y => default_any n h z Y
  generalize defBk ⟨n, z, h⟩ = b at *
  go_enter Tryz.func74, Tryz.ntmps74
  go_wp2_with fail
  refine (CD.out _).mono ?_
  rintro en w1 ⟨rfl, g1⟩
  have gx : Grew X w1 := Grew.trans (by repeat (first | with_reducible exact .refl _ | refine .alloc ?_ _ | refine .set ?_ (by simp) _ | refine .drewN ?_ _ | refine .drew ?_)) g1
  have G1 := Hid.mk' gx
  clear g1 gx CD
  go_wp2_with fail
  go_ret
  exact ⟨_, rfl, G1.out⟩
section
variable {w : World} {cx : Array Value} {TT : List RT} {FL : List Int} {EL : List VT} {RB : List Bool} {dt : Int}
theorem qspeaks_any (hc : CTX w cx TT FL EL RB dt) (n h : Int) (z : Bool) {X : World} (g : Grew w X) : Calls Tryz.prog 59 #[.agg cx, .agg #[.int .i64 n, .bool z, .int .i64 h]] X (BoQ X) := by
  obtain ⟨tv, ht, hl⟩ := hc.types
  have hs := sml_of hc.sum
  have CK : Hid (∀ Y, Grew X Y → Calls Tryz.prog 96 #[tv, .agg #[.int .i64 n, .bool z, .int .i64 h]] Y fun en w' => en = .returned (.bool (knownB TT ⟨n, z, h⟩)) ∧ Grew Y w') := fun Y gy => known_any (hl.grew (g.trans gy)) hs.1 hs.2.1 n h z
  obtain ⟨ta, tc, e1, _⟩ := hl.one
  subst e1
  have hsz := hc.sz
  have hx0 : cx[0]'(by omega) = .slice ta TT.length tc := getE ht
  generalize knownB TT ⟨n, z, h⟩ = b at *
  clear hc hl g ht hs
  by_cases h5 : n = 5
  · subst h5
    go_enter Tryz.func59, Tryz.ntmps59
    go_wp2_with fail
    refine (CK.out _ (by repeat (first | with_reducible exact .refl _ | refine .alloc ?_ _ | refine .set ?_ (by simp) _ | refine .drewN ?_ _ | refine .drew ?_))).mono ?_
    rintro en w1 ⟨rfl, g1⟩
    have gx : Grew X w1 := Grew.trans (by repeat (first | with_reducible exact .refl _ | refine .alloc ?_ _ | refine .set ?_ (by simp) _ | refine .drewN ?_ _ | refine .drew ?_)) g1
    have G1 := Hid.mk' gx
    clear g1 gx CK
    go_wp2_with fail
    go_ret
    exact ⟨_, rfl, G1.out⟩
  · have e1 : (n == 5) = false := by rw [beq_eq_false_iff_ne]; exact h5
    clear h5
    go_enter Tryz.func59, Tryz.ntmps59
    go_wp2_with fail
    go_ret
    exact ⟨_, rfl, (by repeat (first | with_reducible exact .refl _ | refine .alloc ?_ _ | refine .set ?_ (by simp) _ | refine .drewN ?_ _ | refine .drew ?_))⟩
end
end Go.Proofs.YtnmbniojejckpaaGreatDoor
