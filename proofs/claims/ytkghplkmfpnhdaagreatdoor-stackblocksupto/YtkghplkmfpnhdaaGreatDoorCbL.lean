/-
  local, Get, Set; no statement is proved here.
-/
import Derived.Test.YtkghplkmfpnhdaaGreatDoorCal
namespace Go.Proofs.YtkghplkmfpnhdaaGreatDoor
open Go.RowKit
set_option linter.unusedVariables false
set_option linter.unusedSimpArgs false

theorem RowLo.at {B : Nat} {w : World} {v : Value} {l : List LO} (h : RowLo B w v l) {n : Nat} {x : LO} (hx : l[n]? = some x) : ∃ g c, v = .slice (some ⟨g, 0, none⟩) l.length c ∧ l.length ≤ c ∧ c ≤ maxLen ∧ B ≤ g ∧ (∃ cur : Array Value, w.heap[g]? = some (.cells cur 82 (0, 0))) ∧ ∀ j, j < 4 → w.cell? ⟨g, n * 4 + j, none⟩ = (LO.c x)[j]? := by
  have h0 := h
  have hn := (List.getElem?_eq_some_iff.1 hx).1
  obtain ⟨hl, ⟨_, h3⟩ | ⟨g, cap, cur, hv', hB, hg, h3, h4, h5, h6⟩⟩ := h
  · omega
  · refine ⟨g, cap, hv', h3, h4, hB, ⟨cur, hg⟩, fun j hj => ?_⟩
    rw [hv'] at h0
    have := World.ownsRow.cellAt h0 (n * 4 + j) (by omega)
    rw [this]
    exact flat_at LO.c 4 (fun _ => rfl) l n x j hx hj
set_option maxRecDepth 100000 in
theorem localM_out {B : Nat} {w : World} {C : Nat} {lv fv ov qv : Value} {lo : List LO} {fr : List Int} {ops : List VT} {fs : List FV} (h : CK B w C lv fv ov qv lo fr ops fs) {n : Nat} (hn : lo.length ≤ n) (h32 : n < 4294967296) :
    Calls Tryz.prog 44 #[.pointer (some ⟨C, 0, none⟩), .int .u32 (n : Int)] w fun en w' => en = .returned (.tuple #[.pointer none, .int .i64 1]) ∧ Grew w w' := by
  have C1 := zeroM h
  have c3 := h.c3
  obtain ⟨la, lc, hl, hlc, hlm, _⟩ := row_max h.rlo
  subst hl
  have hml : (lo.length : Int) ≤ 9223372036854775807 := by have := hlm; simp [maxLen] at this; omega
  have e1 : IntKind.u64.wrap (n : Int) = (n : Int) := by rw [IntKind.wrap_u64]; omega
  have e2 : IntKind.u64.wrap (lo.length : Int) = (lo.length : Int) := by rw [IntKind.wrap_u64]; omega
  have d1 : decide ((lo.length : Int) ≤ (n : Int)) = true := by simp; omega
  have d2 : decide (lo.length ≤ n) = true := by simp; omega
  clear h
  go_enter Tryz.func44, Tryz.ntmps44
  go_wp2_with fail
  refine C1.mono ?_
  rintro en wX ⟨rfl, hwX⟩
  obtain rfl := hwX.symm
  clear hwX C1
  go_wp2_with fail
  first
  | (go_ret2; exact ⟨rfl, Grew.refl _⟩)
  | (go_quiet (fail)
     go_wp2_with fail
     go_ret2
     exact ⟨rfl, (Grew.refl w).drewN _⟩)
set_option maxRecDepth 100000 in
theorem localM_in {B : Nat} {w : World} {C : Nat} {fv ov qv : Value} {lo : List LO} {fr : List Int} {ops : List VT} {fs : List FV} {g c : Nat} (h : CK B w C (.slice (some ⟨g, 0, none⟩) lo.length c) fv ov qv lo fr ops fs) {n : Nat} (hn : n < lo.length) (h32 : n < 4294967296) :
    Calls Tryz.prog 44 #[.pointer (some ⟨C, 0, none⟩), .int .u32 (n : Int)] w fun en w' => en = .returned (.tuple #[.pointer (some ⟨g, n * 4, none⟩), .int .i64 0]) ∧ Grew w w' := by
  have C1 := zeroM h
  have c3 := h.c3
  have hlc : lo.length ≤ c ∧ c ≤ maxLen := by
    obtain ⟨a', c', hl, h1, h2, _⟩ := row_max h.rlo
    injection hl with _ _ e
    subst e
    exact ⟨h1, h2⟩
  have hml : (lo.length : Int) ≤ 9223372036854775807 := by have h1 := hlc.1; have h2 := hlc.2; simp [maxLen] at h2; omega
  have e1 : IntKind.u64.wrap (n : Int) = (n : Int) := by rw [IntKind.wrap_u64]; omega
  have e2 : IntKind.u64.wrap (lo.length : Int) = (lo.length : Int) := by rw [IntKind.wrap_u64]; omega
  have d1 : decide ((lo.length : Int) ≤ (n : Int)) = false := by simp; omega
  have d2 : decide (lo.length ≤ n) = false := by simp; omega
  have d3 : decide (n < lo.length) = true := by simp; omega
  have d4 : decide ((n : Int) < (lo.length : Int)) = true := by simp; omega
  have d5 : (n : Int) < (lo.length : Int) := by omega
  clear h
  go_enter Tryz.func44, Tryz.ntmps44
  go_wp2_with fail
  refine C1.mono ?_
  rintro en wX ⟨rfl, hwX⟩
  obtain rfl := hwX.symm
  clear hwX C1
  go_wp2_with fail
  first
  | (go_ret2; exact ⟨rfl, Grew.refl _⟩)
  | (go_quiet (fail)
     go_wp2_with fail
     first
     | (go_ret2
        exact ⟨rfl, (Grew.refl w).drewN _⟩)
     | (go_quiet (fail)
        go_wp2_with fail
        go_ret2
        exact ⟨rfl, ((Grew.refl w).drewN _).drewN _⟩))
theorem fresh3g {w w1 : World} {t : TypeId} {a b c : Value} (g : Grew (w.alloc (.cells #[a, b, c] t)) w1) :
    Grew w w1 ∧ w.heap.size < w1.heap.size ∧ w1.cell? ⟨w.heap.size, 0, none⟩ = some a ∧ w1.cell? ⟨w.heap.size, 1, none⟩ = some b ∧ w1.cell? ⟨w.heap.size, 2, none⟩ = some c ∧
    w1.frozen? ⟨w.heap.size, 0, none⟩ = false ∧ w1.frozen? ⟨w.heap.size, 1, none⟩ = false ∧ w1.frozen? ⟨w.heap.size, 2, none⟩ = false := by
  have B1 := (g.turn []).other (heap_alloc_last w (.cells #[a, b, c] t)) (by simp)
  refine ⟨((Grew.refl w).alloc _).trans g, lt_of_obj B1, ?_, ?_, ?_, free_of B1 0, free_of B1 1, free_of B1 2⟩
  · rw [cell_of B1]; rfl
  · rw [cell_of B1]; rfl
  · rw [cell_of B1]; rfl
theorem LO.get (x : LO) : (LO.c x)[0]? = some (.int .i64 x.kind.num) ∧ (LO.c x)[1]? = some (.bool x.kind.null) ∧ (LO.c x)[2]? = some (.int .i64 x.kind.heap) ∧ (LO.c x)[3]? = some (.bool x.set) := ⟨rfl, rfl, rfl, rfl⟩
abbrev VT0g : Value := .agg #[.int .i64 0, .bool false, .int .i64 0]
set_option maxRecDepth 100000 in
set_option maxHeartbeats 1000000 in
theorem getM_out {B : Nat} {w : World} {C : Nat} {lv fv ov qv : Value} {lo : List LO} {fr : List Int} {ops : List VT} {fs : List FV} (h : CK B w C lv fv ov qv lo fr ops fs) {n : Nat} (hn : lo.length ≤ n) (h32 : n < 4294967296) :
    Calls Tryz.prog 17 #[.pointer (some ⟨C, 0, none⟩), .int .u32 (n : Int)] w fun en w' => en = .returned (.tuple #[VT0g, .int .i64 1]) ∧ Grew w w' := by
  have C1 : Hid (∀ W, Grew w W → Calls Tryz.prog 44 #[.pointer (some ⟨C, 0, none⟩), .int .u32 (n : Int)] W fun en w' => en = .returned (.tuple #[.pointer none, .int .i64 1]) ∧ Grew W w') := fun W gg => localM_out (h.grew gg) hn h32
  clear h
  go_enter Tryz.func17, Tryz.ntmps17
  go_wp2_with fail
  refine (C1.out _ ((Grew.refl w).alloc _)).mono ?_
  rintro en w1 ⟨rfl, g1⟩
  obtain ⟨gg, hl, n0, n1, n2, z0, z1, z2⟩ := fresh3g g1
  have G1 := Hid.mk' gg
  clear g1 gg C1
  go_wp2_with fail
  refine bodyPost_ret (v := .tuple #[VT0g, .int .i64 1]) (by simp [results, Tryz.results17, go_sem, n0, n1, n2]) rfl ?_
  exact ⟨rfl, ((G1.out.set (p := ⟨w.heap.size, 0, none⟩) (Nat.le_refl _) _).set (p := ⟨w.heap.size, 1, none⟩) (Nat.le_refl _) _).set (p := ⟨w.heap.size, 2, none⟩) (Nat.le_refl _) _⟩
def getR (x : LO) : Value := if x.set then .tuple #[.agg #[.int .i64 x.kind.num, .bool x.kind.null, .int .i64 x.kind.heap], .int .i64 0] else .tuple #[VT0g, .int .i64 134]
set_option maxRecDepth 100000 in
set_option maxHeartbeats 1000000 in
theorem getM_in {B : Nat} {w : World} {C : Nat} {lv fv ov qv : Value} {lo : List LO} {fr : List Int} {ops : List VT} {fs : List FV} (h : CK B w C lv fv ov qv lo fr ops fs) {n : Nat} {x : LO} (hx : lo[n]? = some x) (h32 : n < 4294967296) :
    Calls Tryz.prog 17 #[.pointer (some ⟨C, 0, none⟩), .int .u32 (n : Int)] w fun en w' => en = .returned (getR x) ∧ Grew w w' := by
  obtain ⟨g, c, hv, _, _, _, _, hc⟩ := h.rlo.at hx
  subst hv
  have hn := (List.getElem?_eq_some_iff.1 hx).1
  have C1 : Hid (∀ W, Grew w W → Calls Tryz.prog 44 #[.pointer (some ⟨C, 0, none⟩), .int .u32 (n : Int)] W fun en w' => en = .returned (.tuple #[.pointer (some ⟨g, n * 4, none⟩), .int .i64 0]) ∧ Grew W w') := fun W gg => localM_in (h.grew gg) hn h32
  have k0 := hc 0 (by decide)
  have k1 := hc 1 (by decide)
  have k2 := hc 2 (by decide)
  have k3 := hc 3 (by decide)
  obtain ⟨⟨tn, tz, th⟩, st⟩ := x
  simp [LO.c] at k0 k1 k2 k3
  unfold getR
  simp only
  clear h hc hx
  cases st with
  | true =>
    rw [if_pos rfl]
    go_enter Tryz.func17, Tryz.ntmps17
    go_wp2_with fail
    refine (C1.out _ ((Grew.refl w).alloc _)).mono ?_
    rintro en w1 ⟨rfl, g1⟩
    obtain ⟨gg, hl, n0, n1, n2, z0, z1, z2⟩ := fresh3g g1
    have G1 := Hid.mk' gg
    replace k0 := cell_grew k0 gg
    replace k1 := cell_grew k1 gg
    replace k2 := cell_grew k2 gg
    replace k3 := cell_grew k3 gg
    clear g1 gg C1
    go_wp2_with fail
    refine bodyPost_ret (v := .tuple #[.agg #[.int .i64 tn, .bool tz, .int .i64 th], .int .i64 0]) (by simp [results, Tryz.results17, go_sem, n0, n1, n2]) rfl ?_
    exact ⟨rfl, ((G1.out.set (p := ⟨w.heap.size, 0, none⟩) (Nat.le_refl _) _).set (p := ⟨w.heap.size, 1, none⟩) (Nat.le_refl _) _).set (p := ⟨w.heap.size, 2, none⟩) (Nat.le_refl _) _⟩
  | false =>
    rw [if_neg (by simp)]
    go_enter Tryz.func17, Tryz.ntmps17
    go_wp2_with fail
    refine (C1.out _ ((Grew.refl w).alloc _)).mono ?_
    rintro en w1 ⟨rfl, g1⟩
    obtain ⟨gg, hl, n0, n1, n2, z0, z1, z2⟩ := fresh3g g1
    have G1 := Hid.mk' gg
    replace k3 := cell_grew k3 gg
    clear g1 gg C1 k0 k1 k2
    go_wp2_with fail
    refine bodyPost_ret (v := .tuple #[VT0g, .int .i64 134]) (by simp [results, Tryz.results17, go_sem, n0, n1, n2]) rfl ?_
    exact ⟨rfl, ((G1.out.set (p := ⟨w.heap.size, 0, none⟩) (Nat.le_refl _) _).set (p := ⟨w.heap.size, 1, none⟩) (Nat.le_refl _) _).set (p := ⟨w.heap.size, 2, none⟩) (Nat.le_refl _) _⟩
end Go.Proofs.YtkghplkmfpnhdaaGreatDoor
