/-
  Globals by their numbers; no statement is proved here.
-/
import Derived.Test.YtikbfhhebhhglaaGreatDoorVrC
import Derived.Test.YtikbfhhebhhglaaGreatDoorTy
import Derived.Test.YtikbfhhebhhglaaGreatDoorVrM
namespace Go.Proofs.YtikbfhhebhhglaaGreatDoor
open Go.RowKit
set_option linter.unusedVariables false
set_option linter.unusedSimpArgs false

structure GLt where
  ty : VT
  mut_ : Bool
def GLt.v (p : GLt) : Value := .agg #[.int .i64 p.ty.num, .bool p.ty.null, .int .i64 p.ty.heap, .bool p.mut_]
def EGl (w : World) (b o : Nat) (p : GLt) : Prop := w.cell? ⟨b, o, none⟩ = some (.int .i64 p.ty.num) ∧ w.cell? ⟨b, o + 1, none⟩ = some (.bool p.ty.null) ∧ w.cell? ⟨b, o + 2, none⟩ = some (.int .i64 p.ty.heap) ∧ w.cell? ⟨b, o + 3, none⟩ = some (.bool p.mut_)
abbrev LGl := Lst 4 EGl
theorem LGl.grew {w w' : World} {v : Value} {l : List GLt} (h : LGl w v l) (g : Grew w w') : LGl w' v l := by
  obtain ⟨a, cap, hv, h1, h2, h3, h4⟩ := h
  refine ⟨a, cap, hv, h1, h2, h3, h4.imp_right ?_⟩
  rintro ⟨b, off, ha, hE⟩
  refine ⟨b, off, ha, fun i x hx => ?_⟩
  obtain ⟨e0, e1, e2, e3⟩ := hE i x hx
  exact ⟨cell_grew e0 g, cell_grew e1 g, cell_grew e2 g, cell_grew e3 g⟩
set_option maxRecDepth 100000 in
set_option maxHeartbeats 1000000 in
theorem atGL_out {w : World} {v : Value} {l : List GLt} (h : LGl w v l) {n : Nat} (hn : l.length ≤ n) (h32 : n < 4294967296) :
    Calls Tryz.prog 57 #[v, .int .u32 (n : Int)] w fun en w' => en = .returned (.tuple #[.agg #[.int .i64 0, .bool false, .int .i64 0, .bool false], .int .i64 150]) ∧ Grew w w' := by
  obtain ⟨a, cap, hv, hle, hmx⟩ := h.one
  subst hv
  have e1 : IntKind.u64.wrap (n : Int) = (n : Int) := by rw [IntKind.wrap_u64]; omega
  have e2 : IntKind.u64.wrap (l.length : Int) = (l.length : Int) := by rw [IntKind.wrap_u64]; omega
  have d1 : decide ((l.length : Int) ≤ (n : Int)) = true := by simp; omega
  have d2 : decide (l.length ≤ n) = true := by simp; omega
  clear h
  go_enter Tryz.func57, Tryz.ntmps57
  go_wp2_with fail
  refine bodyPost_ret (v := .tuple #[.agg #[.int .i64 0, .bool false, .int .i64 0, .bool false], .int .i64 150]) (by simp [results, Tryz.results57, go_sem]) rfl ?_
  exact ⟨rfl, by repeat (first | with_reducible exact Grew.refl _ | refine Grew.alloc ?_ _ | refine Grew.set ?_ (by simp) _)⟩
set_option maxRecDepth 100000 in
set_option maxHeartbeats 1000000 in
theorem atGL_in {w : World} {v : Value} {l : List GLt} (h : LGl w v l) {n : Nat} {p : GLt} (hp : l[n]? = some p) (h32 : n < 4294967296) :
    Calls Tryz.prog 57 #[v, .int .u32 (n : Int)] w fun en w' => en = .returned (.tuple #[.agg #[.int .i64 p.ty.num, .bool p.ty.null, .int .i64 p.ty.heap, .bool p.mut_], .int .i64 0]) ∧ Grew w w' := by
  obtain ⟨a, cap, hv, hle, hmx⟩ := h.one
  subst hv
  have hn := (List.getElem?_eq_some_iff.1 hp).1
  obtain ⟨b, off, ha, hc, hE⟩ := h.get (by omega)
  subst ha
  obtain ⟨x0, x1, x2, x3⟩ := hE n p hp
  have e1 : IntKind.u64.wrap (n : Int) = (n : Int) := by rw [IntKind.wrap_u64]; omega
  have e2 : IntKind.u64.wrap (l.length : Int) = (l.length : Int) := by rw [IntKind.wrap_u64]; have := hmx; simp [maxLen] at this; omega
  have d1 : decide ((l.length : Int) ≤ (n : Int)) = false := by simp; omega
  have d2 : decide (l.length ≤ n) = false := by simp; omega
  have d3 : decide (n < l.length) = true := by simp; omega
  have d4 : decide ((n : Int) < (l.length : Int)) = true := by simp; omega
  have d5 : (n : Int) < (l.length : Int) := by omega
  have hxl := lt_of_cell x0
  clear h hE hp
  go_enter Tryz.func57, Tryz.ntmps57
  go_wp2_with fail
  refine bodyPost_ret (v := .tuple #[.agg #[.int .i64 p.ty.num, .bool p.ty.null, .int .i64 p.ty.heap, .bool p.mut_], .int .i64 0]) (by simp [results, Tryz.results57, go_sem]) rfl ?_
  exact ⟨rfl, by repeat (first | with_reducible exact Grew.refl _ | refine Grew.alloc ?_ _ | refine Grew.set ?_ (by simp) _)⟩
end Go.Proofs.YtikbfhhebhhglaaGreatDoor
