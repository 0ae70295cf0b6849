/-
  A script of calls among the arguments: what its reading says to the walk; no statement is proved here.
-/
import Derived.Test.YtpkccnoipbgnmaaArgs
import Derived.Deep.Slices
namespace Go.Proofs.Ytpkccnoipbgnmaa
open Go.ChangeShapes Go.WideShapes Go.ChangeAt Go.RowKit
set_option linter.unusedVariables false

/- The calls of a script, in memory. -/
structure OpAt (w : World) (b off : Nat) (o : Int × Int × Int × Int × Bool) : Prop where
  a0 : w.cell? ⟨b, off, none⟩ = some (.int .i64 o.1)
  a1 : w.cell? ⟨b, off + 1, none⟩ = some (.int .u32 o.2.1)
  a2 : w.cell? ⟨b, off + 2, none⟩ = some (.int .i64 o.2.2.1)
  a3 : w.cell? ⟨b, off + 3, none⟩ = some (.int .i64 o.2.2.2.1)
  a4 : w.cell? ⟨b, off + 4, none⟩ = some (.bool o.2.2.2.2)
  n0 : 0 ≤ o.2.1
  n1 : o.2.1 ≤ 4294967295

theorem cells51 : Try.prog.cellsOf 51 = 5 := by kernel_rfl
theorem cells3 : Try.prog.cellsOf 3 = 1 := by kernel_rfl
theorem cells4 : Try.prog.cellsOf 4 = 1 := by kernel_rfl
theorem cells23 : Try.prog.cellsOf 23 = 1 := by kernel_rfl
theorem five {l : List Value} (h : l.length = 5) : ∃ a b c d e, l = [a, b, c, d, e] := by
  match l, h with
  | [a, b, c, d, e], _ => exact ⟨a, b, c, d, e, rfl⟩
theorem five' {α : Type} {l : List α} (h : l.length = 5) : ∃ a b c d e, l = [a, b, c, d, e] := by
  match l, h with
  | [a, b, c, d, e], _ => exact ⟨a, b, c, d, e, rfl⟩
theorem one_op {H : Type} {enc : TypeId × Value → H} {W : World} {n : Nat} {cs : List Value} {x : DataW H × List MemPlace} {b off : Nat}
    (hc : W.cells? 0 ⟨b, off, none⟩ 5 = some cs) (h : DataW.trod enc Try.prog W 0 (fun _ => true) true n 51 cs = some x) : ∃ o, OpAt W b off o := by
  obtain ⟨_, hlen, hcell⟩ := World.cells?_some hc
  obtain ⟨xs, k, hk, hxy, _, hxl, hf⟩ := DataW.trod_struct Try.underlying51 h
  obtain ⟨c0, c1, c2, c3, c4, rfl⟩ := five hlen
  obtain ⟨y0, y1, y2, y3, y4, rfl⟩ := five' (l := xs) hxl
  have g0 := hf 0 _ rfl
  have g1 := hf 1 _ rfl
  have g2 := hf 2 _ rfl
  have g3 := hf 3 _ rfl
  have g4 := hf 4 _ rfl
  simp [cells3, cells23, cells4] at g0 g1 g2 g3 g4
  have e0 := hcell 0 (by omega)
  have e1 := hcell 1 (by omega)
  have e2 := hcell 2 (by omega)
  have e3 := hcell 3 (by omega)
  have e4 := hcell 4 (by omega)
  rw [add_plain] at e0 e1 e2 e3 e4
  obtain ⟨v0, q0, _, _⟩ := DataW.trod_int Try.underlying3 g0
  obtain ⟨v1, q1, _, w1⟩ := DataW.trod_int Try.underlying23 g1
  obtain ⟨v2, q2, _, _⟩ := DataW.trod_int Try.underlying3 g2
  obtain ⟨v3, q3, _, _⟩ := DataW.trod_int Try.underlying3 g3
  obtain ⟨v4, q4, _⟩ := DataW.trod_bool Try.underlying4 g4
  simp at q0 q1 q2 q3 q4
  subst q0 q1 q2 q3 q4
  have wb := bounds_u32 w1
  exact ⟨(v0, v1, v2, v3, v4), by simpa using e0, by simpa using e1, by simpa using e2, by simpa using e3, by simpa using e4, wb.1, wb.2⟩
theorem open_ops {H : Type} {enc : TypeId × Value → H} {W : World} {a : Option Addr} {len cap : Nat} {d : DataW H} {p : List MemPlace}
    (hf : DataW.Trod enc Try.prog W 0 (fun _ => true) true 44 (.slice a len cap) d p) :
    len ≤ 9223372036854775807 ∧ ∃ ops : Nat → Int × Int × Int × Int × Bool, len = 0 ∨ ∃ b off, a = some ⟨b, off, none⟩ ∧ ∀ i, i < len → OpAt W b (off + i * 5) (ops i) := by
  obtain ⟨fuel, hf⟩ := hf
  rcases Go.Deep.open_slice Try.underlying44 hf with ⟨hcs, _⟩ | ⟨x, l, c, m, n, D, Pl, hcs, _, hl, hm, hmm, _, hx⟩
  · simp [Value.cells] at hcs
    obtain ⟨rfl, rfl, rfl⟩ := hcs
    exact ⟨by omega, fun _ => (0, 0, 0, 0, false), Or.inl rfl⟩
  · simp [Value.cells] at hcs
    obtain ⟨rfl, rfl, rfl⟩ := hcs
    simp only [if_true] at hmm
    subst hmm
    refine ⟨by unfold maxLen at hm; omega, ?_⟩
    by_cases h0 : len = 0
    · exact ⟨fun _ => (0, 0, 0, 0, false), Or.inl h0⟩
    · obtain ⟨b, off, spot⟩ := x
      have hspot : spot = none := by
        obtain ⟨cs', h1, _⟩ := hx 0 (by omega)
        rw [cells51] at h1
        obtain ⟨_, hlen, hcell⟩ := World.cells?_some h1
        have := hcell 0 (by omega)
        obtain ⟨c0, c1, c2, c3, c4, rfl⟩ := five hlen
        simp [Addr.add] at this
        exact World.cell?_spot this
      subst hspot
      have each : ∀ i, i < len → ∃ o, OpAt W b (off + i * 5) o := by
        intro i hi
        obtain ⟨cs', h1, h2⟩ := hx i (by omega)
        rw [cells51, add_plain] at h1
        exact one_op h1 h2
      obtain ⟨ops, hops⟩ := Go.Deep.choose_lt each
      exact ⟨ops, Or.inr ⟨b, off, rfl, hops⟩⟩
end Go.Proofs.Ytpkccnoipbgnmaa
