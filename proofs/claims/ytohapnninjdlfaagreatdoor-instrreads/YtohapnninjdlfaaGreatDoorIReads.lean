/-
  InstrReads: for every row of bytes and every place the law answers true: the instruction that Read reads there, the place behind it, or the fault and its place, are what the document says. It holds where the tables of codes and of the forms' fields start as their texts lay them (the card ties it to the text of the pruned copy; nothing is said of code outside that copy).
-/
import Derived.Test.YtohapnninjdlfaaGreatDoorReaders
import Derived.ChangeMaps5
import Derived.ShutString
import Derived.ChangeOld
import Derived.Below
import Derived.SizedLaws
import Derived.Test.YtohapnninjdlfaaGreatDoorReadB
import Derived.Lib.LaidTab
import Derived.ChangeArms
import Derived.Test.YtohapnninjdlfaaGreatDoorInI
import Derived.ChangeSlices
import Derived.Test.YtohapnninjdlfaaGreatDoorCards
import Derived.Test.YtohapnninjdlfaaGreatDoorTie
import Derived.Test.YtohapnninjdlfaaGreatDoorLw9
import Derived.Deep.DeepHandedRow
import Derived.Carry
import Derived.Stop.LaidErr
import Derived.Deep.DeepWitnessRowRef
namespace Go.Proofs.YtohapnninjdlfaaGreatDoor
open Go.ChangeShapes Go.WideShapes Go.ChangeAt Go.RowKit
set_option linter.unusedVariables false

theorem own : ownKnob Tryz.prog.godebug = none := by kernel_rfl
theorem laidOut : laidOutB Tryz.prog = true := by kernel_rfl
theorem bytes5 : Tryz.prog.bytesOf 5 = 1 := by kernel_rfl

theorem wf_u8 {n : Int} (h : (Lit.int .u8 n).wf = true) : 0 ≤ n ∧ n ≤ 255 := bounds_u8 h

theorem open_bytes {H : Type} {enc : TypeId × Value → H} {W : World} {a : Option Addr} {len cap : Nat} {d : DataW H} {p : List MemPlace}
    (hf : DataW.Trod enc Tryz.prog W 0 (fun _ => true) true 22 (.slice a len cap) d p) :
    ∃ l : List Int, l.length = len ∧ Reads W (.slice a len cap) l ∧ Byt l ∧ ((d = .nil ∧ len = 0) ∨ ∃ zs : List Int, d = .slice (lits .u8 (zs.take len)) (lits .u8 (zs.drop len)) ∧ len ≤ zs.length) := by
  obtain ⟨fuel, hf⟩ := hf
  rcases open_ints Tryz.underlying22 Tryz.underlying5 (by kernel_rfl) hf with ⟨hcs, hx⟩ | ⟨x, l, c, zs, hcs, _, hl, hm, hz, hx, hcell, hwz⟩
  · simp [Value.cells] at hcs
    obtain ⟨rfl, rfl, rfl⟩ := hcs
    simp only [Prod.mk.injEq] at hx
    exact ⟨[], rfl, ⟨none, 0, rfl, Nat.le_refl _, Nat.zero_le _, fun _ => rfl, Or.inl rfl⟩, fun j => by simp, Or.inl ⟨hx.1, rfl⟩⟩
  · simp [Value.cells] at hcs
    obtain ⟨rfl, rfl, rfl⟩ := hcs
    simp only [Prod.mk.injEq] at hx
    have hz' : zs.length = cap := by simpa using hz
    have hlen : (zs.take len).length = len := by simp; omega
    refine ⟨zs.take len, hlen, ⟨some x, cap, by rw [hlen], by omega, hm, (fun h => by cases h), ?_⟩, fun j => ?_, Or.inr ⟨zs, hx.1, by omega⟩⟩
    · by_cases h0 : len = 0
      · left; subst h0; simp
      · right
        obtain ⟨b, off, spot⟩ := x
        have hspot : spot = none := by simpa [Addr.add] using World.cell?_spot (hcell 0 (by omega))
        subst hspot
        refine ⟨b, off, rfl, fun j hj => ?_⟩
        have := hcell j (by omega)
        rw [add_plain] at this
        rw [this]
        have hj' : j < len := by omega
        simp [List.getD, hj']
    · by_cases hj : j < (zs.take len).length
      · have hm : (zs.take len).getD j 0 ∈ zs := by
          simp only [List.getD, List.getElem?_eq_getElem hj, Option.getD_some]
          exact List.mem_of_mem_take (List.getElem_mem hj)
        exact wf_u8 (hwz _ hm)
      · simp [List.getD, List.getElem?_eq_none (Nat.le_of_not_lt hj)]

/- The reach: a slice of bytes that came in takes fewer than 2^47 bytes. -/
theorem reach_bytes {H : Type} {ts : List TypeId} {ds : List (DataW H)} (h : (DataW.weightsEach Tryz.prog ts ds).all (· ≤ reachBytes) = true) {j : Nat} {zs : List Int} {len : Nat}
    (ht : ts[j]? = some 22) (hd : ds[j]? = some (.slice (lits .u8 (zs.take len)) (lits .u8 (zs.drop len)))) (hl : len ≤ zs.length) : len ≤ 140737488351232 := by
  have := sized_slice h ht hd Tryz.underlying22
  rw [bytes5] at this
  simp only [lits, List.length_map, List.length_take, List.length_drop, reachBytes] at this
  omega
/- A string among the arguments, as bytes. -/
end Go.Proofs.YtohapnninjdlfaaGreatDoor

namespace Go.Proofs.YtohapnninjdlfaaGreatDoor
open Go.RowKit
set_option linter.unusedVariables false
set_option linter.unusedSimpArgs false

theorem grid_row {H : Type} {enc : TypeId × Value → H} {P : Program} {w : World} {base : Nat} {sp : Nat → Bool} {held : Bool} {fuel : Nat} {t e : TypeId} {n c : Nat} {cs : List Value} {rows : List (DataW H)} {p : List MemPlace}
    (ht : P.underlying t = some (.array n e)) (hce : P.cellsOf e = c) (h : DataW.trod enc P w base sp held fuel t cs = some (.agg rows, p)) (i : Nat) (d : DataW H) (hi : rows[i]? = some d) :
    ∃ m q, DataW.trod enc P w base sp held m e ((cs.drop (i * c)).take c) = some (d, q) := by
  cases fuel with
  | zero => simp [DataW.trod] at h
  | succ fuel =>
    simp only [DataW.trod, ht, hce] at h
    split at h
    · obtain ⟨xs, hm, hx⟩ := Option.map_eq_some_iff.1 h
      have hxs : xs.map (·.1) = rows := by
        have := congrArg Prod.fst hx
        simpa using this
      have hxl : xs.length = n := by simpa using Lib.mapM_length hm
      have hin : i < n := by
        have : i < rows.length := by
          rcases Nat.lt_or_ge i rows.length with h1 | h1
          · exact h1
          · rw [List.getElem?_eq_none h1] at hi; cases hi
        rw [← hxs] at this
        simpa [hxl] using this
      obtain ⟨b, hb, hf⟩ := Lib.mapM_at hm i i (by simp [hin])
      rw [← hxs, List.getElem?_map, hb] at hi
      simp only [Option.map_some, Option.some.injEq] at hi
      exact ⟨fuel, b.2, by rw [hf, ← hi]⟩
    · cases h
theorem grid_int {H : Type} {enc : TypeId × Value → H} {P : Program} {w : World} {base : Nat} {sp : Nat → Bool} {held : Bool} {fuel : Nat} {e : TypeId} {fs : Array Field} {cs : List Value} {d : List (DataW H)} {p : List MemPlace} {i c : Nat}
    (he : P.underlying e = some (.struct fs)) (h : DataW.trod enc P w base sp held fuel e ((cs.drop (i * c)).take c) = some (.agg d, p)) (j : Nat) (fld : Field) (hf : fs[j]? = some fld) (k : IntKind) (hk : P.underlying fld.type = some (.int k)) (hc : P.cellsOf fld.type = 1)
    (ho : fld.offset < c) (z : Int) (hz : d[j]? = some (.lit (.int k z))) : cs[i * c + fld.offset]? = some (.int k z) := by
  obtain ⟨xs, n, _, hx, _, _, hall⟩ := DataW.trod_struct he h
  have h1 := hall j fld hf
  have hd : d = xs.map (·.1) := by simpa using congrArg Prod.fst hx
  rw [hd, List.getElem?_map] at hz
  cases hb : xs[j]? with
  | none => rw [hb] at hz; cases hz
  | some b =>
    rw [hb] at hz h1
    simp only [Option.map_some, Option.some.injEq] at hz
    rw [hc] at h1
    obtain ⟨y, hy, hyx, _⟩ := DataW.trod_int hk h1
    have : y = z := by
      have e2 := congrArg Prod.fst hyx
      rw [hz] at e2
      simpa using e2.symm
    subst this
    have h2 := congrArg (·[0]?) hy
    simp only [List.getElem?_take, List.getElem?_drop, Nat.add_zero, List.getElem?_cons_zero, Nat.lt_one_iff, Nat.zero_lt_one, if_true, ho] at h2
    exact h2
theorem gCodes : Tryz.prog.globalNamed "ratchet/entry.codes" = some 1 := by kernel_rfl
theorem gCodesType : (Tryz.prog.globals[1]?).map (·.type) = some 183 := by kernel_rfl
theorem cellsRow : Tryz.prog.cellsOf 182 = 3 := by kernel_rfl
set_option maxRecDepth 100000 in
theorem tab_of {W : World} {rest : List (String × DataW Unit)} (h : laidMet Tryz.prog (("ratchet/entry.codes", Rows.laid_ratchet_entry_codes) :: rest) W) : Tab W := by
  obtain ⟨ps, ⟨g', t', cs, fuel, p, q, hg', ht', hvar, hd, _, _⟩, _⟩ := h
  obtain rfl := Option.some.inj (gCodes.symm.trans hg')
  obtain rfl := Option.some.inj (gCodesType.symm.trans ht')
  have hc := fun i => World.var?_cell gCodes hvar i
  obtain ⟨m0, q0, h0⟩ := grid_row Tryz.underlying183 cellsRow hd 0 _ rfl
  have c0 : cs.toList[0]? = some (.int .u8 127) := grid_int Tryz.underlying182 h0 0 _ rfl .u8 (by kernel_rfl) (by kernel_rfl) (by decide) 127 rfl
  have c1 : cs.toList[1]? = some (.int .i64 1) := grid_int Tryz.underlying182 h0 1 _ rfl .i64 (by kernel_rfl) (by kernel_rfl) (by decide) 1 rfl
  have c2 : cs.toList[2]? = some (.int .i64 1) := grid_int Tryz.underlying182 h0 2 _ rfl .i64 (by kernel_rfl) (by kernel_rfl) (by decide) 1 rfl
  obtain ⟨m1, q1, h1⟩ := grid_row Tryz.underlying183 cellsRow hd 1 _ rfl
  have c3 : cs.toList[3]? = some (.int .u8 126) := grid_int Tryz.underlying182 h1 0 _ rfl .u8 (by kernel_rfl) (by kernel_rfl) (by decide) 126 rfl
  have c4 : cs.toList[4]? = some (.int .i64 1) := grid_int Tryz.underlying182 h1 1 _ rfl .i64 (by kernel_rfl) (by kernel_rfl) (by decide) 1 rfl
  have c5 : cs.toList[5]? = some (.int .i64 2) := grid_int Tryz.underlying182 h1 2 _ rfl .i64 (by kernel_rfl) (by kernel_rfl) (by decide) 2 rfl
  obtain ⟨m2, q2, h2⟩ := grid_row Tryz.underlying183 cellsRow hd 2 _ rfl
  have c6 : cs.toList[6]? = some (.int .u8 125) := grid_int Tryz.underlying182 h2 0 _ rfl .u8 (by kernel_rfl) (by kernel_rfl) (by decide) 125 rfl
  have c7 : cs.toList[7]? = some (.int .i64 1) := grid_int Tryz.underlying182 h2 1 _ rfl .i64 (by kernel_rfl) (by kernel_rfl) (by decide) 1 rfl
  have c8 : cs.toList[8]? = some (.int .i64 3) := grid_int Tryz.underlying182 h2 2 _ rfl .i64 (by kernel_rfl) (by kernel_rfl) (by decide) 3 rfl
  obtain ⟨m3, q3, h3⟩ := grid_row Tryz.underlying183 cellsRow hd 3 _ rfl
  have c9 : cs.toList[9]? = some (.int .u8 124) := grid_int Tryz.underlying182 h3 0 _ rfl .u8 (by kernel_rfl) (by kernel_rfl) (by decide) 124 rfl
  have c10 : cs.toList[10]? = some (.int .i64 1) := grid_int Tryz.underlying182 h3 1 _ rfl .i64 (by kernel_rfl) (by kernel_rfl) (by decide) 1 rfl
  have c11 : cs.toList[11]? = some (.int .i64 4) := grid_int Tryz.underlying182 h3 2 _ rfl .i64 (by kernel_rfl) (by kernel_rfl) (by decide) 4 rfl
  obtain ⟨m4, q4, h4⟩ := grid_row Tryz.underlying183 cellsRow hd 4 _ rfl
  have c12 : cs.toList[12]? = some (.int .u8 123) := grid_int Tryz.underlying182 h4 0 _ rfl .u8 (by kernel_rfl) (by kernel_rfl) (by decide) 123 rfl
  have c13 : cs.toList[13]? = some (.int .i64 2) := grid_int Tryz.underlying182 h4 1 _ rfl .i64 (by kernel_rfl) (by kernel_rfl) (by decide) 2 rfl
  have c14 : cs.toList[14]? = some (.int .i64 0) := grid_int Tryz.underlying182 h4 2 _ rfl .i64 (by kernel_rfl) (by kernel_rfl) (by decide) 0 rfl
  obtain ⟨m5, q5, h5⟩ := grid_row Tryz.underlying183 cellsRow hd 5 _ rfl
  have c15 : cs.toList[15]? = some (.int .u8 120) := grid_int Tryz.underlying182 h5 0 _ rfl .u8 (by kernel_rfl) (by kernel_rfl) (by decide) 120 rfl
  have c16 : cs.toList[16]? = some (.int .i64 3) := grid_int Tryz.underlying182 h5 1 _ rfl .i64 (by kernel_rfl) (by kernel_rfl) (by decide) 3 rfl
  have c17 : cs.toList[17]? = some (.int .i64 6) := grid_int Tryz.underlying182 h5 2 _ rfl .i64 (by kernel_rfl) (by kernel_rfl) (by decide) 6 rfl
  obtain ⟨m6, q6, h6⟩ := grid_row Tryz.underlying183 cellsRow hd 6 _ rfl
  have c18 : cs.toList[18]? = some (.int .u8 119) := grid_int Tryz.underlying182 h6 0 _ rfl .u8 (by kernel_rfl) (by kernel_rfl) (by decide) 119 rfl
  have c19 : cs.toList[19]? = some (.int .i64 3) := grid_int Tryz.underlying182 h6 1 _ rfl .i64 (by kernel_rfl) (by kernel_rfl) (by decide) 3 rfl
  have c20 : cs.toList[20]? = some (.int .i64 7) := grid_int Tryz.underlying182 h6 2 _ rfl .i64 (by kernel_rfl) (by kernel_rfl) (by decide) 7 rfl
  obtain ⟨m7, q7, h7⟩ := grid_row Tryz.underlying183 cellsRow hd 7 _ rfl
  have c21 : cs.toList[21]? = some (.int .u8 116) := grid_int Tryz.underlying182 h7 0 _ rfl .u8 (by kernel_rfl) (by kernel_rfl) (by decide) 116 rfl
  have c22 : cs.toList[22]? = some (.int .i64 4) := grid_int Tryz.underlying182 h7 1 _ rfl .i64 (by kernel_rfl) (by kernel_rfl) (by decide) 4 rfl
  have c23 : cs.toList[23]? = some (.int .i64 (-12)) := grid_int Tryz.underlying182 h7 2 _ rfl .i64 (by kernel_rfl) (by kernel_rfl) (by decide) (-12) rfl
  obtain ⟨m8, q8, h8⟩ := grid_row Tryz.underlying183 cellsRow hd 8 _ rfl
  have c24 : cs.toList[24]? = some (.int .u8 115) := grid_int Tryz.underlying182 h8 0 _ rfl .u8 (by kernel_rfl) (by kernel_rfl) (by decide) 115 rfl
  have c25 : cs.toList[25]? = some (.int .i64 4) := grid_int Tryz.underlying182 h8 1 _ rfl .i64 (by kernel_rfl) (by kernel_rfl) (by decide) 4 rfl
  have c26 : cs.toList[26]? = some (.int .i64 (-2)) := grid_int Tryz.underlying182 h8 2 _ rfl .i64 (by kernel_rfl) (by kernel_rfl) (by decide) (-2) rfl
  obtain ⟨m9, q9, h9⟩ := grid_row Tryz.underlying183 cellsRow hd 9 _ rfl
  have c27 : cs.toList[27]? = some (.int .u8 114) := grid_int Tryz.underlying182 h9 0 _ rfl .u8 (by kernel_rfl) (by kernel_rfl) (by decide) 114 rfl
  have c28 : cs.toList[28]? = some (.int .i64 4) := grid_int Tryz.underlying182 h9 1 _ rfl .i64 (by kernel_rfl) (by kernel_rfl) (by decide) 4 rfl
  have c29 : cs.toList[29]? = some (.int .i64 (-4)) := grid_int Tryz.underlying182 h9 2 _ rfl .i64 (by kernel_rfl) (by kernel_rfl) (by decide) (-4) rfl
  obtain ⟨m10, q10, h10⟩ := grid_row Tryz.underlying183 cellsRow hd 10 _ rfl
  have c30 : cs.toList[30]? = some (.int .u8 113) := grid_int Tryz.underlying182 h10 0 _ rfl .u8 (by kernel_rfl) (by kernel_rfl) (by decide) 113 rfl
  have c31 : cs.toList[31]? = some (.int .i64 4) := grid_int Tryz.underlying182 h10 1 _ rfl .i64 (by kernel_rfl) (by kernel_rfl) (by decide) 4 rfl
  have c32 : cs.toList[32]? = some (.int .i64 (-10)) := grid_int Tryz.underlying182 h10 2 _ rfl .i64 (by kernel_rfl) (by kernel_rfl) (by decide) (-10) rfl
  obtain ⟨m11, q11, h11⟩ := grid_row Tryz.underlying183 cellsRow hd 11 _ rfl
  have c33 : cs.toList[33]? = some (.int .u8 112) := grid_int Tryz.underlying182 h11 0 _ rfl .u8 (by kernel_rfl) (by kernel_rfl) (by decide) 112 rfl
  have c34 : cs.toList[34]? = some (.int .i64 4) := grid_int Tryz.underlying182 h11 1 _ rfl .i64 (by kernel_rfl) (by kernel_rfl) (by decide) 4 rfl
  have c35 : cs.toList[35]? = some (.int .i64 (-1)) := grid_int Tryz.underlying182 h11 2 _ rfl .i64 (by kernel_rfl) (by kernel_rfl) (by decide) (-1) rfl
  obtain ⟨m12, q12, h12⟩ := grid_row Tryz.underlying183 cellsRow hd 12 _ rfl
  have c36 : cs.toList[36]? = some (.int .u8 111) := grid_int Tryz.underlying182 h12 0 _ rfl .u8 (by kernel_rfl) (by kernel_rfl) (by decide) 111 rfl
  have c37 : cs.toList[37]? = some (.int .i64 4) := grid_int Tryz.underlying182 h12 1 _ rfl .i64 (by kernel_rfl) (by kernel_rfl) (by decide) 4 rfl
  have c38 : cs.toList[38]? = some (.int .i64 (-3)) := grid_int Tryz.underlying182 h12 2 _ rfl .i64 (by kernel_rfl) (by kernel_rfl) (by decide) (-3) rfl
  obtain ⟨m13, q13, h13⟩ := grid_row Tryz.underlying183 cellsRow hd 13 _ rfl
  have c39 : cs.toList[39]? = some (.int .u8 110) := grid_int Tryz.underlying182 h13 0 _ rfl .u8 (by kernel_rfl) (by kernel_rfl) (by decide) 110 rfl
  have c40 : cs.toList[40]? = some (.int .i64 4) := grid_int Tryz.underlying182 h13 1 _ rfl .i64 (by kernel_rfl) (by kernel_rfl) (by decide) 4 rfl
  have c41 : cs.toList[41]? = some (.int .i64 (-5)) := grid_int Tryz.underlying182 h13 2 _ rfl .i64 (by kernel_rfl) (by kernel_rfl) (by decide) (-5) rfl
  obtain ⟨m14, q14, h14⟩ := grid_row Tryz.underlying183 cellsRow hd 14 _ rfl
  have c42 : cs.toList[42]? = some (.int .u8 109) := grid_int Tryz.underlying182 h14 0 _ rfl .u8 (by kernel_rfl) (by kernel_rfl) (by decide) 109 rfl
  have c43 : cs.toList[43]? = some (.int .i64 4) := grid_int Tryz.underlying182 h14 1 _ rfl .i64 (by kernel_rfl) (by kernel_rfl) (by decide) 4 rfl
  have c44 : cs.toList[44]? = some (.int .i64 (-6)) := grid_int Tryz.underlying182 h14 2 _ rfl .i64 (by kernel_rfl) (by kernel_rfl) (by decide) (-6) rfl
  obtain ⟨m15, q15, h15⟩ := grid_row Tryz.underlying183 cellsRow hd 15 _ rfl
  have c45 : cs.toList[45]? = some (.int .u8 108) := grid_int Tryz.underlying182 h15 0 _ rfl .u8 (by kernel_rfl) (by kernel_rfl) (by decide) 108 rfl
  have c46 : cs.toList[46]? = some (.int .i64 4) := grid_int Tryz.underlying182 h15 1 _ rfl .i64 (by kernel_rfl) (by kernel_rfl) (by decide) 4 rfl
  have c47 : cs.toList[47]? = some (.int .i64 (-7)) := grid_int Tryz.underlying182 h15 2 _ rfl .i64 (by kernel_rfl) (by kernel_rfl) (by decide) (-7) rfl
  obtain ⟨m16, q16, h16⟩ := grid_row Tryz.underlying183 cellsRow hd 16 _ rfl
  have c48 : cs.toList[48]? = some (.int .u8 107) := grid_int Tryz.underlying182 h16 0 _ rfl .u8 (by kernel_rfl) (by kernel_rfl) (by decide) 107 rfl
  have c49 : cs.toList[49]? = some (.int .i64 4) := grid_int Tryz.underlying182 h16 1 _ rfl .i64 (by kernel_rfl) (by kernel_rfl) (by decide) 4 rfl
  have c50 : cs.toList[50]? = some (.int .i64 (-8)) := grid_int Tryz.underlying182 h16 2 _ rfl .i64 (by kernel_rfl) (by kernel_rfl) (by decide) (-8) rfl
  obtain ⟨m17, q17, h17⟩ := grid_row Tryz.underlying183 cellsRow hd 17 _ rfl
  have c51 : cs.toList[51]? = some (.int .u8 106) := grid_int Tryz.underlying182 h17 0 _ rfl .u8 (by kernel_rfl) (by kernel_rfl) (by decide) 106 rfl
  have c52 : cs.toList[52]? = some (.int .i64 4) := grid_int Tryz.underlying182 h17 1 _ rfl .i64 (by kernel_rfl) (by kernel_rfl) (by decide) 4 rfl
  have c53 : cs.toList[53]? = some (.int .i64 (-9)) := grid_int Tryz.underlying182 h17 2 _ rfl .i64 (by kernel_rfl) (by kernel_rfl) (by decide) (-9) rfl
  obtain ⟨m18, q18, h18⟩ := grid_row Tryz.underlying183 cellsRow hd 18 _ rfl
  have c54 : cs.toList[54]? = some (.int .u8 105) := grid_int Tryz.underlying182 h18 0 _ rfl .u8 (by kernel_rfl) (by kernel_rfl) (by decide) 105 rfl
  have c55 : cs.toList[55]? = some (.int .i64 4) := grid_int Tryz.underlying182 h18 1 _ rfl .i64 (by kernel_rfl) (by kernel_rfl) (by decide) 4 rfl
  have c56 : cs.toList[56]? = some (.int .i64 (-11)) := grid_int Tryz.underlying182 h18 2 _ rfl .i64 (by kernel_rfl) (by kernel_rfl) (by decide) (-11) rfl
  obtain ⟨m19, q19, h19⟩ := grid_row Tryz.underlying183 cellsRow hd 19 _ rfl
  have c57 : cs.toList[57]? = some (.int .u8 100) := grid_int Tryz.underlying182 h19 0 _ rfl .u8 (by kernel_rfl) (by kernel_rfl) (by decide) 100 rfl
  have c58 : cs.toList[58]? = some (.int .i64 5) := grid_int Tryz.underlying182 h19 1 _ rfl .i64 (by kernel_rfl) (by kernel_rfl) (by decide) 5 rfl
  have c59 : cs.toList[59]? = some (.int .i64 0) := grid_int Tryz.underlying182 h19 2 _ rfl .i64 (by kernel_rfl) (by kernel_rfl) (by decide) 0 rfl
  obtain ⟨m20, q20, h20⟩ := grid_row Tryz.underlying183 cellsRow hd 20 _ rfl
  have c60 : cs.toList[60]? = some (.int .u8 99) := grid_int Tryz.underlying182 h20 0 _ rfl .u8 (by kernel_rfl) (by kernel_rfl) (by decide) 99 rfl
  have c61 : cs.toList[61]? = some (.int .i64 5) := grid_int Tryz.underlying182 h20 1 _ rfl .i64 (by kernel_rfl) (by kernel_rfl) (by decide) 5 rfl
  have c62 : cs.toList[62]? = some (.int .i64 1) := grid_int Tryz.underlying182 h20 2 _ rfl .i64 (by kernel_rfl) (by kernel_rfl) (by decide) 1 rfl
  obtain ⟨m21, q21, h21⟩ := grid_row Tryz.underlying183 cellsRow hd 21 _ rfl
  have c63 : cs.toList[63]? = some (.int .u8 96) := grid_int Tryz.underlying182 h21 0 _ rfl .u8 (by kernel_rfl) (by kernel_rfl) (by decide) 96 rfl
  have c64 : cs.toList[64]? = some (.int .i64 6) := grid_int Tryz.underlying182 h21 1 _ rfl .i64 (by kernel_rfl) (by kernel_rfl) (by decide) 6 rfl
  have c65 : cs.toList[65]? = some (.int .i64 1) := grid_int Tryz.underlying182 h21 2 _ rfl .i64 (by kernel_rfl) (by kernel_rfl) (by decide) 1 rfl
  obtain ⟨m22, q22, h22⟩ := grid_row Tryz.underlying183 cellsRow hd 22 _ rfl
  have c66 : cs.toList[66]? = some (.int .u8 95) := grid_int Tryz.underlying182 h22 0 _ rfl .u8 (by kernel_rfl) (by kernel_rfl) (by decide) 95 rfl
  have c67 : cs.toList[67]? = some (.int .i64 6) := grid_int Tryz.underlying182 h22 1 _ rfl .i64 (by kernel_rfl) (by kernel_rfl) (by decide) 6 rfl
  have c68 : cs.toList[68]? = some (.int .i64 2) := grid_int Tryz.underlying182 h22 2 _ rfl .i64 (by kernel_rfl) (by kernel_rfl) (by decide) 2 rfl
  obtain ⟨m23, q23, h23⟩ := grid_row Tryz.underlying183 cellsRow hd 23 _ rfl
  have c69 : cs.toList[69]? = some (.int .u8 94) := grid_int Tryz.underlying182 h23 0 _ rfl .u8 (by kernel_rfl) (by kernel_rfl) (by decide) 94 rfl
  have c70 : cs.toList[70]? = some (.int .i64 6) := grid_int Tryz.underlying182 h23 1 _ rfl .i64 (by kernel_rfl) (by kernel_rfl) (by decide) 6 rfl
  have c71 : cs.toList[71]? = some (.int .i64 3) := grid_int Tryz.underlying182 h23 2 _ rfl .i64 (by kernel_rfl) (by kernel_rfl) (by decide) 3 rfl
  intro j v hv
  match j, hv with
  | 0, hv => exact (hc 0).trans (by rw [← Array.getElem?_toList]; exact c0.trans hv)
  | 1, hv => exact (hc 1).trans (by rw [← Array.getElem?_toList]; exact c1.trans hv)
  | 2, hv => exact (hc 2).trans (by rw [← Array.getElem?_toList]; exact c2.trans hv)
  | 3, hv => exact (hc 3).trans (by rw [← Array.getElem?_toList]; exact c3.trans hv)
  | 4, hv => exact (hc 4).trans (by rw [← Array.getElem?_toList]; exact c4.trans hv)
  | 5, hv => exact (hc 5).trans (by rw [← Array.getElem?_toList]; exact c5.trans hv)
  | 6, hv => exact (hc 6).trans (by rw [← Array.getElem?_toList]; exact c6.trans hv)
  | 7, hv => exact (hc 7).trans (by rw [← Array.getElem?_toList]; exact c7.trans hv)
  | 8, hv => exact (hc 8).trans (by rw [← Array.getElem?_toList]; exact c8.trans hv)
  | 9, hv => exact (hc 9).trans (by rw [← Array.getElem?_toList]; exact c9.trans hv)
  | 10, hv => exact (hc 10).trans (by rw [← Array.getElem?_toList]; exact c10.trans hv)
  | 11, hv => exact (hc 11).trans (by rw [← Array.getElem?_toList]; exact c11.trans hv)
  | 12, hv => exact (hc 12).trans (by rw [← Array.getElem?_toList]; exact c12.trans hv)
  | 13, hv => exact (hc 13).trans (by rw [← Array.getElem?_toList]; exact c13.trans hv)
  | 14, hv => exact (hc 14).trans (by rw [← Array.getElem?_toList]; exact c14.trans hv)
  | 15, hv => exact (hc 15).trans (by rw [← Array.getElem?_toList]; exact c15.trans hv)
  | 16, hv => exact (hc 16).trans (by rw [← Array.getElem?_toList]; exact c16.trans hv)
  | 17, hv => exact (hc 17).trans (by rw [← Array.getElem?_toList]; exact c17.trans hv)
  | 18, hv => exact (hc 18).trans (by rw [← Array.getElem?_toList]; exact c18.trans hv)
  | 19, hv => exact (hc 19).trans (by rw [← Array.getElem?_toList]; exact c19.trans hv)
  | 20, hv => exact (hc 20).trans (by rw [← Array.getElem?_toList]; exact c20.trans hv)
  | 21, hv => exact (hc 21).trans (by rw [← Array.getElem?_toList]; exact c21.trans hv)
  | 22, hv => exact (hc 22).trans (by rw [← Array.getElem?_toList]; exact c22.trans hv)
  | 23, hv => exact (hc 23).trans (by rw [← Array.getElem?_toList]; exact c23.trans hv)
  | 24, hv => exact (hc 24).trans (by rw [← Array.getElem?_toList]; exact c24.trans hv)
  | 25, hv => exact (hc 25).trans (by rw [← Array.getElem?_toList]; exact c25.trans hv)
  | 26, hv => exact (hc 26).trans (by rw [← Array.getElem?_toList]; exact c26.trans hv)
  | 27, hv => exact (hc 27).trans (by rw [← Array.getElem?_toList]; exact c27.trans hv)
  | 28, hv => exact (hc 28).trans (by rw [← Array.getElem?_toList]; exact c28.trans hv)
  | 29, hv => exact (hc 29).trans (by rw [← Array.getElem?_toList]; exact c29.trans hv)
  | 30, hv => exact (hc 30).trans (by rw [← Array.getElem?_toList]; exact c30.trans hv)
  | 31, hv => exact (hc 31).trans (by rw [← Array.getElem?_toList]; exact c31.trans hv)
  | 32, hv => exact (hc 32).trans (by rw [← Array.getElem?_toList]; exact c32.trans hv)
  | 33, hv => exact (hc 33).trans (by rw [← Array.getElem?_toList]; exact c33.trans hv)
  | 34, hv => exact (hc 34).trans (by rw [← Array.getElem?_toList]; exact c34.trans hv)
  | 35, hv => exact (hc 35).trans (by rw [← Array.getElem?_toList]; exact c35.trans hv)
  | 36, hv => exact (hc 36).trans (by rw [← Array.getElem?_toList]; exact c36.trans hv)
  | 37, hv => exact (hc 37).trans (by rw [← Array.getElem?_toList]; exact c37.trans hv)
  | 38, hv => exact (hc 38).trans (by rw [← Array.getElem?_toList]; exact c38.trans hv)
  | 39, hv => exact (hc 39).trans (by rw [← Array.getElem?_toList]; exact c39.trans hv)
  | 40, hv => exact (hc 40).trans (by rw [← Array.getElem?_toList]; exact c40.trans hv)
  | 41, hv => exact (hc 41).trans (by rw [← Array.getElem?_toList]; exact c41.trans hv)
  | 42, hv => exact (hc 42).trans (by rw [← Array.getElem?_toList]; exact c42.trans hv)
  | 43, hv => exact (hc 43).trans (by rw [← Array.getElem?_toList]; exact c43.trans hv)
  | 44, hv => exact (hc 44).trans (by rw [← Array.getElem?_toList]; exact c44.trans hv)
  | 45, hv => exact (hc 45).trans (by rw [← Array.getElem?_toList]; exact c45.trans hv)
  | 46, hv => exact (hc 46).trans (by rw [← Array.getElem?_toList]; exact c46.trans hv)
  | 47, hv => exact (hc 47).trans (by rw [← Array.getElem?_toList]; exact c47.trans hv)
  | 48, hv => exact (hc 48).trans (by rw [← Array.getElem?_toList]; exact c48.trans hv)
  | 49, hv => exact (hc 49).trans (by rw [← Array.getElem?_toList]; exact c49.trans hv)
  | 50, hv => exact (hc 50).trans (by rw [← Array.getElem?_toList]; exact c50.trans hv)
  | 51, hv => exact (hc 51).trans (by rw [← Array.getElem?_toList]; exact c51.trans hv)
  | 52, hv => exact (hc 52).trans (by rw [← Array.getElem?_toList]; exact c52.trans hv)
  | 53, hv => exact (hc 53).trans (by rw [← Array.getElem?_toList]; exact c53.trans hv)
  | 54, hv => exact (hc 54).trans (by rw [← Array.getElem?_toList]; exact c54.trans hv)
  | 55, hv => exact (hc 55).trans (by rw [← Array.getElem?_toList]; exact c55.trans hv)
  | 56, hv => exact (hc 56).trans (by rw [← Array.getElem?_toList]; exact c56.trans hv)
  | 57, hv => exact (hc 57).trans (by rw [← Array.getElem?_toList]; exact c57.trans hv)
  | 58, hv => exact (hc 58).trans (by rw [← Array.getElem?_toList]; exact c58.trans hv)
  | 59, hv => exact (hc 59).trans (by rw [← Array.getElem?_toList]; exact c59.trans hv)
  | 60, hv => exact (hc 60).trans (by rw [← Array.getElem?_toList]; exact c60.trans hv)
  | 61, hv => exact (hc 61).trans (by rw [← Array.getElem?_toList]; exact c61.trans hv)
  | 62, hv => exact (hc 62).trans (by rw [← Array.getElem?_toList]; exact c62.trans hv)
  | 63, hv => exact (hc 63).trans (by rw [← Array.getElem?_toList]; exact c63.trans hv)
  | 64, hv => exact (hc 64).trans (by rw [← Array.getElem?_toList]; exact c64.trans hv)
  | 65, hv => exact (hc 65).trans (by rw [← Array.getElem?_toList]; exact c65.trans hv)
  | 66, hv => exact (hc 66).trans (by rw [← Array.getElem?_toList]; exact c66.trans hv)
  | 67, hv => exact (hc 67).trans (by rw [← Array.getElem?_toList]; exact c67.trans hv)
  | 68, hv => exact (hc 68).trans (by rw [← Array.getElem?_toList]; exact c68.trans hv)
  | 69, hv => exact (hc 69).trans (by rw [← Array.getElem?_toList]; exact c69.trans hv)
  | 70, hv => exact (hc 70).trans (by rw [← Array.getElem?_toList]; exact c70.trans hv)
  | 71, hv => exact (hc 71).trans (by rw [← Array.getElem?_toList]; exact c71.trans hv)
  | n + 72, hv => exact absurd hv (by simp [CTB])
end Go.Proofs.YtohapnninjdlfaaGreatDoor

namespace Go.Proofs.YtohapnninjdlfaaGreatDoor
open Go.ChangeShapes Go.WideShapes Go.ChangeAt Go.RowKit
set_option linter.unusedVariables false
set_option linter.unusedSimpArgs false

theorem gFF : Tryz.prog.globalNamed "ratchet/instr.formFields" = some 0 := by kernel_rfl
theorem gFFType : (Tryz.prog.globals[0]?).map (·.type) = some 64 := by kernel_rfl
theorem cellsFF : Tryz.prog.cellsOf 63 = 1 := by kernel_rfl
theorem lits_inj {k : IntKind} {H : Type} : ∀ {a b : List Int}, (lits k a : List (DataW H)) = lits k b → a = b
  | [], [], _ => rfl
  | [], y :: b, h => by simp [lits] at h
  | x :: a, [], h => by simp [lits] at h
  | x :: a, y :: b, h => by
    simp only [lits, List.map_cons, List.cons.injEq] at h
    obtain ⟨h1, h2⟩ := h
    have e : x = y := by
      injection h1 with h1
      injection h1
    rw [e, lits_inj h2]
theorem ff_row {H : Type} {enc : TypeId × Value → H} {W : World} {base : Nat} {sp : Nat → Bool} {held : Bool} {m : Nat} {cs : List Value} {r : List Int} {q : List MemPlace}
    (h : DataW.trod enc Tryz.prog W base sp held m 63 cs = some (.slice (lits .i64 r) [], q)) :
    ∃ ad cap, cs = [.slice (some ad) r.length cap] ∧ r.length ≤ cap ∧ cap ≤ maxLen ∧ (r = [] ∨ ∃ bb off, ad = ⟨bb, off, none⟩ ∧ ∀ (j : Nat) (x : Int), r[j]? = some x → W.cell? ⟨bb, off + j, none⟩ = some (.int .i64 x)) := by
  rcases open_ints Tryz.underlying63 (by kernel_rfl : Tryz.prog.underlying 67 = some (.int .i64)) (by kernel_rfl) h with ⟨_, hx⟩ | ⟨a, len, cap, zs, hcs, _, hl, hm, hz, hx, hcell, _⟩
  · cases hx
  · simp only [Prod.mk.injEq] at hx
    obtain ⟨hx1, _⟩ := hx
    injection hx1 with e1 e2
    have hr : r = zs.take len := lits_inj e1
    have hd : zs.drop len = [] := (lits_inj (k := .i64) (b := []) (H := H) (a := zs.drop len) (by rw [← e2]; rfl))
    have hzl : len ≤ zs.length := by split at hz <;> omega
    have hlen : r.length = len := by rw [hr]; simp; omega
    have hzs : zs = r := by
      rw [hr]
      have := List.take_append_drop len zs
      rw [hd, List.append_nil] at this
      exact this.symm
    refine ⟨a, cap, by rw [hlen]; exact hcs, by omega, hm, ?_⟩
    by_cases h0 : r = []
    · exact Or.inl h0
    · right
      subst hzs
      have hpos : 0 < zs.length := by
        rcases Nat.eq_zero_or_pos zs.length with hh | hh
        · exact absurd (List.eq_nil_of_length_eq_zero hh) h0
        · exact hh
      obtain ⟨b, off, spot⟩ := a
      have hspot : spot = none := by simpa [Addr.add] using World.cell?_spot (hcell 0 hpos)
      subst hspot
      refine ⟨b, off, rfl, fun j x hj => ?_⟩
      have hjl : j < zs.length := (List.getElem?_eq_some_iff.1 hj).1
      have := hcell j hjl
      rw [show (Addr.add ⟨b, off, none⟩ j) = ⟨b, off + j, none⟩ by simp [Addr.add]] at this
      rw [this]
      simp [List.getD, hj]
theorem ff_row2 {H : Type} {enc : TypeId × Value → H} {W : World} {base : Nat} {sp : Nat → Bool} {held : Bool} {cs : List Value} {r : List Int}
    (h : ∃ m q, DataW.trod enc Tryz.prog W base sp held m 63 cs = some (.slice (lits .i64 r) [], q)) :
    ∃ ad cap, cs = [.slice (some ad) r.length cap] ∧ r.length ≤ cap ∧ cap ≤ maxLen ∧ (r = [] ∨ ∃ bb off, ad = ⟨bb, off, none⟩ ∧ ∀ (j : Nat) (x : Int), r[j]? = some x → W.cell? ⟨bb, off + j, none⟩ = some (.int .i64 x)) := by
  obtain ⟨m, q, h⟩ := h
  exact ff_row h
theorem tabF_of {W : World} {rest : List (String × DataW Unit)} (h : laidMet Tryz.prog (("ratchet/instr.formFields", Rows.laid_ratchet_instr_formFields) :: rest) W) : TabF W := by
  obtain ⟨ps, ⟨g', t', cs, fuel, p, q, hg', ht', hvar, hd, _, _⟩, _⟩ := h
  obtain rfl := Option.some.inj (gFF.symm.trans hg')
  obtain rfl := Option.some.inj (gFFType.symm.trans ht')
  have hc := fun i => World.var?_cell gFF hvar i
  have key : ∀ (i : Nat) (r : List Int), (∃ ad cap, (cs.toList.drop (i * 1)).take 1 = [.slice (some ad) r.length cap] ∧ r.length ≤ cap ∧ cap ≤ maxLen ∧ (r = [] ∨ ∃ bb off, ad = ⟨bb, off, none⟩ ∧ ∀ (j : Nat) (x : Int), r[j]? = some x → W.cell? ⟨bb, off + j, none⟩ = some (.int .i64 x))) → ∃ ad cap, W.cell? ⟨0, i, none⟩ = some (.slice (some ad) r.length cap) ∧ r.length ≤ cap ∧ cap ≤ maxLen ∧ (r = [] ∨ ∃ bb off, ad = ⟨bb, off, none⟩ ∧ ∀ (j : Nat) (x : Int), r[j]? = some x → W.cell? ⟨bb, off + j, none⟩ = some (.int .i64 x)) := by
    rintro i r ⟨ad, cap, hcs, h1, h2, h3⟩
    refine ⟨ad, cap, ?_, h1, h2, h3⟩
    rw [hc i, ← Array.getElem?_toList]
    have h4 := congrArg (·[0]?) hcs
    simpa using h4
  have k0 := key 0 [] (ff_row2 (grid_row Tryz.underlying64 cellsFF hd 0 _ rfl))
  have k1 := key 1 [] (ff_row2 (grid_row Tryz.underlying64 cellsFF hd 1 _ rfl))
  have k2 := key 2 [0] (ff_row2 (grid_row Tryz.underlying64 cellsFF hd 2 _ rfl))
  have k3 := key 3 [0, 1] (ff_row2 (grid_row Tryz.underlying64 cellsFF hd 3 _ rfl))
  have k4 := key 4 [2] (ff_row2 (grid_row Tryz.underlying64 cellsFF hd 4 _ rfl))
  have k5 := key 5 [2, 3] (ff_row2 (grid_row Tryz.underlying64 cellsFF hd 5 _ rfl))
  have k6 := key 6 [4, 2] (ff_row2 (grid_row Tryz.underlying64 cellsFF hd 6 _ rfl))
  have k7 := key 7 [5] (ff_row2 (grid_row Tryz.underlying64 cellsFF hd 7 _ rfl))
  have k8 := key 8 [6] (ff_row2 (grid_row Tryz.underlying64 cellsFF hd 8 _ rfl))
  have k9 := key 9 [7] (ff_row2 (grid_row Tryz.underlying64 cellsFF hd 9 _ rfl))
  have k10 := key 10 [8] (ff_row2 (grid_row Tryz.underlying64 cellsFF hd 10 _ rfl))
  have k11 := key 11 [9] (ff_row2 (grid_row Tryz.underlying64 cellsFF hd 11 _ rfl))
  have k12 := key 12 [10] (ff_row2 (grid_row Tryz.underlying64 cellsFF hd 12 _ rfl))
  have k13 := key 13 [11] (ff_row2 (grid_row Tryz.underlying64 cellsFF hd 13 _ rfl))
  have k14 := key 14 [12] (ff_row2 (grid_row Tryz.underlying64 cellsFF hd 14 _ rfl))
  have k15 := key 15 [13] (ff_row2 (grid_row Tryz.underlying64 cellsFF hd 15 _ rfl))
  have k16 := key 16 [2, 14] (ff_row2 (grid_row Tryz.underlying64 cellsFF hd 16 _ rfl))
  intro i r hi
  match i, hi with
  | 0, hi => simp [ffs] at hi; subst hi; exact k0
  | 1, hi => simp [ffs] at hi; subst hi; exact k1
  | 2, hi => simp [ffs] at hi; subst hi; exact k2
  | 3, hi => simp [ffs] at hi; subst hi; exact k3
  | 4, hi => simp [ffs] at hi; subst hi; exact k4
  | 5, hi => simp [ffs] at hi; subst hi; exact k5
  | 6, hi => simp [ffs] at hi; subst hi; exact k6
  | 7, hi => simp [ffs] at hi; subst hi; exact k7
  | 8, hi => simp [ffs] at hi; subst hi; exact k8
  | 9, hi => simp [ffs] at hi; subst hi; exact k9
  | 10, hi => simp [ffs] at hi; subst hi; exact k10
  | 11, hi => simp [ffs] at hi; subst hi; exact k11
  | 12, hi => simp [ffs] at hi; subst hi; exact k12
  | 13, hi => simp [ffs] at hi; subst hi; exact k13
  | 14, hi => simp [ffs] at hi; subst hi; exact k14
  | 15, hi => simp [ffs] at hi; subst hi; exact k15
  | 16, hi => simp [ffs] at hi; subst hi; exact k16
  | n + 17, hi => simp [ffs] at hi
end Go.Proofs.YtohapnninjdlfaaGreatDoor

namespace Go.Proofs.YtohapnninjdlfaaGreatDoor.instrReads
open Go.ChangeShapes Go.WideShapes Go.ChangeAt Go.RowKit
set_option linter.unusedVariables false
set_option linter.unusedSimpArgs false

theorem own : ownKnob Tryz.prog.godebug = none := by kernel_rfl
theorem laidOut : laidOutB Tryz.prog = true := by kernel_rfl
set_option maxRecDepth 100000 in
theorem contract (H : Type) (enc : TypeId × Value → H) (W : World) (base : Nat) (args : Array Value) (ds gs : List (DataW H)) (before : List MemPlace)
    (hval : ∀ (j : Nat) t v, Tryz.f3.params[j]? = some t → args[j]? = some v → Value.okWide Tryz.prog W .any base t v)
    (hW : DataW.Whole enc Tryz.prog Tryz.f3.params.toList Rows.instrReadsSpec.vars false W args.toList ds gs before) (hsz : (DataW.weightsEach Tryz.prog (Tryz.f3.params.toList ++ (OpenSpec.ofChange Rows.instrReadsSpec).bare.plain.varTypes Tryz.prog) (ds ++ gs)).all (· ≤ reachBytes) = true) (hL : laidMetH Tryz.prog Rows.instrReadsRow.laid W) :
    Calls Tryz.prog 3 args W fun e W' => ∃ v, e = .returned v ∧ Rows.instrReadsSpec.post enc Tryz.prog Tryz.f3 false true false false W args v W' := by
  have hW' := hW
  have hlt : ∀ x ∈ before, x.block < W.heap.size := fun x hx => by simpa using hW.lt x hx
  obtain ⟨p, q, hA0, hV, rfl, hfz, hnd⟩ := hW
  have hA : DataW.TrodAll enc Tryz.prog W 0 (fun _ => true) true Tryz.f3.params.toList args.toList ds p := hA0
  rw [Tryz.params3] at hA hval hsz
  obtain ⟨v0, vs0, d0, ds0, p0, q0, hargs, rfl, rfl, h0, r0⟩ := trodAll_cons hA
  obtain ⟨v1, vs1, d1, ds1, p1, q1, rfl, rfl, rfl, h1, r1⟩ := trodAll_cons r0
  obtain ⟨rfl, rfl, rfl⟩ := trodAll_nil r1
  obtain rfl : args = #[v0, v1] := by cases args; simp_all
  obtain ⟨rfl, rfl⟩ := trodVars_none hV
  obtain ⟨a0, len0, cap0, rfl⟩ := okWide_slice Tryz.underlying22 (hval 0 22 v0 rfl rfl)
  have hk0 := h0
  obtain ⟨l0, hl0, hR0, hB0, hd0⟩ := Go.Proofs.YtohapnninjdlfaaGreatDoor.open_bytes h0
  have hs0 : l0.length ≤ 140737488351232 := by
    rcases hd0 with ⟨_, h⟩ | ⟨zs, hz, hle⟩
    · omega
    · rw [hl0]; exact Go.Proofs.YtohapnninjdlfaaGreatDoor.reach_bytes (j := 0) hsz rfl (by rw [hz]; rfl) hle
  obtain ⟨n1, rfl, rfl, rfl, wf1⟩ := open_int Tryz.underlying3 (hval 1 3 v1 rfl rfl) h1
  have b1 := bounds_i64 wf1
  skip
  have hT : Go.Proofs.YtohapnninjdlfaaGreatDoor.Tab W := Go.Proofs.YtohapnninjdlfaaGreatDoor.tab_of hL
  have hF : Go.Proofs.YtohapnninjdlfaaGreatDoor.TabF W := Go.Proofs.YtohapnninjdlfaaGreatDoor.tabF_of hL.tail
  rw [← hl0] at hR0
  have walk : Calls Tryz.prog 3 #[.slice a0 len0 cap0, .int .i64 n1] W fun e w' => e = .returned (.bool true) ∧ Go.Proofs.YtohapnninjdlfaaGreatDoor.Grew W w' := by
    rw [← hl0]
    exact Go.Proofs.YtohapnninjdlfaaGreatDoor.instrReads_any _ l0 n1 W hR0 hB0 hs0 hT hF
  clear hA0 hL hsz
  refine walk.mono fun e W' ⟨he, bel⟩ => ?_
  subst he
  exact ⟨_, rfl, _, _, _, [], _, [], hW', trodAll_mk1 (shut_bool Tryz.underlying4 _), (trodAll_cons_mk (Below.trod laidOut (by kernel_rfl) (of_decide_eq_true (by kernel_rfl)) hk0 bel.1 (fun x hx => hlt x (by simp [hx]))) (trodAll_cons_mk (shut_int Tryz.underlying3 wf1) trodAll_mk0)), rfl, bel.1.frame _, fun h => by cases h⟩
theorem laid_met (os : Os) : laidMet Tryz.prog Rows.instrReadsRow.laid (({ World.holding Tryz.prog os ⟨#[.cells #[] 67, .cells #[] 67, .cells #[.int .i64 0] 67, .cells #[.int .i64 0, .int .i64 1] 67, .cells #[.int .i64 2] 67, .cells #[.int .i64 2, .int .i64 3] 67, .cells #[.int .i64 4, .int .i64 2] 67, .cells #[.int .i64 5] 67, .cells #[.int .i64 6] 67, .cells #[.int .i64 7] 67, .cells #[.int .i64 8] 67, .cells #[.int .i64 9] 67, .cells #[.int .i64 10] 67, .cells #[.int .i64 11] 67, .cells #[.int .i64 12] 67, .cells #[.int .i64 13] 67, .cells #[.int .i64 2, .int .i64 14] 67], #[], []⟩ with heap := (((World.holding Tryz.prog os ⟨#[.cells #[] 67, .cells #[] 67, .cells #[.int .i64 0] 67, .cells #[.int .i64 0, .int .i64 1] 67, .cells #[.int .i64 2] 67, .cells #[.int .i64 2, .int .i64 3] 67, .cells #[.int .i64 4, .int .i64 2] 67, .cells #[.int .i64 5] 67, .cells #[.int .i64 6] 67, .cells #[.int .i64 7] 67, .cells #[.int .i64 8] 67, .cells #[.int .i64 9] 67, .cells #[.int .i64 10] 67, .cells #[.int .i64 11] 67, .cells #[.int .i64 12] 67, .cells #[.int .i64 13] 67, .cells #[.int .i64 2, .int .i64 14] 67], #[], []⟩).heap.modify 1 fun
      | .cells _ t frozen => .cells (List.toArray (.int .u8 127 :: .int .i64 1 :: .int .i64 1 :: .int .u8 126 :: .int .i64 1 :: .int .i64 2 :: .int .u8 125 :: .int .i64 1 :: .int .i64 3 :: .int .u8 124 :: .int .i64 1 :: .int .i64 4 :: .int .u8 123 :: .int .i64 2 :: .int .i64 0 :: .int .u8 120 :: .int .i64 3 :: .int .i64 6 :: .int .u8 119 :: .int .i64 3 :: .int .i64 7 :: .int .u8 116 :: .int .i64 4 :: .int .i64 (-12) :: .int .u8 115 :: .int .i64 4 :: .int .i64 (-2) :: .int .u8 114 :: .int .i64 4 :: .int .i64 (-4) :: .int .u8 113 :: .int .i64 4 :: .int .i64 (-10) :: .int .u8 112 :: .int .i64 4 :: .int .i64 (-1) :: .int .u8 111 :: .int .i64 4 :: .int .i64 (-3) :: .int .u8 110 :: .int .i64 4 :: .int .i64 (-5) :: .int .u8 109 :: .int .i64 4 :: .int .i64 (-6) :: .int .u8 108 :: .int .i64 4 :: .int .i64 (-7) :: .int .u8 107 :: .int .i64 4 :: .int .i64 (-8) :: .int .u8 106 :: .int .i64 4 :: .int .i64 (-9) :: .int .u8 105 :: .int .i64 4 :: .int .i64 (-11) :: .int .u8 100 :: .int .i64 5 :: .int .i64 0 :: .int .u8 99 :: .int .i64 5 :: .int .i64 1 :: .int .u8 96 :: .int .i64 6 :: .int .i64 1 :: .int .u8 95 :: .int .i64 6 :: .int .i64 2 :: .int .u8 94 :: .int .i64 6 :: .int .i64 3 :: [])) t frozen
      | o => o).modify 0 fun
      | .cells _ t frozen => .cells (List.toArray (.slice (some ⟨7, 0, none⟩) 0 0 :: .slice (some ⟨8, 0, none⟩) 0 0 :: .slice (some ⟨9, 0, none⟩) 1 1 :: .slice (some ⟨10, 0, none⟩) 2 2 :: .slice (some ⟨11, 0, none⟩) 1 1 :: .slice (some ⟨12, 0, none⟩) 2 2 :: .slice (some ⟨13, 0, none⟩) 2 2 :: .slice (some ⟨14, 0, none⟩) 1 1 :: .slice (some ⟨15, 0, none⟩) 1 1 :: .slice (some ⟨16, 0, none⟩) 1 1 :: .slice (some ⟨17, 0, none⟩) 1 1 :: .slice (some ⟨18, 0, none⟩) 1 1 :: .slice (some ⟨19, 0, none⟩) 1 1 :: .slice (some ⟨20, 0, none⟩) 1 1 :: .slice (some ⟨21, 0, none⟩) 1 1 :: .slice (some ⟨22, 0, none⟩) 1 1 :: .slice (some ⟨23, 0, none⟩) 2 2 :: [])) t frozen
      | o => o) } : World).forCall (fun _ _ => 0) ⟨#[], #[.slice none 0 0, .int .i64 0], []⟩).memory :=
  laidMet_of_run' 8 (by kernel_rfl) (by kernel_rfl)
theorem reads (os : Os) {H : Type} (enc : TypeId × Value → H) : ∃ places, DataW.whole enc Tryz.prog (({ World.holding Tryz.prog os ⟨#[.cells #[] 67, .cells #[] 67, .cells #[.int .i64 0] 67, .cells #[.int .i64 0, .int .i64 1] 67, .cells #[.int .i64 2] 67, .cells #[.int .i64 2, .int .i64 3] 67, .cells #[.int .i64 4, .int .i64 2] 67, .cells #[.int .i64 5] 67, .cells #[.int .i64 6] 67, .cells #[.int .i64 7] 67, .cells #[.int .i64 8] 67, .cells #[.int .i64 9] 67, .cells #[.int .i64 10] 67, .cells #[.int .i64 11] 67, .cells #[.int .i64 12] 67, .cells #[.int .i64 13] 67, .cells #[.int .i64 2, .int .i64 14] 67], #[], []⟩ with heap := (((World.holding Tryz.prog os ⟨#[.cells #[] 67, .cells #[] 67, .cells #[.int .i64 0] 67, .cells #[.int .i64 0, .int .i64 1] 67, .cells #[.int .i64 2] 67, .cells #[.int .i64 2, .int .i64 3] 67, .cells #[.int .i64 4, .int .i64 2] 67, .cells #[.int .i64 5] 67, .cells #[.int .i64 6] 67, .cells #[.int .i64 7] 67, .cells #[.int .i64 8] 67, .cells #[.int .i64 9] 67, .cells #[.int .i64 10] 67, .cells #[.int .i64 11] 67, .cells #[.int .i64 12] 67, .cells #[.int .i64 13] 67, .cells #[.int .i64 2, .int .i64 14] 67], #[], []⟩).heap.modify 1 fun
      | .cells _ t frozen => .cells (List.toArray (.int .u8 127 :: .int .i64 1 :: .int .i64 1 :: .int .u8 126 :: .int .i64 1 :: .int .i64 2 :: .int .u8 125 :: .int .i64 1 :: .int .i64 3 :: .int .u8 124 :: .int .i64 1 :: .int .i64 4 :: .int .u8 123 :: .int .i64 2 :: .int .i64 0 :: .int .u8 120 :: .int .i64 3 :: .int .i64 6 :: .int .u8 119 :: .int .i64 3 :: .int .i64 7 :: .int .u8 116 :: .int .i64 4 :: .int .i64 (-12) :: .int .u8 115 :: .int .i64 4 :: .int .i64 (-2) :: .int .u8 114 :: .int .i64 4 :: .int .i64 (-4) :: .int .u8 113 :: .int .i64 4 :: .int .i64 (-10) :: .int .u8 112 :: .int .i64 4 :: .int .i64 (-1) :: .int .u8 111 :: .int .i64 4 :: .int .i64 (-3) :: .int .u8 110 :: .int .i64 4 :: .int .i64 (-5) :: .int .u8 109 :: .int .i64 4 :: .int .i64 (-6) :: .int .u8 108 :: .int .i64 4 :: .int .i64 (-7) :: .int .u8 107 :: .int .i64 4 :: .int .i64 (-8) :: .int .u8 106 :: .int .i64 4 :: .int .i64 (-9) :: .int .u8 105 :: .int .i64 4 :: .int .i64 (-11) :: .int .u8 100 :: .int .i64 5 :: .int .i64 0 :: .int .u8 99 :: .int .i64 5 :: .int .i64 1 :: .int .u8 96 :: .int .i64 6 :: .int .i64 1 :: .int .u8 95 :: .int .i64 6 :: .int .i64 2 :: .int .u8 94 :: .int .i64 6 :: .int .i64 3 :: [])) t frozen
      | o => o).modify 0 fun
      | .cells _ t frozen => .cells (List.toArray (.slice (some ⟨7, 0, none⟩) 0 0 :: .slice (some ⟨8, 0, none⟩) 0 0 :: .slice (some ⟨9, 0, none⟩) 1 1 :: .slice (some ⟨10, 0, none⟩) 2 2 :: .slice (some ⟨11, 0, none⟩) 1 1 :: .slice (some ⟨12, 0, none⟩) 2 2 :: .slice (some ⟨13, 0, none⟩) 2 2 :: .slice (some ⟨14, 0, none⟩) 1 1 :: .slice (some ⟨15, 0, none⟩) 1 1 :: .slice (some ⟨16, 0, none⟩) 1 1 :: .slice (some ⟨17, 0, none⟩) 1 1 :: .slice (some ⟨18, 0, none⟩) 1 1 :: .slice (some ⟨19, 0, none⟩) 1 1 :: .slice (some ⟨20, 0, none⟩) 1 1 :: .slice (some ⟨21, 0, none⟩) 1 1 :: .slice (some ⟨22, 0, none⟩) 1 1 :: .slice (some ⟨23, 0, none⟩) 2 2 :: [])) t frozen
      | o => o) } : World).forCall (fun _ _ => 0) ⟨#[], #[.slice none 0 0, .int .i64 0], []⟩).memory Tryz.f3.params.toList Rows.instrReadsSpec.vars false #[Value.slice none 0 0, Value.int .i64 0].toList 8 = some ([.nil, .lit (.int .i64 0)], [], places) :=
  ⟨[], by kernel_rfl⟩
set_option maxRecDepth 100000 in
theorem lifted (os : Os) (started : os.Started) (H : Type) (enc : TypeId × Value → H) (F : Stop.Interp) :
    ReturnsInHanded {} Tryz.checked os 3 .any ((OpenSpec.ofChange Rows.instrReadsSpec).preRow enc Tryz.prog Tryz.f3 Rows.instrReadsRow.domain false Rows.instrReadsRow.laid) (((OpenSpec.ofChange Rows.instrReadsSpec).at F).post enc Tryz.prog Tryz.f3 false true false false) := by
  obtain ⟨places, hx⟩ := reads os enc
  refine returnsInHanded_of_row (C := Tryz.checked) (s := OpenSpec.ofChange Rows.instrReadsSpec) own started (by kernel_rfl) Tryz.func3
    (witness_row_atRef (enc := enc) (C := Tryz.checked) false ({ World.holding Tryz.prog os ⟨#[.cells #[] 67, .cells #[] 67, .cells #[.int .i64 0] 67, .cells #[.int .i64 0, .int .i64 1] 67, .cells #[.int .i64 2] 67, .cells #[.int .i64 2, .int .i64 3] 67, .cells #[.int .i64 4, .int .i64 2] 67, .cells #[.int .i64 5] 67, .cells #[.int .i64 6] 67, .cells #[.int .i64 7] 67, .cells #[.int .i64 8] 67, .cells #[.int .i64 9] 67, .cells #[.int .i64 10] 67, .cells #[.int .i64 11] 67, .cells #[.int .i64 12] 67, .cells #[.int .i64 13] 67, .cells #[.int .i64 2, .int .i64 14] 67], #[], []⟩ with heap := (((World.holding Tryz.prog os ⟨#[.cells #[] 67, .cells #[] 67, .cells #[.int .i64 0] 67, .cells #[.int .i64 0, .int .i64 1] 67, .cells #[.int .i64 2] 67, .cells #[.int .i64 2, .int .i64 3] 67, .cells #[.int .i64 4, .int .i64 2] 67, .cells #[.int .i64 5] 67, .cells #[.int .i64 6] 67, .cells #[.int .i64 7] 67, .cells #[.int .i64 8] 67, .cells #[.int .i64 9] 67, .cells #[.int .i64 10] 67, .cells #[.int .i64 11] 67, .cells #[.int .i64 12] 67, .cells #[.int .i64 13] 67, .cells #[.int .i64 2, .int .i64 14] 67], #[], []⟩).heap.modify 1 fun
      | .cells _ t frozen => .cells (List.toArray (.int .u8 127 :: .int .i64 1 :: .int .i64 1 :: .int .u8 126 :: .int .i64 1 :: .int .i64 2 :: .int .u8 125 :: .int .i64 1 :: .int .i64 3 :: .int .u8 124 :: .int .i64 1 :: .int .i64 4 :: .int .u8 123 :: .int .i64 2 :: .int .i64 0 :: .int .u8 120 :: .int .i64 3 :: .int .i64 6 :: .int .u8 119 :: .int .i64 3 :: .int .i64 7 :: .int .u8 116 :: .int .i64 4 :: .int .i64 (-12) :: .int .u8 115 :: .int .i64 4 :: .int .i64 (-2) :: .int .u8 114 :: .int .i64 4 :: .int .i64 (-4) :: .int .u8 113 :: .int .i64 4 :: .int .i64 (-10) :: .int .u8 112 :: .int .i64 4 :: .int .i64 (-1) :: .int .u8 111 :: .int .i64 4 :: .int .i64 (-3) :: .int .u8 110 :: .int .i64 4 :: .int .i64 (-5) :: .int .u8 109 :: .int .i64 4 :: .int .i64 (-6) :: .int .u8 108 :: .int .i64 4 :: .int .i64 (-7) :: .int .u8 107 :: .int .i64 4 :: .int .i64 (-8) :: .int .u8 106 :: .int .i64 4 :: .int .i64 (-9) :: .int .u8 105 :: .int .i64 4 :: .int .i64 (-11) :: .int .u8 100 :: .int .i64 5 :: .int .i64 0 :: .int .u8 99 :: .int .i64 5 :: .int .i64 1 :: .int .u8 96 :: .int .i64 6 :: .int .i64 1 :: .int .u8 95 :: .int .i64 6 :: .int .i64 2 :: .int .u8 94 :: .int .i64 6 :: .int .i64 3 :: [])) t frozen
      | o => o).modify 0 fun
      | .cells _ t frozen => .cells (List.toArray (.slice (some ⟨7, 0, none⟩) 0 0 :: .slice (some ⟨8, 0, none⟩) 0 0 :: .slice (some ⟨9, 0, none⟩) 1 1 :: .slice (some ⟨10, 0, none⟩) 2 2 :: .slice (some ⟨11, 0, none⟩) 1 1 :: .slice (some ⟨12, 0, none⟩) 2 2 :: .slice (some ⟨13, 0, none⟩) 2 2 :: .slice (some ⟨14, 0, none⟩) 1 1 :: .slice (some ⟨15, 0, none⟩) 1 1 :: .slice (some ⟨16, 0, none⟩) 1 1 :: .slice (some ⟨17, 0, none⟩) 1 1 :: .slice (some ⟨18, 0, none⟩) 1 1 :: .slice (some ⟨19, 0, none⟩) 1 1 :: .slice (some ⟨20, 0, none⟩) 1 1 :: .slice (some ⟨21, 0, none⟩) 1 1 :: .slice (some ⟨22, 0, none⟩) 1 1 :: .slice (some ⟨23, 0, none⟩) 2 2 :: [])) t frozen
      | o => o) } : World) #[.slice none 0 0, .int .i64 0] rfl (by kernel_rfl) (by kernel_rfl) (by kernel_rfl)
      (OpenSpec.preRow_of_cond 8 hx (by kernel_rfl) (fun k hk => by cases hk) (by kernel_rfl) (laid_met os))) ?_
  intro W base args ds gs before hval hW _ _ hsz hL _ _
  exact contract H enc W base args ds gs before hval hW hsz hL
theorem said : Rows.InstrReadsSaid :=
  OpenClaim.holds_of_cond 3 Tryz.f3 rfl rfl rfl rfl rfl rfl rfl ⟨rfl, rfl, rfl, rfl, rfl⟩ rfl rfl rfl rfl rfl (by kernel_rfl) Tryz.func3 (by kernel_rfl)
    (of_decide_eq_true (by kernel_rfl)) (by unfold Func.isWrapper; first | (rw [if_pos (by decide +kernel)]; kernel_rfl) | (rw [if_neg (by decide +kernel)]; exact ⟨rfl, rfl⟩))
    (fun os started H enc _ F => by rw [OpenClaim.pre_eq_preRow]; exact lifted os started H enc F)
/- No parameter wants a stand-in; the program's own looks are as the card says. -/
theorem plain (f : FuncId) (fn : Func) (hf : Tryz.pinned.checked.prog.funcNamed "ratchet/ratchetlaw09.InstrReads" = some f) (hfn : Tryz.pinned.checked.prog.funcs[f]? = some fn) :
    true = Tryz.pinned.checked.prog.looks [] ∧ ∀ (j : Nat) t, fn.params[j]? = some t → Tryz.pinned.checked.prog.wantsStandIn t = false := by
  obtain rfl : f = 3 := Option.some.inj ((show Tryz.prog.funcNamed "ratchet/ratchetlaw09.InstrReads" = some 3 by kernel_rfl).symm.trans hf) |>.symm
  obtain rfl : fn = Tryz.f3 := (Option.some.inj (Tryz.func3.symm.trans hfn)).symm
  refine ⟨by kernel_rfl, fun j t ht => ?_⟩
  rw [Tryz.params3] at ht
  have hm : t ∈ [22, 3] := by simpa using Array.mem_of_getElem? ht
  have hall : ([22, 3].all fun u => !Tryz.prog.wantsStandIn u) = true := by kernel_rfl
  exact (show Tryz.prog.wantsStandIn t = false by simpa using List.all_eq_true.1 hall t hm)
end Go.Proofs.YtohapnninjdlfaaGreatDoor.instrReads
namespace Go.Proofs.YtohapnninjdlfaaGreatDoor
theorem instrReads_holds : Rows.InstrReadsCardSaid :=
  Claim7.holds_tied_plain_at .later [] _ _ _ _ instrReads.said (fun _ h => by cases h) (by kernel_rfl) (fun _ h => by cases h) instrReads_row_tie rfl ⟨rfl, rfl⟩ (by kernel_rfl) rfl instrReads.plain (by kernel_rfl)
#print axioms instrReads_holds
end Go.Proofs.YtohapnninjdlfaaGreatDoor
