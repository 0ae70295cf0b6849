/-
  What the rows' lists give: the cells of fnum's tables; no statement is proved here.
-/
import Derived.Test.YtjkebimmddlccaaDoorFind
import Derived.Lib.LaidTab
import Derived.ChangeArms
namespace Go.Proofs.YtjkebimmddlccaaDoor
open Go.RowKit
set_option linter.unusedVariables false
set_option linter.unusedSimpArgs false

theorem grid_row {H : Type} {enc : TypeId × Value → H} {P : Program} {w : World} {base : Nat} {sp : Nat → Bool} {held : Bool} {fuel : Nat} {t e : TypeId} {n c : Nat} {cs : List Value} {rows : List (DataW H)} {p : List MemPlace}
    (ht : P.underlying t = some (.array n e)) (hce : P.cellsOf e = c) (h : DataW.trod enc P w base sp held fuel t cs = some (.agg rows, p)) (i : Nat) (d : DataW H) (hi : rows[i]? = some d) :
    ∃ m q, DataW.trod enc P w base sp held m e ((cs.drop (i * c)).take c) = some (d, q) := by
  cases fuel with
  | zero => simp [DataW.trod] at h
  | succ fuel =>
    simp only [DataW.trod, ht, hce] at h
    split at h
    · obtain ⟨xs, hm, hx⟩ := Option.map_eq_some_iff.1 h
      have hxs : xs.map (·.1) = rows := by
        have := congrArg Prod.fst hx
        simpa using this
      have hxl : xs.length = n := by simpa using Lib.mapM_length hm
      have hin : i < n := by
        have : i < rows.length := by
          rcases Nat.lt_or_ge i rows.length with h1 | h1
          · exact h1
          · rw [List.getElem?_eq_none h1] at hi; cases hi
        rw [← hxs] at this
        simpa [hxl] using this
      obtain ⟨b, hb, hf⟩ := Lib.mapM_at hm i i (by simp [hin])
      rw [← hxs, List.getElem?_map, hb] at hi
      simp only [Option.map_some, Option.some.injEq] at hi
      exact ⟨fuel, b.2, by rw [hf, ← hi]⟩
    · cases h
theorem grid_int {H : Type} {enc : TypeId × Value → H} {P : Program} {w : World} {base : Nat} {sp : Nat → Bool} {held : Bool} {fuel : Nat} {e : TypeId} {fs : Array Field} {cs : List Value} {d : List (DataW H)} {p : List MemPlace} {i c : Nat}
    (he : P.underlying e = some (.struct fs)) (h : DataW.trod enc P w base sp held fuel e ((cs.drop (i * c)).take c) = some (.agg d, p)) (j : Nat) (fld : Field) (hf : fs[j]? = some fld) (k : IntKind) (hk : P.underlying fld.type = some (.int k)) (hc : P.cellsOf fld.type = 1)
    (ho : fld.offset < c) (z : Int) (hz : d[j]? = some (.lit (.int k z))) : cs[i * c + fld.offset]? = some (.int k z) := by
  obtain ⟨xs, n, _, hx, _, _, hall⟩ := DataW.trod_struct he h
  have h1 := hall j fld hf
  have hd : d = xs.map (·.1) := by simpa using congrArg Prod.fst hx
  rw [hd, List.getElem?_map] at hz
  cases hb : xs[j]? with
  | none => rw [hb] at hz; cases hz
  | some b =>
    rw [hb] at hz h1
    simp only [Option.map_some, Option.some.injEq] at hz
    rw [hc] at h1
    obtain ⟨y, hy, hyx, _⟩ := DataW.trod_int hk h1
    have : y = z := by
      have e2 := congrArg Prod.fst hyx
      rw [hz] at e2
      simpa using e2.symm
    subst this
    have h2 := congrArg (·[0]?) hy
    simp only [List.getElem?_take, List.getElem?_drop, Nat.add_zero, List.getElem?_cons_zero, Nat.lt_one_iff, Nat.zero_lt_one, if_true, ho] at h2
    exact h2
theorem grid_bool {H : Type} {enc : TypeId × Value → H} {P : Program} {w : World} {base : Nat} {sp : Nat → Bool} {held : Bool} {fuel : Nat} {e : TypeId} {fs : Array Field} {cs : List Value} {d : List (DataW H)} {p : List MemPlace} {i c : Nat}
    (he : P.underlying e = some (.struct fs)) (h : DataW.trod enc P w base sp held fuel e ((cs.drop (i * c)).take c) = some (.agg d, p)) (j : Nat) (fld : Field) (hf : fs[j]? = some fld) (hk : P.underlying fld.type = some .bool) (hc : P.cellsOf fld.type = 1)
    (ho : fld.offset < c) (z : Bool) (hz : d[j]? = some (.lit (.bool z))) : cs[i * c + fld.offset]? = some (.bool z) := by
  obtain ⟨xs, n, _, hx, _, _, hall⟩ := DataW.trod_struct he h
  have h1 := hall j fld hf
  have hd : d = xs.map (·.1) := by simpa using congrArg Prod.fst hx
  rw [hd, List.getElem?_map] at hz
  cases hb : xs[j]? with
  | none => rw [hb] at hz; cases hz
  | some b =>
    rw [hb] at hz h1
    simp only [Option.map_some, Option.some.injEq] at hz
    rw [hc] at h1
    obtain ⟨y, hy, hyx⟩ := DataW.trod_bool hk h1
    have : y = z := by
      have e2 := congrArg Prod.fst hyx
      rw [hz] at e2
      simpa using e2.symm
    subst this
    have h2 := congrArg (·[0]?) hy
    simp only [List.getElem?_take, List.getElem?_drop, Nat.add_zero, List.getElem?_cons_zero, Nat.lt_one_iff, Nat.zero_lt_one, if_true, ho] at h2
    exact h2
theorem gRows : Tryd.prog.globalNamed "ratchet/fnum.rows" = some 0 := by kernel_rfl
theorem gRowsType : (Tryd.prog.globals[0]?).map (·.type) = some 75 := by kernel_rfl
theorem cellsRow : Tryd.prog.cellsOf 74 = 4 := by kernel_rfl
theorem rws_of {W : World} {rest : List (String × DataW Unit)} (h : laidMet Tryd.prog (("ratchet/fnum.rows", Rows.laid_ratchet_fnum_rows) :: rest) W) : Rws W := by
  obtain ⟨ps, ⟨g', t', cs, fuel, p, q, hg', ht', hvar, hd, _, _⟩, _⟩ := h
  obtain rfl := Option.some.inj (gRows.symm.trans hg')
  obtain rfl := Option.some.inj (gRowsType.symm.trans ht')
  have hc := fun i => World.var?_cell gRows hvar i
  obtain ⟨m0, q0, h0⟩ := grid_row Tryd.underlying75 cellsRow hd 0 _ rfl
  have c0 : cs.toList[0]? = some (.int .i64 1) := grid_int Tryd.underlying74 h0 0 _ rfl .i64 (by kernel_rfl) (by kernel_rfl) (by decide) 1 rfl
  have c1 : cs.toList[1]? = some (.int .i64 32) := grid_int Tryd.underlying74 h0 1 _ rfl .i64 (by kernel_rfl) (by kernel_rfl) (by decide) 32 rfl
  have c2 : cs.toList[2]? = some (.int .i64 91) := grid_int Tryd.underlying74 h0 2 _ rfl .i64 (by kernel_rfl) (by kernel_rfl) (by decide) 91 rfl
  have c3 : cs.toList[3]? = some (.int .i64 96) := grid_int Tryd.underlying74 h0 3 _ rfl .i64 (by kernel_rfl) (by kernel_rfl) (by decide) 96 rfl
  obtain ⟨m1, q1, h1⟩ := grid_row Tryd.underlying75 cellsRow hd 1 _ rfl
  have c4 : cs.toList[4]? = some (.int .i64 1) := grid_int Tryd.underlying74 h1 0 _ rfl .i64 (by kernel_rfl) (by kernel_rfl) (by decide) 1 rfl
  have c5 : cs.toList[5]? = some (.int .i64 64) := grid_int Tryd.underlying74 h1 1 _ rfl .i64 (by kernel_rfl) (by kernel_rfl) (by decide) 64 rfl
  have c6 : cs.toList[6]? = some (.int .i64 97) := grid_int Tryd.underlying74 h1 2 _ rfl .i64 (by kernel_rfl) (by kernel_rfl) (by decide) 97 rfl
  have c7 : cs.toList[7]? = some (.int .i64 102) := grid_int Tryd.underlying74 h1 3 _ rfl .i64 (by kernel_rfl) (by kernel_rfl) (by decide) 102 rfl
  obtain ⟨m2, q2, h2⟩ := grid_row Tryd.underlying75 cellsRow hd 2 _ rfl
  have c8 : cs.toList[8]? = some (.int .i64 7) := grid_int Tryd.underlying74 h2 0 _ rfl .i64 (by kernel_rfl) (by kernel_rfl) (by decide) 7 rfl
  have c9 : cs.toList[9]? = some (.int .i64 32) := grid_int Tryd.underlying74 h2 1 _ rfl .i64 (by kernel_rfl) (by kernel_rfl) (by decide) 32 rfl
  have c10 : cs.toList[10]? = some (.int .i64 139) := grid_int Tryd.underlying74 h2 2 _ rfl .i64 (by kernel_rfl) (by kernel_rfl) (by decide) 139 rfl
  have c11 : cs.toList[11]? = some (.int .i64 145) := grid_int Tryd.underlying74 h2 3 _ rfl .i64 (by kernel_rfl) (by kernel_rfl) (by decide) 145 rfl
  obtain ⟨m3, q3, h3⟩ := grid_row Tryd.underlying75 cellsRow hd 3 _ rfl
  have c12 : cs.toList[12]? = some (.int .i64 7) := grid_int Tryd.underlying74 h3 0 _ rfl .i64 (by kernel_rfl) (by kernel_rfl) (by decide) 7 rfl
  have c13 : cs.toList[13]? = some (.int .i64 64) := grid_int Tryd.underlying74 h3 1 _ rfl .i64 (by kernel_rfl) (by kernel_rfl) (by decide) 64 rfl
  have c14 : cs.toList[14]? = some (.int .i64 153) := grid_int Tryd.underlying74 h3 2 _ rfl .i64 (by kernel_rfl) (by kernel_rfl) (by decide) 153 rfl
  have c15 : cs.toList[15]? = some (.int .i64 159) := grid_int Tryd.underlying74 h3 3 _ rfl .i64 (by kernel_rfl) (by kernel_rfl) (by decide) 159 rfl
  obtain ⟨m4, q4, h4⟩ := grid_row Tryd.underlying75 cellsRow hd 4 _ rfl
  have c16 : cs.toList[16]? = some (.int .i64 14) := grid_int Tryd.underlying74 h4 0 _ rfl .i64 (by kernel_rfl) (by kernel_rfl) (by decide) 14 rfl
  have c17 : cs.toList[17]? = some (.int .i64 32) := grid_int Tryd.underlying74 h4 1 _ rfl .i64 (by kernel_rfl) (by kernel_rfl) (by decide) 32 rfl
  have c18 : cs.toList[18]? = some (.int .i64 146) := grid_int Tryd.underlying74 h4 2 _ rfl .i64 (by kernel_rfl) (by kernel_rfl) (by decide) 146 rfl
  have c19 : cs.toList[19]? = some (.int .i64 152) := grid_int Tryd.underlying74 h4 3 _ rfl .i64 (by kernel_rfl) (by kernel_rfl) (by decide) 152 rfl
  obtain ⟨m5, q5, h5⟩ := grid_row Tryd.underlying75 cellsRow hd 5 _ rfl
  have c20 : cs.toList[20]? = some (.int .i64 14) := grid_int Tryd.underlying74 h5 0 _ rfl .i64 (by kernel_rfl) (by kernel_rfl) (by decide) 14 rfl
  have c21 : cs.toList[21]? = some (.int .i64 64) := grid_int Tryd.underlying74 h5 1 _ rfl .i64 (by kernel_rfl) (by kernel_rfl) (by decide) 64 rfl
  have c22 : cs.toList[22]? = some (.int .i64 160) := grid_int Tryd.underlying74 h5 2 _ rfl .i64 (by kernel_rfl) (by kernel_rfl) (by decide) 160 rfl
  have c23 : cs.toList[23]? = some (.int .i64 166) := grid_int Tryd.underlying74 h5 3 _ rfl .i64 (by kernel_rfl) (by kernel_rfl) (by decide) 166 rfl
  intro j v hv
  match j, hv with
  | 0, hv => exact (hc 0).trans (by rw [← Array.getElem?_toList]; exact c0.trans hv)
  | 1, hv => exact (hc 1).trans (by rw [← Array.getElem?_toList]; exact c1.trans hv)
  | 2, hv => exact (hc 2).trans (by rw [← Array.getElem?_toList]; exact c2.trans hv)
  | 3, hv => exact (hc 3).trans (by rw [← Array.getElem?_toList]; exact c3.trans hv)
  | 4, hv => exact (hc 4).trans (by rw [← Array.getElem?_toList]; exact c4.trans hv)
  | 5, hv => exact (hc 5).trans (by rw [← Array.getElem?_toList]; exact c5.trans hv)
  | 6, hv => exact (hc 6).trans (by rw [← Array.getElem?_toList]; exact c6.trans hv)
  | 7, hv => exact (hc 7).trans (by rw [← Array.getElem?_toList]; exact c7.trans hv)
  | 8, hv => exact (hc 8).trans (by rw [← Array.getElem?_toList]; exact c8.trans hv)
  | 9, hv => exact (hc 9).trans (by rw [← Array.getElem?_toList]; exact c9.trans hv)
  | 10, hv => exact (hc 10).trans (by rw [← Array.getElem?_toList]; exact c10.trans hv)
  | 11, hv => exact (hc 11).trans (by rw [← Array.getElem?_toList]; exact c11.trans hv)
  | 12, hv => exact (hc 12).trans (by rw [← Array.getElem?_toList]; exact c12.trans hv)
  | 13, hv => exact (hc 13).trans (by rw [← Array.getElem?_toList]; exact c13.trans hv)
  | 14, hv => exact (hc 14).trans (by rw [← Array.getElem?_toList]; exact c14.trans hv)
  | 15, hv => exact (hc 15).trans (by rw [← Array.getElem?_toList]; exact c15.trans hv)
  | 16, hv => exact (hc 16).trans (by rw [← Array.getElem?_toList]; exact c16.trans hv)
  | 17, hv => exact (hc 17).trans (by rw [← Array.getElem?_toList]; exact c17.trans hv)
  | 18, hv => exact (hc 18).trans (by rw [← Array.getElem?_toList]; exact c18.trans hv)
  | 19, hv => exact (hc 19).trans (by rw [← Array.getElem?_toList]; exact c19.trans hv)
  | 20, hv => exact (hc 20).trans (by rw [← Array.getElem?_toList]; exact c20.trans hv)
  | 21, hv => exact (hc 21).trans (by rw [← Array.getElem?_toList]; exact c21.trans hv)
  | 22, hv => exact (hc 22).trans (by rw [← Array.getElem?_toList]; exact c22.trans hv)
  | 23, hv => exact (hc 23).trans (by rw [← Array.getElem?_toList]; exact c23.trans hv)
  | n + 24, hv => exact absurd hv (by simp [RW])
end Go.Proofs.YtjkebimmddlccaaDoor
