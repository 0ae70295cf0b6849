/-
  What the rows' lists give: the cells of the table of codes; no statement is proved here.
-/
import Derived.Test.YtchehejjdinifaaGreatDoorCod
import Derived.Lib.LaidTab
import Derived.ChangeArms
namespace Go.Proofs.YtchehejjdinifaaGreatDoor
open Go.RowKit
set_option linter.unusedVariables false
set_option linter.unusedSimpArgs false

theorem grid_row {H : Type} {enc : TypeId × Value → H} {P : Program} {w : World} {base : Nat} {sp : Nat → Bool} {held : Bool} {fuel : Nat} {t e : TypeId} {n c : Nat} {cs : List Value} {rows : List (DataW H)} {p : List MemPlace}
    (ht : P.underlying t = some (.array n e)) (hce : P.cellsOf e = c) (h : DataW.trod enc P w base sp held fuel t cs = some (.agg rows, p)) (i : Nat) (d : DataW H) (hi : rows[i]? = some d) :
    ∃ m q, DataW.trod enc P w base sp held m e ((cs.drop (i * c)).take c) = some (d, q) := by
  cases fuel with
  | zero => simp [DataW.trod] at h
  | succ fuel =>
    simp only [DataW.trod, ht, hce] at h
    split at h
    · obtain ⟨xs, hm, hx⟩ := Option.map_eq_some_iff.1 h
      have hxs : xs.map (·.1) = rows := by
        have := congrArg Prod.fst hx
        simpa using this
      have hxl : xs.length = n := by simpa using Lib.mapM_length hm
      have hin : i < n := by
        have : i < rows.length := by
          rcases Nat.lt_or_ge i rows.length with h1 | h1
          · exact h1
          · rw [List.getElem?_eq_none h1] at hi; cases hi
        rw [← hxs] at this
        simpa [hxl] using this
      obtain ⟨b, hb, hf⟩ := Lib.mapM_at hm i i (by simp [hin])
      rw [← hxs, List.getElem?_map, hb] at hi
      simp only [Option.map_some, Option.some.injEq] at hi
      exact ⟨fuel, b.2, by rw [hf, ← hi]⟩
    · cases h
theorem grid_int {H : Type} {enc : TypeId × Value → H} {P : Program} {w : World} {base : Nat} {sp : Nat → Bool} {held : Bool} {fuel : Nat} {e : TypeId} {fs : Array Field} {cs : List Value} {d : List (DataW H)} {p : List MemPlace} {i c : Nat}
    (he : P.underlying e = some (.struct fs)) (h : DataW.trod enc P w base sp held fuel e ((cs.drop (i * c)).take c) = some (.agg d, p)) (j : Nat) (fld : Field) (hf : fs[j]? = some fld) (k : IntKind) (hk : P.underlying fld.type = some (.int k)) (hc : P.cellsOf fld.type = 1)
    (ho : fld.offset < c) (z : Int) (hz : d[j]? = some (.lit (.int k z))) : cs[i * c + fld.offset]? = some (.int k z) := by
  obtain ⟨xs, n, _, hx, _, _, hall⟩ := DataW.trod_struct he h
  have h1 := hall j fld hf
  have hd : d = xs.map (·.1) := by simpa using congrArg Prod.fst hx
  rw [hd, List.getElem?_map] at hz
  cases hb : xs[j]? with
  | none => rw [hb] at hz; cases hz
  | some b =>
    rw [hb] at hz h1
    simp only [Option.map_some, Option.some.injEq] at hz
    rw [hc] at h1
    obtain ⟨y, hy, hyx, _⟩ := DataW.trod_int hk h1
    have : y = z := by
      have e2 := congrArg Prod.fst hyx
      rw [hz] at e2
      simpa using e2.symm
    subst this
    have h2 := congrArg (·[0]?) hy
    simp only [List.getElem?_take, List.getElem?_drop, Nat.add_zero, List.getElem?_cons_zero, Nat.lt_one_iff, Nat.zero_lt_one, if_true, ho] at h2
    exact h2
theorem gCodes : Tryz.prog.globalNamed "ratchet/entry.codes" = some 0 := by kernel_rfl
theorem gCodesType : (Tryz.prog.globals[0]?).map (·.type) = some 155 := by kernel_rfl
theorem cellsRow : Tryz.prog.cellsOf 154 = 3 := by kernel_rfl
set_option maxRecDepth 100000 in
theorem tab_of {W : World} {rest : List (String × DataW Unit)} (h : laidMet Tryz.prog (("ratchet/entry.codes", Rows.laid_ratchet_entry_codes) :: rest) W) : Tab W := by
  obtain ⟨ps, ⟨g', t', cs, fuel, p, q, hg', ht', hvar, hd, _, _⟩, _⟩ := h
  obtain rfl := Option.some.inj (gCodes.symm.trans hg')
  obtain rfl := Option.some.inj (gCodesType.symm.trans ht')
  have hc := fun i => World.var?_cell gCodes hvar i
  obtain ⟨m0, q0, h0⟩ := grid_row Tryz.underlying155 cellsRow hd 0 _ rfl
  have c0 : cs.toList[0]? = some (.int .u8 127) := grid_int Tryz.underlying154 h0 0 _ rfl .u8 (by kernel_rfl) (by kernel_rfl) (by decide) 127 rfl
  have c1 : cs.toList[1]? = some (.int .i64 1) := grid_int Tryz.underlying154 h0 1 _ rfl .i64 (by kernel_rfl) (by kernel_rfl) (by decide) 1 rfl
  have c2 : cs.toList[2]? = some (.int .i64 1) := grid_int Tryz.underlying154 h0 2 _ rfl .i64 (by kernel_rfl) (by kernel_rfl) (by decide) 1 rfl
  obtain ⟨m1, q1, h1⟩ := grid_row Tryz.underlying155 cellsRow hd 1 _ rfl
  have c3 : cs.toList[3]? = some (.int .u8 126) := grid_int Tryz.underlying154 h1 0 _ rfl .u8 (by kernel_rfl) (by kernel_rfl) (by decide) 126 rfl
  have c4 : cs.toList[4]? = some (.int .i64 1) := grid_int Tryz.underlying154 h1 1 _ rfl .i64 (by kernel_rfl) (by kernel_rfl) (by decide) 1 rfl
  have c5 : cs.toList[5]? = some (.int .i64 2) := grid_int Tryz.underlying154 h1 2 _ rfl .i64 (by kernel_rfl) (by kernel_rfl) (by decide) 2 rfl
  obtain ⟨m2, q2, h2⟩ := grid_row Tryz.underlying155 cellsRow hd 2 _ rfl
  have c6 : cs.toList[6]? = some (.int .u8 125) := grid_int Tryz.underlying154 h2 0 _ rfl .u8 (by kernel_rfl) (by kernel_rfl) (by decide) 125 rfl
  have c7 : cs.toList[7]? = some (.int .i64 1) := grid_int Tryz.underlying154 h2 1 _ rfl .i64 (by kernel_rfl) (by kernel_rfl) (by decide) 1 rfl
  have c8 : cs.toList[8]? = some (.int .i64 3) := grid_int Tryz.underlying154 h2 2 _ rfl .i64 (by kernel_rfl) (by kernel_rfl) (by decide) 3 rfl
  obtain ⟨m3, q3, h3⟩ := grid_row Tryz.underlying155 cellsRow hd 3 _ rfl
  have c9 : cs.toList[9]? = some (.int .u8 124) := grid_int Tryz.underlying154 h3 0 _ rfl .u8 (by kernel_rfl) (by kernel_rfl) (by decide) 124 rfl
  have c10 : cs.toList[10]? = some (.int .i64 1) := grid_int Tryz.underlying154 h3 1 _ rfl .i64 (by kernel_rfl) (by kernel_rfl) (by decide) 1 rfl
  have c11 : cs.toList[11]? = some (.int .i64 4) := grid_int Tryz.underlying154 h3 2 _ rfl .i64 (by kernel_rfl) (by kernel_rfl) (by decide) 4 rfl
  obtain ⟨m4, q4, h4⟩ := grid_row Tryz.underlying155 cellsRow hd 4 _ rfl
  have c12 : cs.toList[12]? = some (.int .u8 123) := grid_int Tryz.underlying154 h4 0 _ rfl .u8 (by kernel_rfl) (by kernel_rfl) (by decide) 123 rfl
  have c13 : cs.toList[13]? = some (.int .i64 2) := grid_int Tryz.underlying154 h4 1 _ rfl .i64 (by kernel_rfl) (by kernel_rfl) (by decide) 2 rfl
  have c14 : cs.toList[14]? = some (.int .i64 0) := grid_int Tryz.underlying154 h4 2 _ rfl .i64 (by kernel_rfl) (by kernel_rfl) (by decide) 0 rfl
  obtain ⟨m5, q5, h5⟩ := grid_row Tryz.underlying155 cellsRow hd 5 _ rfl
  have c15 : cs.toList[15]? = some (.int .u8 120) := grid_int Tryz.underlying154 h5 0 _ rfl .u8 (by kernel_rfl) (by kernel_rfl) (by decide) 120 rfl
  have c16 : cs.toList[16]? = some (.int .i64 3) := grid_int Tryz.underlying154 h5 1 _ rfl .i64 (by kernel_rfl) (by kernel_rfl) (by decide) 3 rfl
  have c17 : cs.toList[17]? = some (.int .i64 6) := grid_int Tryz.underlying154 h5 2 _ rfl .i64 (by kernel_rfl) (by kernel_rfl) (by decide) 6 rfl
  obtain ⟨m6, q6, h6⟩ := grid_row Tryz.underlying155 cellsRow hd 6 _ rfl
  have c18 : cs.toList[18]? = some (.int .u8 119) := grid_int Tryz.underlying154 h6 0 _ rfl .u8 (by kernel_rfl) (by kernel_rfl) (by decide) 119 rfl
  have c19 : cs.toList[19]? = some (.int .i64 3) := grid_int Tryz.underlying154 h6 1 _ rfl .i64 (by kernel_rfl) (by kernel_rfl) (by decide) 3 rfl
  have c20 : cs.toList[20]? = some (.int .i64 7) := grid_int Tryz.underlying154 h6 2 _ rfl .i64 (by kernel_rfl) (by kernel_rfl) (by decide) 7 rfl
  obtain ⟨m7, q7, h7⟩ := grid_row Tryz.underlying155 cellsRow hd 7 _ rfl
  have c21 : cs.toList[21]? = some (.int .u8 116) := grid_int Tryz.underlying154 h7 0 _ rfl .u8 (by kernel_rfl) (by kernel_rfl) (by decide) 116 rfl
  have c22 : cs.toList[22]? = some (.int .i64 4) := grid_int Tryz.underlying154 h7 1 _ rfl .i64 (by kernel_rfl) (by kernel_rfl) (by decide) 4 rfl
  have c23 : cs.toList[23]? = some (.int .i64 (-12)) := grid_int Tryz.underlying154 h7 2 _ rfl .i64 (by kernel_rfl) (by kernel_rfl) (by decide) (-12) rfl
  obtain ⟨m8, q8, h8⟩ := grid_row Tryz.underlying155 cellsRow hd 8 _ rfl
  have c24 : cs.toList[24]? = some (.int .u8 115) := grid_int Tryz.underlying154 h8 0 _ rfl .u8 (by kernel_rfl) (by kernel_rfl) (by decide) 115 rfl
  have c25 : cs.toList[25]? = some (.int .i64 4) := grid_int Tryz.underlying154 h8 1 _ rfl .i64 (by kernel_rfl) (by kernel_rfl) (by decide) 4 rfl
  have c26 : cs.toList[26]? = some (.int .i64 (-2)) := grid_int Tryz.underlying154 h8 2 _ rfl .i64 (by kernel_rfl) (by kernel_rfl) (by decide) (-2) rfl
  obtain ⟨m9, q9, h9⟩ := grid_row Tryz.underlying155 cellsRow hd 9 _ rfl
  have c27 : cs.toList[27]? = some (.int .u8 114) := grid_int Tryz.underlying154 h9 0 _ rfl .u8 (by kernel_rfl) (by kernel_rfl) (by decide) 114 rfl
  have c28 : cs.toList[28]? = some (.int .i64 4) := grid_int Tryz.underlying154 h9 1 _ rfl .i64 (by kernel_rfl) (by kernel_rfl) (by decide) 4 rfl
  have c29 : cs.toList[29]? = some (.int .i64 (-4)) := grid_int Tryz.underlying154 h9 2 _ rfl .i64 (by kernel_rfl) (by kernel_rfl) (by decide) (-4) rfl
  obtain ⟨m10, q10, h10⟩ := grid_row Tryz.underlying155 cellsRow hd 10 _ rfl
  have c30 : cs.toList[30]? = some (.int .u8 113) := grid_int Tryz.underlying154 h10 0 _ rfl .u8 (by kernel_rfl) (by kernel_rfl) (by decide) 113 rfl
  have c31 : cs.toList[31]? = some (.int .i64 4) := grid_int Tryz.underlying154 h10 1 _ rfl .i64 (by kernel_rfl) (by kernel_rfl) (by decide) 4 rfl
  have c32 : cs.toList[32]? = some (.int .i64 (-10)) := grid_int Tryz.underlying154 h10 2 _ rfl .i64 (by kernel_rfl) (by kernel_rfl) (by decide) (-10) rfl
  obtain ⟨m11, q11, h11⟩ := grid_row Tryz.underlying155 cellsRow hd 11 _ rfl
  have c33 : cs.toList[33]? = some (.int .u8 112) := grid_int Tryz.underlying154 h11 0 _ rfl .u8 (by kernel_rfl) (by kernel_rfl) (by decide) 112 rfl
  have c34 : cs.toList[34]? = some (.int .i64 4) := grid_int Tryz.underlying154 h11 1 _ rfl .i64 (by kernel_rfl) (by kernel_rfl) (by decide) 4 rfl
  have c35 : cs.toList[35]? = some (.int .i64 (-1)) := grid_int Tryz.underlying154 h11 2 _ rfl .i64 (by kernel_rfl) (by kernel_rfl) (by decide) (-1) rfl
  obtain ⟨m12, q12, h12⟩ := grid_row Tryz.underlying155 cellsRow hd 12 _ rfl
  have c36 : cs.toList[36]? = some (.int .u8 111) := grid_int Tryz.underlying154 h12 0 _ rfl .u8 (by kernel_rfl) (by kernel_rfl) (by decide) 111 rfl
  have c37 : cs.toList[37]? = some (.int .i64 4) := grid_int Tryz.underlying154 h12 1 _ rfl .i64 (by kernel_rfl) (by kernel_rfl) (by decide) 4 rfl
  have c38 : cs.toList[38]? = some (.int .i64 (-3)) := grid_int Tryz.underlying154 h12 2 _ rfl .i64 (by kernel_rfl) (by kernel_rfl) (by decide) (-3) rfl
  obtain ⟨m13, q13, h13⟩ := grid_row Tryz.underlying155 cellsRow hd 13 _ rfl
  have c39 : cs.toList[39]? = some (.int .u8 110) := grid_int Tryz.underlying154 h13 0 _ rfl .u8 (by kernel_rfl) (by kernel_rfl) (by decide) 110 rfl
  have c40 : cs.toList[40]? = some (.int .i64 4) := grid_int Tryz.underlying154 h13 1 _ rfl .i64 (by kernel_rfl) (by kernel_rfl) (by decide) 4 rfl
  have c41 : cs.toList[41]? = some (.int .i64 (-5)) := grid_int Tryz.underlying154 h13 2 _ rfl .i64 (by kernel_rfl) (by kernel_rfl) (by decide) (-5) rfl
  obtain ⟨m14, q14, h14⟩ := grid_row Tryz.underlying155 cellsRow hd 14 _ rfl
  have c42 : cs.toList[42]? = some (.int .u8 109) := grid_int Tryz.underlying154 h14 0 _ rfl .u8 (by kernel_rfl) (by kernel_rfl) (by decide) 109 rfl
  have c43 : cs.toList[43]? = some (.int .i64 4) := grid_int Tryz.underlying154 h14 1 _ rfl .i64 (by kernel_rfl) (by kernel_rfl) (by decide) 4 rfl
  have c44 : cs.toList[44]? = some (.int .i64 (-6)) := grid_int Tryz.underlying154 h14 2 _ rfl .i64 (by kernel_rfl) (by kernel_rfl) (by decide) (-6) rfl
  obtain ⟨m15, q15, h15⟩ := grid_row Tryz.underlying155 cellsRow hd 15 _ rfl
  have c45 : cs.toList[45]? = some (.int .u8 108) := grid_int Tryz.underlying154 h15 0 _ rfl .u8 (by kernel_rfl) (by kernel_rfl) (by decide) 108 rfl
  have c46 : cs.toList[46]? = some (.int .i64 4) := grid_int Tryz.underlying154 h15 1 _ rfl .i64 (by kernel_rfl) (by kernel_rfl) (by decide) 4 rfl
  have c47 : cs.toList[47]? = some (.int .i64 (-7)) := grid_int Tryz.underlying154 h15 2 _ rfl .i64 (by kernel_rfl) (by kernel_rfl) (by decide) (-7) rfl
  obtain ⟨m16, q16, h16⟩ := grid_row Tryz.underlying155 cellsRow hd 16 _ rfl
  have c48 : cs.toList[48]? = some (.int .u8 107) := grid_int Tryz.underlying154 h16 0 _ rfl .u8 (by kernel_rfl) (by kernel_rfl) (by decide) 107 rfl
  have c49 : cs.toList[49]? = some (.int .i64 4) := grid_int Tryz.underlying154 h16 1 _ rfl .i64 (by kernel_rfl) (by kernel_rfl) (by decide) 4 rfl
  have c50 : cs.toList[50]? = some (.int .i64 (-8)) := grid_int Tryz.underlying154 h16 2 _ rfl .i64 (by kernel_rfl) (by kernel_rfl) (by decide) (-8) rfl
  obtain ⟨m17, q17, h17⟩ := grid_row Tryz.underlying155 cellsRow hd 17 _ rfl
  have c51 : cs.toList[51]? = some (.int .u8 106) := grid_int Tryz.underlying154 h17 0 _ rfl .u8 (by kernel_rfl) (by kernel_rfl) (by decide) 106 rfl
  have c52 : cs.toList[52]? = some (.int .i64 4) := grid_int Tryz.underlying154 h17 1 _ rfl .i64 (by kernel_rfl) (by kernel_rfl) (by decide) 4 rfl
  have c53 : cs.toList[53]? = some (.int .i64 (-9)) := grid_int Tryz.underlying154 h17 2 _ rfl .i64 (by kernel_rfl) (by kernel_rfl) (by decide) (-9) rfl
  obtain ⟨m18, q18, h18⟩ := grid_row Tryz.underlying155 cellsRow hd 18 _ rfl
  have c54 : cs.toList[54]? = some (.int .u8 105) := grid_int Tryz.underlying154 h18 0 _ rfl .u8 (by kernel_rfl) (by kernel_rfl) (by decide) 105 rfl
  have c55 : cs.toList[55]? = some (.int .i64 4) := grid_int Tryz.underlying154 h18 1 _ rfl .i64 (by kernel_rfl) (by kernel_rfl) (by decide) 4 rfl
  have c56 : cs.toList[56]? = some (.int .i64 (-11)) := grid_int Tryz.underlying154 h18 2 _ rfl .i64 (by kernel_rfl) (by kernel_rfl) (by decide) (-11) rfl
  obtain ⟨m19, q19, h19⟩ := grid_row Tryz.underlying155 cellsRow hd 19 _ rfl
  have c57 : cs.toList[57]? = some (.int .u8 100) := grid_int Tryz.underlying154 h19 0 _ rfl .u8 (by kernel_rfl) (by kernel_rfl) (by decide) 100 rfl
  have c58 : cs.toList[58]? = some (.int .i64 5) := grid_int Tryz.underlying154 h19 1 _ rfl .i64 (by kernel_rfl) (by kernel_rfl) (by decide) 5 rfl
  have c59 : cs.toList[59]? = some (.int .i64 0) := grid_int Tryz.underlying154 h19 2 _ rfl .i64 (by kernel_rfl) (by kernel_rfl) (by decide) 0 rfl
  obtain ⟨m20, q20, h20⟩ := grid_row Tryz.underlying155 cellsRow hd 20 _ rfl
  have c60 : cs.toList[60]? = some (.int .u8 99) := grid_int Tryz.underlying154 h20 0 _ rfl .u8 (by kernel_rfl) (by kernel_rfl) (by decide) 99 rfl
  have c61 : cs.toList[61]? = some (.int .i64 5) := grid_int Tryz.underlying154 h20 1 _ rfl .i64 (by kernel_rfl) (by kernel_rfl) (by decide) 5 rfl
  have c62 : cs.toList[62]? = some (.int .i64 1) := grid_int Tryz.underlying154 h20 2 _ rfl .i64 (by kernel_rfl) (by kernel_rfl) (by decide) 1 rfl
  obtain ⟨m21, q21, h21⟩ := grid_row Tryz.underlying155 cellsRow hd 21 _ rfl
  have c63 : cs.toList[63]? = some (.int .u8 96) := grid_int Tryz.underlying154 h21 0 _ rfl .u8 (by kernel_rfl) (by kernel_rfl) (by decide) 96 rfl
  have c64 : cs.toList[64]? = some (.int .i64 6) := grid_int Tryz.underlying154 h21 1 _ rfl .i64 (by kernel_rfl) (by kernel_rfl) (by decide) 6 rfl
  have c65 : cs.toList[65]? = some (.int .i64 1) := grid_int Tryz.underlying154 h21 2 _ rfl .i64 (by kernel_rfl) (by kernel_rfl) (by decide) 1 rfl
  obtain ⟨m22, q22, h22⟩ := grid_row Tryz.underlying155 cellsRow hd 22 _ rfl
  have c66 : cs.toList[66]? = some (.int .u8 95) := grid_int Tryz.underlying154 h22 0 _ rfl .u8 (by kernel_rfl) (by kernel_rfl) (by decide) 95 rfl
  have c67 : cs.toList[67]? = some (.int .i64 6) := grid_int Tryz.underlying154 h22 1 _ rfl .i64 (by kernel_rfl) (by kernel_rfl) (by decide) 6 rfl
  have c68 : cs.toList[68]? = some (.int .i64 2) := grid_int Tryz.underlying154 h22 2 _ rfl .i64 (by kernel_rfl) (by kernel_rfl) (by decide) 2 rfl
  obtain ⟨m23, q23, h23⟩ := grid_row Tryz.underlying155 cellsRow hd 23 _ rfl
  have c69 : cs.toList[69]? = some (.int .u8 94) := grid_int Tryz.underlying154 h23 0 _ rfl .u8 (by kernel_rfl) (by kernel_rfl) (by decide) 94 rfl
  have c70 : cs.toList[70]? = some (.int .i64 6) := grid_int Tryz.underlying154 h23 1 _ rfl .i64 (by kernel_rfl) (by kernel_rfl) (by decide) 6 rfl
  have c71 : cs.toList[71]? = some (.int .i64 3) := grid_int Tryz.underlying154 h23 2 _ rfl .i64 (by kernel_rfl) (by kernel_rfl) (by decide) 3 rfl
  intro j v hv
  match j, hv with
  | 0, hv => exact (hc 0).trans (by rw [← Array.getElem?_toList]; exact c0.trans hv)
  | 1, hv => exact (hc 1).trans (by rw [← Array.getElem?_toList]; exact c1.trans hv)
  | 2, hv => exact (hc 2).trans (by rw [← Array.getElem?_toList]; exact c2.trans hv)
  | 3, hv => exact (hc 3).trans (by rw [← Array.getElem?_toList]; exact c3.trans hv)
  | 4, hv => exact (hc 4).trans (by rw [← Array.getElem?_toList]; exact c4.trans hv)
  | 5, hv => exact (hc 5).trans (by rw [← Array.getElem?_toList]; exact c5.trans hv)
  | 6, hv => exact (hc 6).trans (by rw [← Array.getElem?_toList]; exact c6.trans hv)
  | 7, hv => exact (hc 7).trans (by rw [← Array.getElem?_toList]; exact c7.trans hv)
  | 8, hv => exact (hc 8).trans (by rw [← Array.getElem?_toList]; exact c8.trans hv)
  | 9, hv => exact (hc 9).trans (by rw [← Array.getElem?_toList]; exact c9.trans hv)
  | 10, hv => exact (hc 10).trans (by rw [← Array.getElem?_toList]; exact c10.trans hv)
  | 11, hv => exact (hc 11).trans (by rw [← Array.getElem?_toList]; exact c11.trans hv)
  | 12, hv => exact (hc 12).trans (by rw [← Array.getElem?_toList]; exact c12.trans hv)
  | 13, hv => exact (hc 13).trans (by rw [← Array.getElem?_toList]; exact c13.trans hv)
  | 14, hv => exact (hc 14).trans (by rw [← Array.getElem?_toList]; exact c14.trans hv)
  | 15, hv => exact (hc 15).trans (by rw [← Array.getElem?_toList]; exact c15.trans hv)
  | 16, hv => exact (hc 16).trans (by rw [← Array.getElem?_toList]; exact c16.trans hv)
  | 17, hv => exact (hc 17).trans (by rw [← Array.getElem?_toList]; exact c17.trans hv)
  | 18, hv => exact (hc 18).trans (by rw [← Array.getElem?_toList]; exact c18.trans hv)
  | 19, hv => exact (hc 19).trans (by rw [← Array.getElem?_toList]; exact c19.trans hv)
  | 20, hv => exact (hc 20).trans (by rw [← Array.getElem?_toList]; exact c20.trans hv)
  | 21, hv => exact (hc 21).trans (by rw [← Array.getElem?_toList]; exact c21.trans hv)
  | 22, hv => exact (hc 22).trans (by rw [← Array.getElem?_toList]; exact c22.trans hv)
  | 23, hv => exact (hc 23).trans (by rw [← Array.getElem?_toList]; exact c23.trans hv)
  | 24, hv => exact (hc 24).trans (by rw [← Array.getElem?_toList]; exact c24.trans hv)
  | 25, hv => exact (hc 25).trans (by rw [← Array.getElem?_toList]; exact c25.trans hv)
  | 26, hv => exact (hc 26).trans (by rw [← Array.getElem?_toList]; exact c26.trans hv)
  | 27, hv => exact (hc 27).trans (by rw [← Array.getElem?_toList]; exact c27.trans hv)
  | 28, hv => exact (hc 28).trans (by rw [← Array.getElem?_toList]; exact c28.trans hv)
  | 29, hv => exact (hc 29).trans (by rw [← Array.getElem?_toList]; exact c29.trans hv)
  | 30, hv => exact (hc 30).trans (by rw [← Array.getElem?_toList]; exact c30.trans hv)
  | 31, hv => exact (hc 31).trans (by rw [← Array.getElem?_toList]; exact c31.trans hv)
  | 32, hv => exact (hc 32).trans (by rw [← Array.getElem?_toList]; exact c32.trans hv)
  | 33, hv => exact (hc 33).trans (by rw [← Array.getElem?_toList]; exact c33.trans hv)
  | 34, hv => exact (hc 34).trans (by rw [← Array.getElem?_toList]; exact c34.trans hv)
  | 35, hv => exact (hc 35).trans (by rw [← Array.getElem?_toList]; exact c35.trans hv)
  | 36, hv => exact (hc 36).trans (by rw [← Array.getElem?_toList]; exact c36.trans hv)
  | 37, hv => exact (hc 37).trans (by rw [← Array.getElem?_toList]; exact c37.trans hv)
  | 38, hv => exact (hc 38).trans (by rw [← Array.getElem?_toList]; exact c38.trans hv)
  | 39, hv => exact (hc 39).trans (by rw [← Array.getElem?_toList]; exact c39.trans hv)
  | 40, hv => exact (hc 40).trans (by rw [← Array.getElem?_toList]; exact c40.trans hv)
  | 41, hv => exact (hc 41).trans (by rw [← Array.getElem?_toList]; exact c41.trans hv)
  | 42, hv => exact (hc 42).trans (by rw [← Array.getElem?_toList]; exact c42.trans hv)
  | 43, hv => exact (hc 43).trans (by rw [← Array.getElem?_toList]; exact c43.trans hv)
  | 44, hv => exact (hc 44).trans (by rw [← Array.getElem?_toList]; exact c44.trans hv)
  | 45, hv => exact (hc 45).trans (by rw [← Array.getElem?_toList]; exact c45.trans hv)
  | 46, hv => exact (hc 46).trans (by rw [← Array.getElem?_toList]; exact c46.trans hv)
  | 47, hv => exact (hc 47).trans (by rw [← Array.getElem?_toList]; exact c47.trans hv)
  | 48, hv => exact (hc 48).trans (by rw [← Array.getElem?_toList]; exact c48.trans hv)
  | 49, hv => exact (hc 49).trans (by rw [← Array.getElem?_toList]; exact c49.trans hv)
  | 50, hv => exact (hc 50).trans (by rw [← Array.getElem?_toList]; exact c50.trans hv)
  | 51, hv => exact (hc 51).trans (by rw [← Array.getElem?_toList]; exact c51.trans hv)
  | 52, hv => exact (hc 52).trans (by rw [← Array.getElem?_toList]; exact c52.trans hv)
  | 53, hv => exact (hc 53).trans (by rw [← Array.getElem?_toList]; exact c53.trans hv)
  | 54, hv => exact (hc 54).trans (by rw [← Array.getElem?_toList]; exact c54.trans hv)
  | 55, hv => exact (hc 55).trans (by rw [← Array.getElem?_toList]; exact c55.trans hv)
  | 56, hv => exact (hc 56).trans (by rw [← Array.getElem?_toList]; exact c56.trans hv)
  | 57, hv => exact (hc 57).trans (by rw [← Array.getElem?_toList]; exact c57.trans hv)
  | 58, hv => exact (hc 58).trans (by rw [← Array.getElem?_toList]; exact c58.trans hv)
  | 59, hv => exact (hc 59).trans (by rw [← Array.getElem?_toList]; exact c59.trans hv)
  | 60, hv => exact (hc 60).trans (by rw [← Array.getElem?_toList]; exact c60.trans hv)
  | 61, hv => exact (hc 61).trans (by rw [← Array.getElem?_toList]; exact c61.trans hv)
  | 62, hv => exact (hc 62).trans (by rw [← Array.getElem?_toList]; exact c62.trans hv)
  | 63, hv => exact (hc 63).trans (by rw [← Array.getElem?_toList]; exact c63.trans hv)
  | 64, hv => exact (hc 64).trans (by rw [← Array.getElem?_toList]; exact c64.trans hv)
  | 65, hv => exact (hc 65).trans (by rw [← Array.getElem?_toList]; exact c65.trans hv)
  | 66, hv => exact (hc 66).trans (by rw [← Array.getElem?_toList]; exact c66.trans hv)
  | 67, hv => exact (hc 67).trans (by rw [← Array.getElem?_toList]; exact c67.trans hv)
  | 68, hv => exact (hc 68).trans (by rw [← Array.getElem?_toList]; exact c68.trans hv)
  | 69, hv => exact (hc 69).trans (by rw [← Array.getElem?_toList]; exact c69.trans hv)
  | 70, hv => exact (hc 70).trans (by rw [← Array.getElem?_toList]; exact c70.trans hv)
  | 71, hv => exact (hc 71).trans (by rw [← Array.getElem?_toList]; exact c71.trans hv)
  | n + 72, hv => exact absurd hv (by simp [CTB])
end Go.Proofs.YtchehejjdinifaaGreatDoor
