/-
  What the rows' lists give: what the globals hold; no statement is proved here.
-/
import Derived.Test.YtmcljnohdknpoaaDoorDec
import Derived.Lib.LaidTab
import Derived.Stop.LaidErr
import Derived.ChangeArms
namespace Go.Proofs.YtmcljnohdknpoaaDoor
open Go.RowKit
set_option linter.unusedVariables false
set_option linter.unusedSimpArgs false

theorem grid_row {H : Type} {enc : TypeId × Value → H} {P : Program} {w : World} {base : Nat} {sp : Nat → Bool} {held : Bool} {fuel : Nat} {t e : TypeId} {n c : Nat} {cs : List Value} {rows : List (DataW H)} {p : List MemPlace}
    (ht : P.underlying t = some (.array n e)) (hce : P.cellsOf e = c) (h : DataW.trod enc P w base sp held fuel t cs = some (.agg rows, p)) (i : Nat) (d : DataW H) (hi : rows[i]? = some d) :
    ∃ m q, DataW.trod enc P w base sp held m e ((cs.drop (i * c)).take c) = some (d, q) := by
  cases fuel with
  | zero => simp [DataW.trod] at h
  | succ fuel =>
    simp only [DataW.trod, ht, hce] at h
    split at h
    · obtain ⟨xs, hm, hx⟩ := Option.map_eq_some_iff.1 h
      have hxs : xs.map (·.1) = rows := by
        have := congrArg Prod.fst hx
        simpa using this
      have hxl : xs.length = n := by simpa using Lib.mapM_length hm
      have hin : i < n := by
        have : i < rows.length := by
          rcases Nat.lt_or_ge i rows.length with h1 | h1
          · exact h1
          · rw [List.getElem?_eq_none h1] at hi; cases hi
        rw [← hxs] at this
        simpa [hxl] using this
      obtain ⟨b, hb, hf⟩ := Lib.mapM_at hm i i (by simp [hin])
      rw [← hxs, List.getElem?_map, hb] at hi
      simp only [Option.map_some, Option.some.injEq] at hi
      exact ⟨fuel, b.2, by rw [hf, ← hi]⟩
    · cases h
theorem grid_str {H : Type} {enc : TypeId × Value → H} {P : Program} {w : World} {base : Nat} {sp : Nat → Bool} {held : Bool} {fuel : Nat} {t e : TypeId} {n : Nat} {cs : List Value} {rows : List (DataW H)} {p : List MemPlace}
    (ht : P.underlying t = some (.array n e)) (hce : P.cellsOf e = 1) (he : P.underlying e = some .string) (h : DataW.trod enc P w base sp held fuel t cs = some (.agg rows, p)) (i : Nat) (x : ByteArray) (hi : rows[i]? = some (.lit (.string x.data.toList))) :
    cs[i]? = some (.string x) := by
  obtain ⟨m, q, h1⟩ := grid_row ht hce h i _ hi
  obtain ⟨y, hy, hyx, _⟩ := DataW.trod_string he h1
  have e2 := congrArg Prod.fst hyx
  have h2 := congrArg (·[0]?) hy
  simp only [Nat.mul_one, List.getElem?_take, List.getElem?_drop, Nat.add_zero, List.getElem?_cons_zero, Nat.lt_one_iff, Nat.zero_lt_one, if_true] at h2
  simp only [DataW.lit.injEq, Lit.string.injEq] at e2
  have : y = x := ByteArray.ext (Array.toList_inj.1 e2.symm)
  rw [h2, this]
theorem str_cells : Tryd.prog.cellsOf 9 = 1 := by kernel_rfl
theorem nwt_named : Tryd.prog.globalNamed "ratchet/types.numWords" = some 0 := by kernel_rfl
theorem nwt_type : (Tryd.prog.globals[0]?).map (·.type) = some 75 := by kernel_rfl
theorem nwt_of {W : World} {rest : List (String × DataW Unit)} (h : laidMet Tryd.prog (("ratchet/types.numWords", Rows.laid_ratchet_types_numWords) :: rest) W) : ∀ (j : Nat) (v : Value), NW[j]? = some v → W.cell? ⟨0, j, none⟩ = some v := by
  obtain ⟨ps, ⟨g', t', cs, fuel, p, q, hg', ht', hvar, hd, _, _⟩, _⟩ := h
  obtain rfl := Option.some.inj (nwt_named.symm.trans hg')
  obtain rfl := Option.some.inj (nwt_type.symm.trans ht')
  have hc := fun i => World.var?_cell nwt_named hvar i
  have c0 : cs.toList[0]? = some (.string (numW 0)) := grid_str Tryd.underlying75 str_cells Tryd.underlying9 hd 0 (numW 0) rfl
  have c1 : cs.toList[1]? = some (.string (numW 1)) := grid_str Tryd.underlying75 str_cells Tryd.underlying9 hd 1 (numW 1) rfl
  have c2 : cs.toList[2]? = some (.string (numW 2)) := grid_str Tryd.underlying75 str_cells Tryd.underlying9 hd 2 (numW 2) rfl
  have c3 : cs.toList[3]? = some (.string (numW 3)) := grid_str Tryd.underlying75 str_cells Tryd.underlying9 hd 3 (numW 3) rfl
  have c4 : cs.toList[4]? = some (.string (numW 4)) := grid_str Tryd.underlying75 str_cells Tryd.underlying9 hd 4 (numW 4) rfl
  have c5 : cs.toList[5]? = some (.string (numW 5)) := grid_str Tryd.underlying75 str_cells Tryd.underlying9 hd 5 (numW 5) rfl
  have c6 : cs.toList[6]? = some (.string (numW 6)) := grid_str Tryd.underlying75 str_cells Tryd.underlying9 hd 6 (numW 6) rfl
  have c7 : cs.toList[7]? = some (.string (numW 7)) := grid_str Tryd.underlying75 str_cells Tryd.underlying9 hd 7 (numW 7) rfl
  intro j v hv
  match j, hv with
  | 0, hv => exact (hc 0).trans (by rw [← Array.getElem?_toList]; exact c0.trans hv)
  | 1, hv => exact (hc 1).trans (by rw [← Array.getElem?_toList]; exact c1.trans hv)
  | 2, hv => exact (hc 2).trans (by rw [← Array.getElem?_toList]; exact c2.trans hv)
  | 3, hv => exact (hc 3).trans (by rw [← Array.getElem?_toList]; exact c3.trans hv)
  | 4, hv => exact (hc 4).trans (by rw [← Array.getElem?_toList]; exact c4.trans hv)
  | 5, hv => exact (hc 5).trans (by rw [← Array.getElem?_toList]; exact c5.trans hv)
  | 6, hv => exact (hc 6).trans (by rw [← Array.getElem?_toList]; exact c6.trans hv)
  | 7, hv => exact (hc 7).trans (by rw [← Array.getElem?_toList]; exact c7.trans hv)
  | k + 8, hv => exact absurd hv (by simp [NW])
theorem hwt_named : Tryd.prog.globalNamed "ratchet/types.heapWords" = some 1 := by kernel_rfl
theorem hwt_type : (Tryd.prog.globals[1]?).map (·.type) = some 91 := by kernel_rfl
theorem hwt_of {W : World} {rest : List (String × DataW Unit)} (h : laidMet Tryd.prog (("ratchet/types.heapWords", Rows.laid_ratchet_types_heapWords) :: rest) W) : ∀ (j : Nat) (v : Value), HW[j]? = some v → W.cell? ⟨1, j, none⟩ = some v := by
  obtain ⟨ps, ⟨g', t', cs, fuel, p, q, hg', ht', hvar, hd, _, _⟩, _⟩ := h
  obtain rfl := Option.some.inj (hwt_named.symm.trans hg')
  obtain rfl := Option.some.inj (hwt_type.symm.trans ht')
  have hc := fun i => World.var?_cell hwt_named hvar i
  have c0 : cs.toList[0]? = some (.string (heapW 0)) := grid_str Tryd.underlying91 str_cells Tryd.underlying9 hd 0 (heapW 0) rfl
  have c1 : cs.toList[1]? = some (.string (heapW 1)) := grid_str Tryd.underlying91 str_cells Tryd.underlying9 hd 1 (heapW 1) rfl
  have c2 : cs.toList[2]? = some (.string (heapW 2)) := grid_str Tryd.underlying91 str_cells Tryd.underlying9 hd 2 (heapW 2) rfl
  have c3 : cs.toList[3]? = some (.string (heapW 3)) := grid_str Tryd.underlying91 str_cells Tryd.underlying9 hd 3 (heapW 3) rfl
  have c4 : cs.toList[4]? = some (.string (heapW 4)) := grid_str Tryd.underlying91 str_cells Tryd.underlying9 hd 4 (heapW 4) rfl
  have c5 : cs.toList[5]? = some (.string (heapW 5)) := grid_str Tryd.underlying91 str_cells Tryd.underlying9 hd 5 (heapW 5) rfl
  have c6 : cs.toList[6]? = some (.string (heapW 6)) := grid_str Tryd.underlying91 str_cells Tryd.underlying9 hd 6 (heapW 6) rfl
  have c7 : cs.toList[7]? = some (.string (heapW 7)) := grid_str Tryd.underlying91 str_cells Tryd.underlying9 hd 7 (heapW 7) rfl
  have c8 : cs.toList[8]? = some (.string (heapW 8)) := grid_str Tryd.underlying91 str_cells Tryd.underlying9 hd 8 (heapW 8) rfl
  have c9 : cs.toList[9]? = some (.string (heapW 9)) := grid_str Tryd.underlying91 str_cells Tryd.underlying9 hd 9 (heapW 9) rfl
  have c10 : cs.toList[10]? = some (.string (heapW 10)) := grid_str Tryd.underlying91 str_cells Tryd.underlying9 hd 10 (heapW 10) rfl
  have c11 : cs.toList[11]? = some (.string (heapW 11)) := grid_str Tryd.underlying91 str_cells Tryd.underlying9 hd 11 (heapW 11) rfl
  intro j v hv
  match j, hv with
  | 0, hv => exact (hc 0).trans (by rw [← Array.getElem?_toList]; exact c0.trans hv)
  | 1, hv => exact (hc 1).trans (by rw [← Array.getElem?_toList]; exact c1.trans hv)
  | 2, hv => exact (hc 2).trans (by rw [← Array.getElem?_toList]; exact c2.trans hv)
  | 3, hv => exact (hc 3).trans (by rw [← Array.getElem?_toList]; exact c3.trans hv)
  | 4, hv => exact (hc 4).trans (by rw [← Array.getElem?_toList]; exact c4.trans hv)
  | 5, hv => exact (hc 5).trans (by rw [← Array.getElem?_toList]; exact c5.trans hv)
  | 6, hv => exact (hc 6).trans (by rw [← Array.getElem?_toList]; exact c6.trans hv)
  | 7, hv => exact (hc 7).trans (by rw [← Array.getElem?_toList]; exact c7.trans hv)
  | 8, hv => exact (hc 8).trans (by rw [← Array.getElem?_toList]; exact c8.trans hv)
  | 9, hv => exact (hc 9).trans (by rw [← Array.getElem?_toList]; exact c9.trans hv)
  | 10, hv => exact (hc 10).trans (by rw [← Array.getElem?_toList]; exact c10.trans hv)
  | 11, hv => exact (hc 11).trans (by rw [← Array.getElem?_toList]; exact c11.trans hv)
  | k + 12, hv => exact absurd hv (by simp [HW])
theorem pow_type : (Tryd.prog.globals[3]?).map (·.type) = some 134 := by kernel_rfl
theorem syn_type : (Tryd.prog.globals[4]?).map (·.type) = some 106 := by kernel_rfl
theorem rng_type : (Tryd.prog.globals[5]?).map (·.type) = some 106 := by kernel_rfl
theorem pow_of {W : World} {rest : List (String × DataW Unit)} (h : laidMet Tryd.prog (("internal/strconv.uint64pow10", Rows.laid_internal_strconv_uint64pow10) :: rest) W) : Lib.TabIs Tryd.prog W "internal/strconv.uint64pow10" .u64 Lib.pow10Tab :=
  Lib.tabIs_of_head pow_named pow_type Tryd.underlying134 Tryd.underlying121 (by kernel_rfl) (by kernel_rfl) h
theorem err_star : "*" ++ "errors.errorString" = "*errors.errorString" := by decide
theorem err_row : ∀ u, Tryd.prog.typeName? 3 u = some "*errors.errorString" → u = 146 := fun u h =>
  typeName_ptr_named (nm := "errors.errorString") (by rw [err_star]; kernel_rfl) (by kernel_rfl) (by decide) u (by rw [err_star]; exact h)
theorem syn_of {W : World} {rest : List (String × DataW Unit)} (h : laidMet Tryd.prog (("strconv.ErrSyntax", Rows.laid_strconv_ErrSyntax) :: rest) W) : ∃ te pe, W.var? Tryd.prog "strconv.ErrSyntax" = some #[.iface te pe] := by
  obtain ⟨a, s, h1, _⟩ := laid_sentinel h syn_named syn_type Tryd.underlying106 err_row Tryd.underlying146 Tryd.underlying148 rfl rfl Tryd.underlying9 (by kernel_rfl) (by kernel_rfl)
  exact ⟨_, _, h1⟩
theorem rng_of {W : World} {rest : List (String × DataW Unit)} (h : laidMet Tryd.prog (("strconv.ErrRange", Rows.laid_strconv_ErrRange) :: rest) W) : ∃ te pe, W.var? Tryd.prog "strconv.ErrRange" = some #[.iface te pe] := by
  obtain ⟨a, s, h1, _⟩ := laid_sentinel h rng_named rng_type Tryd.underlying106 err_row Tryd.underlying146 Tryd.underlying148 rfl rfl Tryd.underlying9 (by kernel_rfl) (by kernel_rfl)
  exact ⟨_, _, h1⟩
theorem env_of {W : World} (h : laidMet Tryd.prog Rows.typesParsesRow.laid W) : Env W := by
  have h2 := h.tail.tail
  have h3 := h2.tail
  have h4 := h3.tail
  have h5 := h4.tail
  have h6 := h5.tail
  exact ⟨⟨nwt_of h5, hwt_of h6⟩, pow_of h2, syn_of h4, rng_of h3⟩
end Go.Proofs.YtmcljnohdknpoaaDoor
