/-
  What the rows' lists give: the cells of the tables of what operators take and what loads and stores move; no statement is proved here.
-/
import Derived.Test.YtjfiggkjdbnjeaaDoorSgT
import Derived.Lib.LaidTab
import Derived.ChangeArms
import Derived.Stop.LaidErr
namespace Go.Proofs.YtjfiggkjdbnjeaaDoor
open Go.RowKit
set_option linter.unusedVariables false
set_option linter.unusedSimpArgs false

theorem grid_row {H : Type} {enc : TypeId × Value → H} {P : Program} {w : World} {base : Nat} {sp : Nat → Bool} {held : Bool} {fuel : Nat} {t e : TypeId} {n c : Nat} {cs : List Value} {rows : List (DataW H)} {p : List MemPlace}
    (ht : P.underlying t = some (.array n e)) (hce : P.cellsOf e = c) (h : DataW.trod enc P w base sp held fuel t cs = some (.agg rows, p)) (i : Nat) (d : DataW H) (hi : rows[i]? = some d) :
    ∃ m q, DataW.trod enc P w base sp held m e ((cs.drop (i * c)).take c) = some (d, q) := by
  cases fuel with
  | zero => simp [DataW.trod] at h
  | succ fuel =>
    simp only [DataW.trod, ht, hce] at h
    split at h
    · obtain ⟨xs, hm, hx⟩ := Option.map_eq_some_iff.1 h
      have hxs : xs.map (·.1) = rows := by
        have := congrArg Prod.fst hx
        simpa using this
      have hxl : xs.length = n := by simpa using Lib.mapM_length hm
      have hin : i < n := by
        have : i < rows.length := by
          rcases Nat.lt_or_ge i rows.length with h1 | h1
          · exact h1
          · rw [List.getElem?_eq_none h1] at hi; cases hi
        rw [← hxs] at this
        simpa [hxl] using this
      obtain ⟨b, hb, hf⟩ := Lib.mapM_at hm i i (by simp [hin])
      rw [← hxs, List.getElem?_map, hb] at hi
      simp only [Option.map_some, Option.some.injEq] at hi
      exact ⟨fuel, b.2, by rw [hf, ← hi]⟩
    · cases h
theorem grid_int {H : Type} {enc : TypeId × Value → H} {P : Program} {w : World} {base : Nat} {sp : Nat → Bool} {held : Bool} {fuel : Nat} {e : TypeId} {fs : Array Field} {cs : List Value} {d : List (DataW H)} {p : List MemPlace} {i c : Nat}
    (he : P.underlying e = some (.struct fs)) (h : DataW.trod enc P w base sp held fuel e ((cs.drop (i * c)).take c) = some (.agg d, p)) (j : Nat) (fld : Field) (hf : fs[j]? = some fld) (k : IntKind) (hk : P.underlying fld.type = some (.int k)) (hc : P.cellsOf fld.type = 1)
    (ho : fld.offset < c) (z : Int) (hz : d[j]? = some (.lit (.int k z))) : cs[i * c + fld.offset]? = some (.int k z) := by
  obtain ⟨xs, n, _, hx, _, _, hall⟩ := DataW.trod_struct he h
  have h1 := hall j fld hf
  have hd : d = xs.map (·.1) := by simpa using congrArg Prod.fst hx
  rw [hd, List.getElem?_map] at hz
  cases hb : xs[j]? with
  | none => rw [hb] at hz; cases hz
  | some b =>
    rw [hb] at hz h1
    simp only [Option.map_some, Option.some.injEq] at hz
    rw [hc] at h1
    obtain ⟨y, hy, hyx, _⟩ := DataW.trod_int hk h1
    have : y = z := by
      have e2 := congrArg Prod.fst hyx
      rw [hz] at e2
      simpa using e2.symm
    subst this
    have h2 := congrArg (·[0]?) hy
    simp only [List.getElem?_take, List.getElem?_drop, Nat.add_zero, List.getElem?_cons_zero, Nat.lt_one_iff, Nat.zero_lt_one, if_true, ho] at h2
    exact h2
theorem trod_boolX {H : Type} {enc : TypeId × Value → H} {P : Program} {w : World} {base : Nat} {sp : Nat → Bool} {held : Bool} {fuel : Nat} {t : TypeId} {cs : List Value} {x : DataW H × List MemPlace}
    (ht : P.underlying t = some .bool) (h : DataW.trod enc P w base sp held fuel t cs = some x) : ∃ z, cs = [.bool z] ∧ x = (.lit (.bool z), []) ∧ True := by
  obtain ⟨z, h1, h2⟩ := DataW.trod_bool ht h
  exact ⟨z, h1, h2, trivial⟩
theorem grid_bool {H : Type} {enc : TypeId × Value → H} {P : Program} {w : World} {base : Nat} {sp : Nat → Bool} {held : Bool} {fuel : Nat} {e : TypeId} {fs : Array Field} {cs : List Value} {d : List (DataW H)} {p : List MemPlace} {i c : Nat}
    (he : P.underlying e = some (.struct fs)) (h : DataW.trod enc P w base sp held fuel e ((cs.drop (i * c)).take c) = some (.agg d, p)) (j : Nat) (fld : Field) (hf : fs[j]? = some fld) (hk : P.underlying fld.type = some .bool) (hc : P.cellsOf fld.type = 1)
    (ho : fld.offset < c) (z : Bool) (hz : d[j]? = some (.lit (.bool z))) : cs[i * c + fld.offset]? = some (.bool z) := by
  obtain ⟨xs, n, _, hx, _, _, hall⟩ := DataW.trod_struct he h
  have h1 := hall j fld hf
  have hd : d = xs.map (·.1) := by simpa using congrArg Prod.fst hx
  rw [hd, List.getElem?_map] at hz
  cases hb : xs[j]? with
  | none => rw [hb] at hz; cases hz
  | some b =>
    rw [hb] at hz h1
    simp only [Option.map_some, Option.some.injEq] at hz
    rw [hc] at h1
    obtain ⟨y, hy, hyx, _⟩ := trod_boolX hk h1
    have : y = z := by
      have e2 := congrArg Prod.fst hyx
      rw [hz] at e2
      simpa using e2.symm
    subst this
    have h2 := congrArg (·[0]?) hy
    simp only [List.getElem?_take, List.getElem?_drop, Nat.add_zero, List.getElem?_cons_zero, Nat.lt_one_iff, Nat.zero_lt_one, if_true, ho] at h2
    exact h2
theorem tab_flat {α : Type} {k : Nat} (hk : 0 < k) (f : α → List Value) (hf : ∀ a, (f a).length = k) (L : List α) (j : Nat) (v : Value) (h : (L.flatMap f)[j]? = some v) : ∃ i r, L[i]? = some r ∧ j = i * k + j % k ∧ j % k < k ∧ (f r)[j % k]? = some v := by
  have hlen : (L.flatMap f).length = L.length * k := by
    clear h
    induction L with
    | nil => simp
    | cons a l ih => simp [List.flatMap_cons, hf, ih, Nat.succ_mul]; omega
  have hj : j < L.length * k := by rw [← hlen]; exact (List.getElem?_eq_some_iff.1 h).1
  have hi : j / k < L.length := (Nat.div_lt_iff_lt_mul hk).2 hj
  have e : j = j / k * k + j % k := by rw [Nat.mul_comm]; exact (Nat.div_add_mod j k).symm
  refine ⟨j / k, _, List.getElem?_eq_getElem hi, e, Nat.mod_lt _ hk, ?_⟩
  rw [← flat_at f k hf L (j / k) _ (j % k) (List.getElem?_eq_getElem hi) (Nat.mod_lt _ hk), ← e]
  exact h
theorem gSigs : Tryd.prog.globalNamed "ratchet/instr.sigs" = some 2 := by kernel_rfl
theorem gSigsType : (Tryd.prog.globals[2]?).map (·.type) = some 122 := by kernel_rfl
theorem cellsSig : Tryd.prog.cellsOf 121 = 4 := by kernel_rfl
def dSig (r : Int × Int × Int × Int) : DataW Unit := .agg [.lit (.int .i64 r.1), .lit (.int .i64 r.2.1), .lit (.int .i64 r.2.2.1), .lit (.int .i64 r.2.2.2)]
theorem sigs_rows : (Rows.laid_ratchet_instr_sigs : DataW Unit) = .agg (sigL.map dSig) := by kernel_rfl
set_option maxRecDepth 100000 in
theorem tabS_of {W : World} {rest : List (String × DataW Unit)} (h : laidMet Tryd.prog (("ratchet/instr.sigs", Rows.laid_ratchet_instr_sigs) :: rest) W) : TabS W := by
  rw [sigs_rows] at h
  obtain ⟨ps, ⟨g', t', cs, fuel, p, q, hg', ht', hvar, hd, _, _⟩, _⟩ := h
  obtain rfl := Option.some.inj (gSigs.symm.trans hg')
  obtain rfl := Option.some.inj (gSigsType.symm.trans ht')
  have hc := fun i => World.var?_cell gSigs hvar i
  have main : ∀ i r, sigL[i]? = some r → cs.toList[i * 4]? = some (.int .i64 r.1) ∧ cs.toList[i * 4 + 1]? = some (.int .i64 r.2.1) ∧ cs.toList[i * 4 + 2]? = some (.int .i64 r.2.2.1) ∧ cs.toList[i * 4 + 3]? = some (.int .i64 r.2.2.2) := by
    intro i r hr
    obtain ⟨m0, q0, h0⟩ := grid_row Tryd.underlying122 cellsSig hd i (dSig r) (by rw [List.getElem?_map, hr]; rfl)
    exact ⟨grid_int Tryd.underlying121 h0 0 _ rfl .i64 (by kernel_rfl) (by kernel_rfl) (by decide) r.1 rfl, grid_int Tryd.underlying121 h0 1 _ rfl .i64 (by kernel_rfl) (by kernel_rfl) (by decide) r.2.1 rfl, grid_int Tryd.underlying121 h0 2 _ rfl .i64 (by kernel_rfl) (by kernel_rfl) (by decide) r.2.2.1 rfl, grid_int Tryd.underlying121 h0 3 _ rfl .i64 (by kernel_rfl) (by kernel_rfl) (by decide) r.2.2.2 rfl⟩
  intro j v hj
  rw [SGB, List.getElem?_toArray] at hj
  obtain ⟨i, r, hr, e, hm, hv⟩ := tab_flat (k := 4) (by omega) c4i (fun _ => rfl) sigL j v hj
  obtain ⟨m0, m1, m2, m3⟩ := main i r hr
  refine (hc j).trans ?_
  rw [← Array.getElem?_toList, e]
  generalize j % 4 = k at *
  match k, hm, hv with
  | 0, _, hv => exact m0.trans hv
  | 1, _, hv => exact m1.trans hv
  | 2, _, hv => exact m2.trans hv
  | 3, _, hv => exact m3.trans hv
theorem gAcc : Tryd.prog.globalNamed "ratchet/instr.accesses" = some 0 := by kernel_rfl
theorem gAccType : (Tryd.prog.globals[0]?).map (·.type) = some 90 := by kernel_rfl
theorem cellsAcc : Tryd.prog.cellsOf 89 = 3 := by kernel_rfl
def dAcc (r : Int × Int × Bool) : DataW Unit := .agg [.lit (.int .i64 r.1), .lit (.int .i64 r.2.1), .lit (.bool r.2.2)]
theorem accs_rows : (Rows.laid_ratchet_instr_accesses : DataW Unit) = .agg (accL.map dAcc) := by kernel_rfl
set_option maxRecDepth 100000 in
theorem tabA_of {W : World} {rest : List (String × DataW Unit)} (h : laidMet Tryd.prog (("ratchet/instr.accesses", Rows.laid_ratchet_instr_accesses) :: rest) W) : TabA W := by
  rw [accs_rows] at h
  obtain ⟨ps, ⟨g', t', cs, fuel, p, q, hg', ht', hvar, hd, _, _⟩, _⟩ := h
  obtain rfl := Option.some.inj (gAcc.symm.trans hg')
  obtain rfl := Option.some.inj (gAccType.symm.trans ht')
  have hc := fun i => World.var?_cell gAcc hvar i
  have main : ∀ i r, accL[i]? = some r → cs.toList[i * 3]? = some (.int .i64 r.1) ∧ cs.toList[i * 3 + 1]? = some (.int .i64 r.2.1) ∧ cs.toList[i * 3 + 2]? = some (.bool r.2.2) := by
    intro i r hr
    obtain ⟨m0, q0, h0⟩ := grid_row Tryd.underlying90 cellsAcc hd i (dAcc r) (by rw [List.getElem?_map, hr]; rfl)
    exact ⟨grid_int Tryd.underlying89 h0 0 _ rfl .i64 (by kernel_rfl) (by kernel_rfl) (by decide) r.1 rfl, grid_int Tryd.underlying89 h0 1 _ rfl .i64 (by kernel_rfl) (by kernel_rfl) (by decide) r.2.1 rfl, grid_bool Tryd.underlying89 h0 2 _ rfl (by kernel_rfl) (by kernel_rfl) (by decide) r.2.2 rfl⟩
  intro j v hj
  rw [ACB, List.getElem?_toArray] at hj
  obtain ⟨i, r, hr, e, hm, hv⟩ := tab_flat (k := 3) (by omega) c3a (fun _ => rfl) accL j v hj
  obtain ⟨m0, m1, m2⟩ := main i r hr
  refine (hc j).trans ?_
  rw [← Array.getElem?_toList, e]
  generalize j % 3 = k at *
  match k, hm, hv with
  | 0, _, hv => exact m0.trans hv
  | 1, _, hv => exact m1.trans hv
  | 2, _, hv => exact m2.trans hv
end Go.Proofs.YtjfiggkjdbnjeaaDoor
