/-
  Lists copied into memory of their own by make and copy, whatever the elements' size; no statement is proved here.
-/
import Derived.Test.YtkghplkmfpnhdaaGreatDoorTy
import Derived.Laws.CopyOwn
import Derived.Laws.MakeOwn
namespace Go.Proofs.YtkghplkmfpnhdaaGreatDoor
open Go.RowKit
set_option linter.unusedVariables false
set_option linter.unusedSimpArgs false

/- The slice v of n elements of k cells reads as the cells cs. -/
def Raw (k : Nat) (w : World) (v : Value) (n : Nat) (cs : List Value) : Prop :=
  cs.length = n * k ∧ (∀ u ∈ cs, u.oneCell' = true) ∧ ∃ a cap, v = .slice a n cap ∧ n ≤ cap ∧ cap ≤ maxLen ∧ (a = none → cap = 0) ∧ (n = 0 ∨ ∃ b off, a = some ⟨b, off, none⟩ ∧ ∀ (j : Nat) (u : Value), cs[j]? = some u → w.cell? ⟨b, off + j, none⟩ = some u)
theorem Raw.grew {k : Nat} {w w' : World} {v : Value} {n : Nat} {cs : List Value} (h : Raw k w v n cs) (g : Grew w w') : Raw k w' v n cs := by
  obtain ⟨h1, h2, a, cap, hv, h3, h4, h5, h6⟩ := h
  refine ⟨h1, h2, a, cap, hv, h3, h4, h5, h6.imp_right ?_⟩
  rintro ⟨b, off, ha, hc⟩
  exact ⟨b, off, ha, fun j u hu => cell_grew (hc j u hu) g⟩
theorem Raw.one {k : Nat} {w : World} {v : Value} {n : Nat} {cs : List Value} (h : Raw k w v n cs) : ∃ a cap, v = .slice a n cap ∧ n ≤ cap ∧ cap ≤ maxLen := by
  obtain ⟨h1, h2, a, cap, hv, h3, h4, h5, h6⟩ := h
  exact ⟨a, cap, hv, h3, h4⟩
theorem Raw.nil (k : Nat) (w : World) : Raw k w NILS 0 [] := ⟨by simp, by simp, none, 0, rfl, Nat.le_refl _, by decide, fun _ => rfl, Or.inl rfl⟩
theorem add_at (b off j : Nat) : (Addr.add ⟨b, off, none⟩ j) = ⟨b, off + j, none⟩ := by unfold Addr.add; split <;> simp_all
theorem lst_raw {α : Type} {k : Nat} {E : World → Nat → Nat → α → Prop} {f : α → List Value} (hk : 0 < k) (hf : ∀ a, (f a).length = k) (h1 : ∀ y, ∀ c ∈ f y, c.oneCell' = true) {w : World} {v : Value} {l : List α} (h : Lst k E w v l)
    (hE : ∀ b o x, E w b o x → ∀ j, j < k → w.cell? ⟨b, o + j, none⟩ = (f x)[j]?) : Raw k w v l.length (l.flatMap f) := by
  obtain ⟨a, cap, hv, hl, hm, hz, h3⟩ := h
  have hlen : (l.flatMap f).length = l.length * k := by
    clear h3 hv hl
    induction l with
    | nil => simp
    | cons y l ih => rw [List.flatMap_cons, List.length_append, hf, ih, List.length_cons, Nat.succ_mul]; omega
  refine ⟨hlen, ?_, a, cap, hv, hl, hm, hz, ?_⟩
  · intro c hc
    obtain ⟨y, _, hy⟩ := List.mem_flatMap.1 hc
    exact h1 y c hy
  · rcases h3 with rfl | ⟨b, off, ha, hc⟩
    · left; rfl
    · right
      refine ⟨b, off, ha, fun j u hj => ?_⟩
      have hjl := (List.getElem?_eq_some_iff.1 hj).1
      rw [hlen] at hjl
      have hq : j / k < l.length := Nat.div_lt_of_lt_mul (by rw [Nat.mul_comm]; exact hjl)
      have hx' := hc (j / k) _ (List.getElem?_eq_getElem hq)
      have hm : j % k < k := Nat.mod_lt _ hk
      have := hE _ _ _ hx' (j % k) hm
      have e2 : off + j / k * k + j % k = off + j := by have := Nat.div_add_mod j k; rw [Nat.mul_comm] at this; omega
      rw [e2] at this
      rw [this, ← flat_at f k hf l (j / k) _ (j % k) (List.getElem?_eq_getElem hq) hm, show j / k * k + j % k = j by have := Nat.div_add_mod j k; rw [Nat.mul_comm] at this; omega]
      exact hj
theorem LV.raw {w : World} {v : Value} {l : List VT} (h : LV w v l) : Raw 3 w v l.length (l.flatMap VT.c) :=
  lst_raw (E := EV) (f := VT.c) (by decide) (fun _ => rfl) (by intro y c hc; simp [VT.c] at hc; rcases hc with rfl | rfl | rfl <;> rfl) h (by
    rintro b o x ⟨h0, h1, h2⟩ j hj
    match j, hj with
    | 0, _ => exact h0
    | 1, _ => exact h1
    | 2, _ => exact h2)
theorem LI.raw {w : World} {v : Value} {l : List Int} (h : LI w v l) : Raw 1 w v l.length (l.flatMap ic1) :=
  lst_raw (E := EI) (f := ic1) (by decide) (fun _ => rfl) (by intro y c hc; simp [ic1] at hc; rw [hc]; rfl) h (by
    intro b o x h0 j hj
    match j, hj with
    | 0, _ => exact h0)
theorem LF.raw {w : World} {v : Value} {l : List FT} (h : LF w v l) : Raw 4 w v l.length (l.flatMap FT.c) :=
  lst_raw (E := EF) (f := FT.c) (by decide) (fun _ => rfl) (by intro y c hc; simp [FT.c] at hc; rcases hc with rfl | rfl | rfl | rfl <;> rfl) h (by
    rintro b o x ⟨⟨h0, h1, h2⟩, h3⟩ j hj
    match j, hj with
    | 0, _ => exact h0
    | 1, _ => exact h1
    | 2, _ => exact h2
    | 3, _ => exact h3)
theorem run_copy_k (P : Program) (w : World) (dT sT ty elem : TypeId) (g n k : Nat) (v : Value) (cur : Array Value) (t : TypeId) (cs : List Value)
    (hu : P.underlying dT = some (.slice elem)) (hs : (P.info? elem).map (·.size) = some k)
    (hg : w.heap[g]? = some (.cells cur t (0, 0))) (hsz : cur.size = n * k) (hR : Raw k w v n cs) :
    (Builtin.copy_ #[dT, sT] ty #[.slice (some ⟨g, 0, none⟩) n n, v]).run P w = .ok (goInt n) (w.setRow g cs.toArray) := by
  obtain ⟨hl, h1, a, cap, rfl, hc, hm, hz, h3⟩ := hR
  have hst := run_storeCells_at P g 0 t cs 0 cur w hg (by rw [hl, hsz]; omega) h1
  have e1 : cur.toList.take (0 + 0) ++ cs ++ cur.toList.drop (0 + 0 + cs.length) = cs := by
    have : cur.toList.drop (0 + 0 + cs.length) = [] := List.drop_eq_nil_of_le (by rw [hl]; simp [hsz])
    rw [this]; simp
  rw [e1] at hst
  cases hq : P.info? elem with
  | none => simp [hq] at hs
  | some i =>
    have hi : i.size = k := by simpa [hq] using hs
    cases a with
    | none =>
      obtain rfl := hz rfl
      obtain rfl : n = 0 := by omega
      have hcs : cs = [] := List.eq_nil_of_length_eq_zero (by rw [hl]; simp)
      subst hcs
      have hst' : (storeCells ⟨g, 0, none⟩ [] 0).run P w = .ok () (w.setRow g (#[] : Array Value)) := hst
      simp [Builtin.copy_, run_underlying hu, Builtin.lenOf, Builtin.firstCells, sizeOf, typeInfo, hq, hi, hst']
    | some ad =>
      have hsrc : ∀ j v, cs[j]? = some v → w.cell? (ad.add j) = some v := by
        intro j u hj
        rcases h3 with rfl | ⟨b, off, ha, hcell⟩
        · have hjl := (List.getElem?_eq_some_iff.1 hj).1
          rw [hl] at hjl
          omega
        · injection ha with ha
          subst ha
          rw [add_at]
          exact hcell j u hj
      have hld := run_loadCells_list (P := P) w ad cs hsrc
      rw [hl] at hld
      simp [Builtin.copy_, run_underlying hu, Builtin.lenOf, Builtin.firstCells, sizeOf, typeInfo, hq, hi, hld, hst]
theorem setRow_grew {w0 w : World} (g : Grew w0 w) {x : Nat} (hx : w0.heap.size ≤ x) (cs : Array Value) : Grew w0 (w.setRow x cs) :=
  ⟨g.1.trans ⟨rfl, rfl, rfl, by simp, fun k hk => setRow_other w x k cs (by omega)⟩, by simpa using g.2⟩
theorem wp_copyK {w : World} {ops : Array Oper} {rest : List Oper} {o : Oper} {a : Act} {Q : Exit → Act → World → Prop} (hgd : o.guard = none) (d s : Operand) (dT sT : TypeId)
    (ho : o.op = .call { callee := .builtin .copy, args := #[d, s], argTypes := #[dT, sT] }) (elem : TypeId) (hu : Tryz.prog.underlying dT = some (.slice elem)) (k : Nat) (hsz : (Tryz.prog.info? elem).map (·.size) = some k)
    (g n : Nat) (v : Value) (hd : a.eval d = .slice (some ⟨g, 0, none⟩) n n) (hs : a.eval s = v)
    (cur : Array Value) (t : TypeId) (hg : w.heap[g]? = some (.cells cur t (0, 0))) (hcz : cur.size = n * k) (cs : List Value) (hR : Raw k w v n cs)
    (h : wpList Tryz.prog ops Q rest (a.put o.dst (goInt n)) (w.setRow g cs.toArray)) : wpList Tryz.prog ops Q (o :: rest) a w := by
  refine wpList_plain hgd fun K hK => ?_
  have hrun := run_copy_k Tryz.prog w dT sT o.type elem g n k v cur t cs hu hsz hg hcz hR
  unfold Oper.wp
  simp [execOp, ho, resolve, invoke, builtin, hd, hs, hrun, Result.andThen]
  exact hK _ _ h
end Go.Proofs.YtkghplkmfpnhdaaGreatDoor
