/-
  stack's copied at each of its types; no statement is proved here.
-/
import Derived.Test.YtnmbniojejckpaaGreatDoorTy
import Derived.Laws.CopyOwn
import Derived.Laws.MakeOwn
set_option maxRecDepth 100000
set_option maxHeartbeats 8000000
namespace Go.Proofs.YtnmbniojejckpaaGreatDoor
open Go.RowKit
set_option linter.unusedVariables false
set_option linter.unusedSimpArgs false
/- The slice v of n elements of k cells reads as the cells cs. -/
def Raw (k : Nat) (w : World) (v : Value) (n : Nat) (cs : List Value) : Prop :=
  cs.length = n * k ∧ (∀ u ∈ cs, u.oneCell' = true) ∧ ∃ a cap, v = .slice a n cap ∧ n ≤ cap ∧ cap ≤ maxLen ∧ (a = none → cap = 0) ∧ (n = 0 ∨ ∃ b off, a = some ⟨b, off, none⟩ ∧ ∀ (j : Nat) (u : Value), cs[j]? = some u → w.cell? ⟨b, off + j, none⟩ = some u)
theorem Raw.grew {k : Nat} {w w' : World} {v : Value} {n : Nat} {cs : List Value} (h : Raw k w v n cs) (g : Grew w w') : Raw k w' v n cs := by
  obtain ⟨h1, h2, a, cap, hv, h3, h4, h5, h6⟩ := h
  refine ⟨h1, h2, a, cap, hv, h3, h4, h5, h6.imp_right ?_⟩
  rintro ⟨b, off, ha, hc⟩
  exact ⟨b, off, ha, fun j u hu => cell_grew (hc j u hu) g⟩
theorem Raw.one {k : Nat} {w : World} {v : Value} {n : Nat} {cs : List Value} (h : Raw k w v n cs) : ∃ a cap, v = .slice a n cap ∧ n ≤ cap ∧ cap ≤ maxLen := by
  obtain ⟨h1, h2, a, cap, hv, h3, h4, h5, h6⟩ := h
  exact ⟨a, cap, hv, h3, h4⟩
theorem Raw.nil (k : Nat) (w : World) : Raw k w NILS 0 [] := ⟨by simp, by simp, none, 0, rfl, Nat.le_refl _, by decide, fun _ => rfl, Or.inl rfl⟩
theorem add_at (b off j : Nat) : (Addr.add ⟨b, off, none⟩ j) = ⟨b, off + j, none⟩ := by unfold Addr.add; split <;> simp_all
theorem lst_raw {α : Type} {k : Nat} {E : World → Nat → Nat → α → Prop} {f : α → List Value} (hk : 0 < k) (hf : ∀ a, (f a).length = k) (h1 : ∀ y, ∀ c ∈ f y, c.oneCell' = true) {w : World} {v : Value} {l : List α} (h : Lst k E w v l)
    (hE : ∀ b o x, E w b o x → ∀ j, j < k → w.cell? ⟨b, o + j, none⟩ = (f x)[j]?) : Raw k w v l.length (l.flatMap f) := by
  obtain ⟨a, cap, hv, hl, hm, hz, h3⟩ := h
  have hlen : (l.flatMap f).length = l.length * k := by
    clear h3 hv hl
    induction l with
    | nil => simp
    | cons y l ih => rw [List.flatMap_cons, List.length_append, hf, ih, List.length_cons, Nat.succ_mul]; omega
  refine ⟨hlen, ?_, a, cap, hv, hl, hm, hz, ?_⟩
  · intro c hc
    obtain ⟨y, _, hy⟩ := List.mem_flatMap.1 hc
    exact h1 y c hy
  · rcases h3 with rfl | ⟨b, off, ha, hc⟩
    · left; rfl
    · right
      refine ⟨b, off, ha, fun j u hj => ?_⟩
      have hjl := (List.getElem?_eq_some_iff.1 hj).1
      rw [hlen] at hjl
      have hq : j / k < l.length := Nat.div_lt_of_lt_mul (by rw [Nat.mul_comm]; exact hjl)
      have hx' := hc (j / k) _ (List.getElem?_eq_getElem hq)
      have hm : j % k < k := Nat.mod_lt _ hk
      have := hE _ _ _ hx' (j % k) hm
      have e2 : off + j / k * k + j % k = off + j := by have := Nat.div_add_mod j k; rw [Nat.mul_comm] at this; omega
      rw [e2] at this
      rw [this, ← flat_at f k hf l (j / k) _ (j % k) (List.getElem?_eq_getElem hq) hm, show j / k * k + j % k = j by have := Nat.div_add_mod j k; rw [Nat.mul_comm] at this; omega]
      exact hj
theorem LV.raw {w : World} {v : Value} {l : List VT} (h : LV w v l) : Raw 3 w v l.length (l.flatMap VT.c) :=
  lst_raw (E := EV) (f := VT.c) (by decide) (fun _ => rfl) (by intro y c hc; simp [VT.c] at hc; rcases hc with rfl | rfl | rfl <;> rfl) h (by
    rintro b o x ⟨h0, h1, h2⟩ j hj
    match j, hj with
    | 0, _ => exact h0
    | 1, _ => exact h1
    | 2, _ => exact h2)
theorem LI.raw {w : World} {v : Value} {l : List Int} (h : LI w v l) : Raw 1 w v l.length (l.flatMap ic1) :=
  lst_raw (E := EI) (f := ic1) (by decide) (fun _ => rfl) (by intro y c hc; simp [ic1] at hc; rw [hc]; rfl) h (by
    intro b o x h0 j hj
    match j, hj with
    | 0, _ => exact h0)
theorem LF.raw {w : World} {v : Value} {l : List FT} (h : LF w v l) : Raw 4 w v l.length (l.flatMap FT.c) :=
  lst_raw (E := EF) (f := FT.c) (by decide) (fun _ => rfl) (by intro y c hc; simp [FT.c] at hc; rcases hc with rfl | rfl | rfl | rfl <;> rfl) h (by
    rintro b o x ⟨⟨h0, h1, h2⟩, h3⟩ j hj
    match j, hj with
    | 0, _ => exact h0
    | 1, _ => exact h1
    | 2, _ => exact h2
    | 3, _ => exact h3)
theorem run_copy_k (P : Program) (w : World) (dT sT ty elem : TypeId) (g n k : Nat) (v : Value) (cur : Array Value) (t : TypeId) (cs : List Value)
    (hu : P.underlying dT = some (.slice elem)) (hs : (P.info? elem).map (·.size) = some k)
    (hg : w.heap[g]? = some (.cells cur t (0, 0))) (hsz : cur.size = n * k) (hR : Raw k w v n cs) :
    (Builtin.copy_ #[dT, sT] ty #[.slice (some ⟨g, 0, none⟩) n n, v]).run P w = .ok (goInt n) (w.setRow g cs.toArray) := by
  obtain ⟨hl, h1, a, cap, rfl, hc, hm, hz, h3⟩ := hR
  have hst := run_storeCells_at P g 0 t cs 0 cur w hg (by rw [hl, hsz]; omega) h1
  have e1 : cur.toList.take (0 + 0) ++ cs ++ cur.toList.drop (0 + 0 + cs.length) = cs := by
    have : cur.toList.drop (0 + 0 + cs.length) = [] := List.drop_eq_nil_of_le (by rw [hl]; simp [hsz])
    rw [this]; simp
  rw [e1] at hst
  cases hq : P.info? elem with
  | none => simp [hq] at hs
  | some i =>
    have hi : i.size = k := by simpa [hq] using hs
    cases a with
    | none =>
      obtain rfl := hz rfl
      obtain rfl : n = 0 := by omega
      have hcs : cs = [] := List.eq_nil_of_length_eq_zero (by rw [hl]; simp)
      subst hcs
      have hst' : (storeCells ⟨g, 0, none⟩ [] 0).run P w = .ok () (w.setRow g (#[] : Array Value)) := hst
      simp [Builtin.copy_, run_underlying hu, Builtin.lenOf, Builtin.firstCells, sizeOf, typeInfo, hq, hi, hst']
    | some ad =>
      have hsrc : ∀ j v, cs[j]? = some v → w.cell? (ad.add j) = some v := by
        intro j u hj
        rcases h3 with rfl | ⟨b, off, ha, hcell⟩
        · have hjl := (List.getElem?_eq_some_iff.1 hj).1
          rw [hl] at hjl
          omega
        · injection ha with ha
          subst ha
          rw [add_at]
          exact hcell j u hj
      have hld := run_loadCells_list (P := P) w ad cs hsrc
      rw [hl] at hld
      simp [Builtin.copy_, run_underlying hu, Builtin.lenOf, Builtin.firstCells, sizeOf, typeInfo, hq, hi, hld, hst]
theorem setRow_grew {w0 w : World} (g : Grew w0 w) {x : Nat} (hx : w0.heap.size ≤ x) (cs : Array Value) : Grew w0 (w.setRow x cs) :=
  ⟨g.1.trans ⟨rfl, rfl, rfl, by simp, fun k hk => setRow_other w x k cs (by omega)⟩, by simpa using g.2⟩
/- A new row that holds these cells, and nothing old has changed. -/
def NewRow (e : TypeId) (n : Nat) (cs : List Value) (w : World) (en : Ending) (w' : World) : Prop :=
  ∃ g, en = .returned (.slice (some ⟨g, 0, none⟩) n n) ∧ w.heap.size ≤ g ∧ w'.heap[g]? = some (.cells cs.toArray e (0, 0)) ∧ Grew w w'
theorem infoRk : (Tryz.prog.info? 102).map (fun i => (i.zero, i.size, i.bytes)) = some (some (.agg #[.slice none 0 0, .bool false]), 2, 32) := by kernel_rfl
theorem size_of {e : TypeId} {z : Value} {k b : Nat} (h : (Tryz.prog.info? e).map (fun i => (i.zero, i.size, i.bytes)) = some (some z, k, b)) : (Tryz.prog.info? e).map (·.size) = some k := by
  obtain ⟨i, h0, h1, h2, h3⟩ := info_parts h
  rw [h0]; simp [h2]
theorem run_makeK {w : World} {t e : TypeId} {z : Value} {k b n : Nat} (hu : Tryz.prog.underlying t = some (.slice e)) (h : (Tryz.prog.info? e).map (fun i => (i.zero, i.size, i.bytes)) = some (some z, k, b)) (hb : b ≤ 1000) (hn : n ≤ 8388608) :
    (Instr.makeSlice t (.int .i64 (n : Int)) (.int .i64 (n : Int))).run Tryz.prog w = .ok (.slice (some ⟨w.heap.size, 0, none⟩) n n) (w.alloc (.cells (madeCells z.cells (n * k)) e)) := by
  obtain ⟨i, h0, h1, h2, h3⟩ := info_parts h
  have hm : i.bytes * n ≤ 1000 * 8388608 := Nat.mul_le_mul (by omega) hn
  have hm2 : (i.bytes : Int) * (n : Int) ≤ 281474976710656 := by
    have : ((i.bytes * n : Nat) : Int) ≤ 281474976710656 := by omega
    rwa [Int.natCast_mul] at this
  have hr := run_make (P := Tryz.prog) w t e i z hu h0 h1 .i64 .i64 n n (by omega) (Int.le_refl _) hm2 (by omega)
  simp only [Int.toNat_natCast, h2] at hr
  exact hr
theorem copiedV_any {w : World} {v : Value} {n : Nat} {cs : List Value} (h : Raw 3 w v n cs) (hn : n ≤ 8388608) :
    Calls Tryz.prog 19 #[v] w (NewRow 46 n cs w) := by
  obtain ⟨a, cap, hv, hle, hmx⟩ := h.one
  subst hv
  have hm := run_makeK (w := w) (n := n) Tryz.underlying27 infoV (by decide) hn
  obtain ⟨C, hC⟩ : ∃ C, madeCells (Value.cells (.agg #[.int .i64 0, .bool false, .int .i64 0])) (n * 3) = C := ⟨_, rfl⟩
  rw [hC] at hm
  have hz : C.size = n * 3 := by rw [← hC]; exact size_madeCells _ _
  have hcp := run_copy_k Tryz.prog (w.alloc (.cells C 46)) 27 27 3 46 w.heap.size n 3 (.slice a n cap) C 46 cs Tryz.underlying27 (size_of infoV) (heap_alloc_last _ _) hz (h.grew ((Grew.refl w).alloc _))
  have G1 : Hid (Grew w ((w.alloc (.cells C 46)).setRow w.heap.size cs.toArray)) := setRow_grew ((Grew.refl w).alloc _) (Nat.le_refl _) _
  have B1 : Hid (((w.alloc (.cells C 46)).setRow w.heap.size cs.toArray).heap[w.heap.size]? = some (.cells cs.toArray 46 (0, 0))) := setRow_heap _ _ _ _ _ _ (heap_alloc_last _ _)
  generalize (w.alloc (.cells C 46)).setRow w.heap.size cs.toArray = W1 at *
  clear h hC
  go_enter Tryz.func19, Tryz.ntmps19
  go_wp2_with fail
  go_ret
  exact ⟨w.heap.size, rfl, Nat.le_refl _, B1.out, G1.out⟩
theorem copiedI_any {w : World} {v : Value} {n : Nat} {cs : List Value} (h : Raw 1 w v n cs) (hn : n ≤ 8388608) :
    Calls Tryz.prog 53 #[v] w (NewRow 3 n cs w) := by
  obtain ⟨a, cap, hv, hle, hmx⟩ := h.one
  subst hv
  have hm := run_makeK (w := w) (n := n) Tryz.underlying23 infoI (by decide) hn
  obtain ⟨C, hC⟩ : ∃ C, madeCells (Value.cells (.int .i64 0)) (n * 1) = C := ⟨_, rfl⟩
  rw [hC] at hm
  have hz : C.size = n * 1 := by rw [← hC]; exact size_madeCells _ _
  have hcp := run_copy_k Tryz.prog (w.alloc (.cells C 3)) 23 23 3 3 w.heap.size n 1 (.slice a n cap) C 3 cs Tryz.underlying23 (size_of infoI) (heap_alloc_last _ _) hz (h.grew ((Grew.refl w).alloc _))
  have G1 : Hid (Grew w ((w.alloc (.cells C 3)).setRow w.heap.size cs.toArray)) := setRow_grew ((Grew.refl w).alloc _) (Nat.le_refl _) _
  have B1 : Hid (((w.alloc (.cells C 3)).setRow w.heap.size cs.toArray).heap[w.heap.size]? = some (.cells cs.toArray 3 (0, 0))) := setRow_heap _ _ _ _ _ _ (heap_alloc_last _ _)
  generalize (w.alloc (.cells C 3)).setRow w.heap.size cs.toArray = W1 at *
  clear h hC
  go_enter Tryz.func53, Tryz.ntmps53
  go_wp2_with fail
  go_ret
  exact ⟨w.heap.size, rfl, Nat.le_refl _, B1.out, G1.out⟩
theorem copiedF_any {w : World} {v : Value} {n : Nat} {cs : List Value} (h : Raw 4 w v n cs) (hn : n ≤ 8388608) :
    Calls Tryz.prog 54 #[v] w (NewRow 112 n cs w) := by
  obtain ⟨a, cap, hv, hle, hmx⟩ := h.one
  subst hv
  have hm := run_makeK (w := w) (n := n) Tryz.underlying104 infoF (by decide) hn
  obtain ⟨C, hC⟩ : ∃ C, madeCells (Value.cells (.agg #[.int .i64 0, .bool false, .int .i64 0, .bool false])) (n * 4) = C := ⟨_, rfl⟩
  rw [hC] at hm
  have hz : C.size = n * 4 := by rw [← hC]; exact size_madeCells _ _
  have hcp := run_copy_k Tryz.prog (w.alloc (.cells C 112)) 104 104 3 112 w.heap.size n 4 (.slice a n cap) C 112 cs Tryz.underlying104 (size_of infoF) (heap_alloc_last _ _) hz (h.grew ((Grew.refl w).alloc _))
  have G1 : Hid (Grew w ((w.alloc (.cells C 112)).setRow w.heap.size cs.toArray)) := setRow_grew ((Grew.refl w).alloc _) (Nat.le_refl _) _
  have B1 : Hid (((w.alloc (.cells C 112)).setRow w.heap.size cs.toArray).heap[w.heap.size]? = some (.cells cs.toArray 112 (0, 0))) := setRow_heap _ _ _ _ _ _ (heap_alloc_last _ _)
  generalize (w.alloc (.cells C 112)).setRow w.heap.size cs.toArray = W1 at *
  clear h hC
  go_enter Tryz.func54, Tryz.ntmps54
  go_wp2_with fail
  go_ret
  exact ⟨w.heap.size, rfl, Nat.le_refl _, B1.out, G1.out⟩
theorem copiedS_any {w : World} {v : Value} {n : Nat} {cs : List Value} (h : Raw 6 w v n cs) (hn : n ≤ 8388608) :
    Calls Tryz.prog 52 #[v] w (NewRow 108 n cs w) := by
  obtain ⟨a, cap, hv, hle, hmx⟩ := h.one
  subst hv
  have hm := run_makeK (w := w) (n := n) Tryz.underlying100 infoS (by decide) hn
  obtain ⟨C, hC⟩ : ∃ C, madeCells (Value.cells (.agg #[.bool false, .slice none 0 0, .int .i64 0, .slice none 0 0, .slice none 0 0, .slice none 0 0])) (n * 6) = C := ⟨_, rfl⟩
  rw [hC] at hm
  have hz : C.size = n * 6 := by rw [← hC]; exact size_madeCells _ _
  have hcp := run_copy_k Tryz.prog (w.alloc (.cells C 108)) 100 100 3 108 w.heap.size n 6 (.slice a n cap) C 108 cs Tryz.underlying100 (size_of infoS) (heap_alloc_last _ _) hz (h.grew ((Grew.refl w).alloc _))
  have G1 : Hid (Grew w ((w.alloc (.cells C 108)).setRow w.heap.size cs.toArray)) := setRow_grew ((Grew.refl w).alloc _) (Nat.le_refl _) _
  have B1 : Hid (((w.alloc (.cells C 108)).setRow w.heap.size cs.toArray).heap[w.heap.size]? = some (.cells cs.toArray 108 (0, 0))) := setRow_heap _ _ _ _ _ _ (heap_alloc_last _ _)
  generalize (w.alloc (.cells C 108)).setRow w.heap.size cs.toArray = W1 at *
  clear h hC
  go_enter Tryz.func52, Tryz.ntmps52
  go_wp2_with fail
  go_ret
  exact ⟨w.heap.size, rfl, Nat.le_refl _, B1.out, G1.out⟩
theorem copiedR_any {w : World} {v : Value} {n : Nat} {cs : List Value} (h : Raw 2 w v n cs) (hn : n ≤ 8388608) :
    Calls Tryz.prog 51 #[v] w (NewRow 102 n cs w) := by
  obtain ⟨a, cap, hv, hle, hmx⟩ := h.one
  subst hv
  have hm := run_makeK (w := w) (n := n) Tryz.underlying22 infoRk (by decide) hn
  obtain ⟨C, hC⟩ : ∃ C, madeCells (Value.cells (.agg #[.slice none 0 0, .bool false])) (n * 2) = C := ⟨_, rfl⟩
  rw [hC] at hm
  have hz : C.size = n * 2 := by rw [← hC]; exact size_madeCells _ _
  have hcp := run_copy_k Tryz.prog (w.alloc (.cells C 102)) 22 22 3 102 w.heap.size n 2 (.slice a n cap) C 102 cs Tryz.underlying22 (size_of infoRk) (heap_alloc_last _ _) hz (h.grew ((Grew.refl w).alloc _))
  have G1 : Hid (Grew w ((w.alloc (.cells C 102)).setRow w.heap.size cs.toArray)) := setRow_grew ((Grew.refl w).alloc _) (Nat.le_refl _) _
  have B1 : Hid (((w.alloc (.cells C 102)).setRow w.heap.size cs.toArray).heap[w.heap.size]? = some (.cells cs.toArray 102 (0, 0))) := setRow_heap _ _ _ _ _ _ (heap_alloc_last _ _)
  generalize (w.alloc (.cells C 102)).setRow w.heap.size cs.toArray = W1 at *
  clear h hC
  go_enter Tryz.func51, Tryz.ntmps51
  go_wp2_with fail
  go_ret
  exact ⟨w.heap.size, rfl, Nat.le_refl _, B1.out, G1.out⟩
end Go.Proofs.YtnmbniojejckpaaGreatDoor
