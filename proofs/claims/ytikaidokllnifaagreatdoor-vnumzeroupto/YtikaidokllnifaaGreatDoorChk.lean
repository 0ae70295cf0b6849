/-
  A checker in memory; no statement is proved here.
-/
import Derived.Test.YtikaidokllnifaaGreatDoorTy
import Derived.Laws.CopyOwn
import Derived.Laws.MakeOwn
import Derived.Test.YtikaidokllnifaaGreatDoorLoO
set_option maxRecDepth 100000
set_option maxHeartbeats 8000000
namespace Go.Proofs.YtikaidokllnifaaGreatDoor
open Go.RowKit
set_option linter.unusedVariables false
set_option linter.unusedSimpArgs false
/- The slice v of n elements of k cells reads as the cells cs. -/
def Raw (k : Nat) (w : World) (v : Value) (n : Nat) (cs : List Value) : Prop :=
  cs.length = n * k ∧ (∀ u ∈ cs, u.oneCell' = true) ∧ ∃ a cap, v = .slice a n cap ∧ n ≤ cap ∧ cap ≤ maxLen ∧ (a = none → cap = 0) ∧ (n = 0 ∨ ∃ b off, a = some ⟨b, off, none⟩ ∧ ∀ (j : Nat) (u : Value), cs[j]? = some u → w.cell? ⟨b, off + j, none⟩ = some u)
theorem Raw.grew {k : Nat} {w w' : World} {v : Value} {n : Nat} {cs : List Value} (h : Raw k w v n cs) (g : Grew w w') : Raw k w' v n cs := by
  obtain ⟨h1, h2, a, cap, hv, h3, h4, h5, h6⟩ := h
  refine ⟨h1, h2, a, cap, hv, h3, h4, h5, h6.imp_right ?_⟩
  rintro ⟨b, off, ha, hc⟩
  exact ⟨b, off, ha, fun j u hu => cell_grew (hc j u hu) g⟩
theorem Raw.one {k : Nat} {w : World} {v : Value} {n : Nat} {cs : List Value} (h : Raw k w v n cs) : ∃ a cap, v = .slice a n cap ∧ n ≤ cap ∧ cap ≤ maxLen := by
  obtain ⟨h1, h2, a, cap, hv, h3, h4, h5, h6⟩ := h
  exact ⟨a, cap, hv, h3, h4⟩
theorem Raw.nil (k : Nat) (w : World) : Raw k w NILS 0 [] := ⟨by simp, by simp, none, 0, rfl, Nat.le_refl _, by decide, fun _ => rfl, Or.inl rfl⟩
theorem add_at (b off j : Nat) : (Addr.add ⟨b, off, none⟩ j) = ⟨b, off + j, none⟩ := by unfold Addr.add; split <;> simp_all
theorem lst_raw {α : Type} {k : Nat} {E : World → Nat → Nat → α → Prop} {f : α → List Value} (hk : 0 < k) (hf : ∀ a, (f a).length = k) (h1 : ∀ y, ∀ c ∈ f y, c.oneCell' = true) {w : World} {v : Value} {l : List α} (h : Lst k E w v l)
    (hE : ∀ b o x, E w b o x → ∀ j, j < k → w.cell? ⟨b, o + j, none⟩ = (f x)[j]?) : Raw k w v l.length (l.flatMap f) := by
  obtain ⟨a, cap, hv, hl, hm, hz, h3⟩ := h
  have hlen : (l.flatMap f).length = l.length * k := by
    clear h3 hv hl
    induction l with
    | nil => simp
    | cons y l ih => rw [List.flatMap_cons, List.length_append, hf, ih, List.length_cons, Nat.succ_mul]; omega
  refine ⟨hlen, ?_, a, cap, hv, hl, hm, hz, ?_⟩
  · intro c hc
    obtain ⟨y, _, hy⟩ := List.mem_flatMap.1 hc
    exact h1 y c hy
  · rcases h3 with rfl | ⟨b, off, ha, hc⟩
    · left; rfl
    · right
      refine ⟨b, off, ha, fun j u hj => ?_⟩
      have hjl := (List.getElem?_eq_some_iff.1 hj).1
      rw [hlen] at hjl
      have hq : j / k < l.length := Nat.div_lt_of_lt_mul (by rw [Nat.mul_comm]; exact hjl)
      have hx' := hc (j / k) _ (List.getElem?_eq_getElem hq)
      have hm : j % k < k := Nat.mod_lt _ hk
      have := hE _ _ _ hx' (j % k) hm
      have e2 : off + j / k * k + j % k = off + j := by have := Nat.div_add_mod j k; rw [Nat.mul_comm] at this; omega
      rw [e2] at this
      rw [this, ← flat_at f k hf l (j / k) _ (j % k) (List.getElem?_eq_getElem hq) hm, show j / k * k + j % k = j by have := Nat.div_add_mod j k; rw [Nat.mul_comm] at this; omega]
      exact hj
theorem LV.raw {w : World} {v : Value} {l : List VT} (h : LV w v l) : Raw 3 w v l.length (l.flatMap VT.c) :=
  lst_raw (E := EV) (f := VT.c) (by decide) (fun _ => rfl) (by intro y c hc; simp [VT.c] at hc; rcases hc with rfl | rfl | rfl <;> rfl) h (by
    rintro b o x ⟨h0, h1, h2⟩ j hj
    match j, hj with
    | 0, _ => exact h0
    | 1, _ => exact h1
    | 2, _ => exact h2)
theorem LI.raw {w : World} {v : Value} {l : List Int} (h : LI w v l) : Raw 1 w v l.length (l.flatMap ic1) :=
  lst_raw (E := EI) (f := ic1) (by decide) (fun _ => rfl) (by intro y c hc; simp [ic1] at hc; rw [hc]; rfl) h (by
    intro b o x h0 j hj
    match j, hj with
    | 0, _ => exact h0)
theorem LF.raw {w : World} {v : Value} {l : List FT} (h : LF w v l) : Raw 4 w v l.length (l.flatMap FT.c) :=
  lst_raw (E := EF) (f := FT.c) (by decide) (fun _ => rfl) (by intro y c hc; simp [FT.c] at hc; rcases hc with rfl | rfl | rfl | rfl <;> rfl) h (by
    rintro b o x ⟨⟨h0, h1, h2⟩, h3⟩ j hj
    match j, hj with
    | 0, _ => exact h0
    | 1, _ => exact h1
    | 2, _ => exact h2
    | 3, _ => exact h3)
theorem run_copy_k (P : Program) (w : World) (dT sT ty elem : TypeId) (g n k : Nat) (v : Value) (cur : Array Value) (t : TypeId) (cs : List Value)
    (hu : P.underlying dT = some (.slice elem)) (hs : (P.info? elem).map (·.size) = some k)
    (hg : w.heap[g]? = some (.cells cur t (0, 0))) (hsz : cur.size = n * k) (hR : Raw k w v n cs) :
    (Builtin.copy_ #[dT, sT] ty #[.slice (some ⟨g, 0, none⟩) n n, v]).run P w = .ok (goInt n) (w.setRow g cs.toArray) := by
  obtain ⟨hl, h1, a, cap, rfl, hc, hm, hz, h3⟩ := hR
  have hst := run_storeCells_at P g 0 t cs 0 cur w hg (by rw [hl, hsz]; omega) h1
  have e1 : cur.toList.take (0 + 0) ++ cs ++ cur.toList.drop (0 + 0 + cs.length) = cs := by
    have : cur.toList.drop (0 + 0 + cs.length) = [] := List.drop_eq_nil_of_le (by rw [hl]; simp [hsz])
    rw [this]; simp
  rw [e1] at hst
  cases hq : P.info? elem with
  | none => simp [hq] at hs
  | some i =>
    have hi : i.size = k := by simpa [hq] using hs
    cases a with
    | none =>
      obtain rfl := hz rfl
      obtain rfl : n = 0 := by omega
      have hcs : cs = [] := List.eq_nil_of_length_eq_zero (by rw [hl]; simp)
      subst hcs
      have hst' : (storeCells ⟨g, 0, none⟩ [] 0).run P w = .ok () (w.setRow g (#[] : Array Value)) := hst
      simp [Builtin.copy_, run_underlying hu, Builtin.lenOf, Builtin.firstCells, sizeOf, typeInfo, hq, hi, hst']
    | some ad =>
      have hsrc : ∀ j v, cs[j]? = some v → w.cell? (ad.add j) = some v := by
        intro j u hj
        rcases h3 with rfl | ⟨b, off, ha, hcell⟩
        · have hjl := (List.getElem?_eq_some_iff.1 hj).1
          rw [hl] at hjl
          omega
        · injection ha with ha
          subst ha
          rw [add_at]
          exact hcell j u hj
      have hld := run_loadCells_list (P := P) w ad cs hsrc
      rw [hl] at hld
      simp [Builtin.copy_, run_underlying hu, Builtin.lenOf, Builtin.firstCells, sizeOf, typeInfo, hq, hi, hld, hst]
theorem setRow_grew {w0 w : World} (g : Grew w0 w) {x : Nat} (hx : w0.heap.size ≤ x) (cs : Array Value) : Grew w0 (w.setRow x cs) :=
  ⟨g.1.trans ⟨rfl, rfl, rfl, by simp, fun k hk => setRow_other w x k cs (by omega)⟩, by simpa using g.2⟩
/- A new row that holds these cells, and nothing old has changed. -/
def NewRow (e : TypeId) (n : Nat) (cs : List Value) (w : World) (en : Ending) (w' : World) : Prop :=
  ∃ g, en = .returned (.slice (some ⟨g, 0, none⟩) n n) ∧ w.heap.size ≤ g ∧ w'.heap[g]? = some (.cells cs.toArray e (0, 0)) ∧ Grew w w'
theorem infoRk : (Tryz.prog.info? 115).map (fun i => (i.zero, i.size, i.bytes)) = some (some (.agg #[.slice none 0 0, .bool false]), 2, 32) := by kernel_rfl
theorem size_of {e : TypeId} {z : Value} {k b : Nat} (h : (Tryz.prog.info? e).map (fun i => (i.zero, i.size, i.bytes)) = some (some z, k, b)) : (Tryz.prog.info? e).map (·.size) = some k := by
  obtain ⟨i, h0, h1, h2, h3⟩ := info_parts h
  rw [h0]; simp [h2]
theorem run_makeK {w : World} {t e : TypeId} {z : Value} {k b n : Nat} (hu : Tryz.prog.underlying t = some (.slice e)) (h : (Tryz.prog.info? e).map (fun i => (i.zero, i.size, i.bytes)) = some (some z, k, b)) (hb : b ≤ 1000) (hn : n ≤ 8388608) :
    (Instr.makeSlice t (.int .i64 (n : Int)) (.int .i64 (n : Int))).run Tryz.prog w = .ok (.slice (some ⟨w.heap.size, 0, none⟩) n n) (w.alloc (.cells (madeCells z.cells (n * k)) e)) := by
  obtain ⟨i, h0, h1, h2, h3⟩ := info_parts h
  have hm : i.bytes * n ≤ 1000 * 8388608 := Nat.mul_le_mul (by omega) hn
  have hm2 : (i.bytes : Int) * (n : Int) ≤ 281474976710656 := by
    have : ((i.bytes * n : Nat) : Int) ≤ 281474976710656 := by omega
    rwa [Int.natCast_mul] at this
  have hr := run_make (P := Tryz.prog) w t e i z hu h0 h1 .i64 .i64 n n (by omega) (Int.le_refl _) hm2 (by omega)
  simp only [Int.toNat_natCast, h2] at hr
  exact hr
theorem copiedV_any {w : World} {v : Value} {n : Nat} {cs : List Value} (h : Raw 3 w v n cs) (hn : n ≤ 8388608) :
    Calls Tryz.prog 39 #[v] w (NewRow 39 n cs w) := by
  obtain ⟨a, cap, hv, hle, hmx⟩ := h.one
  subst hv
  have hm := run_makeK (w := w) (n := n) Tryz.underlying27 infoV (by decide) hn
  obtain ⟨C, hC⟩ : ∃ C, madeCells (Value.cells (.agg #[.int .i64 0, .bool false, .int .i64 0])) (n * 3) = C := ⟨_, rfl⟩
  rw [hC] at hm
  have hz : C.size = n * 3 := by rw [← hC]; exact size_madeCells _ _
  have hcp := run_copy_k Tryz.prog (w.alloc (.cells C 39)) 27 27 3 39 w.heap.size n 3 (.slice a n cap) C 39 cs Tryz.underlying27 (size_of infoV) (heap_alloc_last _ _) hz (h.grew ((Grew.refl w).alloc _))
  have G1 : Hid (Grew w ((w.alloc (.cells C 39)).setRow w.heap.size cs.toArray)) := setRow_grew ((Grew.refl w).alloc _) (Nat.le_refl _) _
  have B1 : Hid (((w.alloc (.cells C 39)).setRow w.heap.size cs.toArray).heap[w.heap.size]? = some (.cells cs.toArray 39 (0, 0))) := setRow_heap _ _ _ _ _ _ (heap_alloc_last _ _)
  generalize (w.alloc (.cells C 39)).setRow w.heap.size cs.toArray = W1 at *
  clear h hC
  go_enter Tryz.func39, Tryz.ntmps39
  go_wp2_with fail
  go_ret
  exact ⟨w.heap.size, rfl, Nat.le_refl _, B1.out, G1.out⟩
theorem copiedI_any {w : World} {v : Value} {n : Nat} {cs : List Value} (h : Raw 1 w v n cs) (hn : n ≤ 8388608) :
    Calls Tryz.prog 98 #[v] w (NewRow 3 n cs w) := by
  obtain ⟨a, cap, hv, hle, hmx⟩ := h.one
  subst hv
  have hm := run_makeK (w := w) (n := n) Tryz.underlying23 infoI (by decide) hn
  obtain ⟨C, hC⟩ : ∃ C, madeCells (Value.cells (.int .i64 0)) (n * 1) = C := ⟨_, rfl⟩
  rw [hC] at hm
  have hz : C.size = n * 1 := by rw [← hC]; exact size_madeCells _ _
  have hcp := run_copy_k Tryz.prog (w.alloc (.cells C 3)) 23 23 3 3 w.heap.size n 1 (.slice a n cap) C 3 cs Tryz.underlying23 (size_of infoI) (heap_alloc_last _ _) hz (h.grew ((Grew.refl w).alloc _))
  have G1 : Hid (Grew w ((w.alloc (.cells C 3)).setRow w.heap.size cs.toArray)) := setRow_grew ((Grew.refl w).alloc _) (Nat.le_refl _) _
  have B1 : Hid (((w.alloc (.cells C 3)).setRow w.heap.size cs.toArray).heap[w.heap.size]? = some (.cells cs.toArray 3 (0, 0))) := setRow_heap _ _ _ _ _ _ (heap_alloc_last _ _)
  generalize (w.alloc (.cells C 3)).setRow w.heap.size cs.toArray = W1 at *
  clear h hC
  go_enter Tryz.func98, Tryz.ntmps98
  go_wp2_with fail
  go_ret
  exact ⟨w.heap.size, rfl, Nat.le_refl _, B1.out, G1.out⟩
theorem copiedF_any {w : World} {v : Value} {n : Nat} {cs : List Value} (h : Raw 4 w v n cs) (hn : n ≤ 8388608) :
    Calls Tryz.prog 99 #[v] w (NewRow 144 n cs w) := by
  obtain ⟨a, cap, hv, hle, hmx⟩ := h.one
  subst hv
  have hm := run_makeK (w := w) (n := n) Tryz.underlying117 infoF (by decide) hn
  obtain ⟨C, hC⟩ : ∃ C, madeCells (Value.cells (.agg #[.int .i64 0, .bool false, .int .i64 0, .bool false])) (n * 4) = C := ⟨_, rfl⟩
  rw [hC] at hm
  have hz : C.size = n * 4 := by rw [← hC]; exact size_madeCells _ _
  have hcp := run_copy_k Tryz.prog (w.alloc (.cells C 144)) 117 117 3 144 w.heap.size n 4 (.slice a n cap) C 144 cs Tryz.underlying117 (size_of infoF) (heap_alloc_last _ _) hz (h.grew ((Grew.refl w).alloc _))
  have G1 : Hid (Grew w ((w.alloc (.cells C 144)).setRow w.heap.size cs.toArray)) := setRow_grew ((Grew.refl w).alloc _) (Nat.le_refl _) _
  have B1 : Hid (((w.alloc (.cells C 144)).setRow w.heap.size cs.toArray).heap[w.heap.size]? = some (.cells cs.toArray 144 (0, 0))) := setRow_heap _ _ _ _ _ _ (heap_alloc_last _ _)
  generalize (w.alloc (.cells C 144)).setRow w.heap.size cs.toArray = W1 at *
  clear h hC
  go_enter Tryz.func99, Tryz.ntmps99
  go_wp2_with fail
  go_ret
  exact ⟨w.heap.size, rfl, Nat.le_refl _, B1.out, G1.out⟩
theorem copiedS_any {w : World} {v : Value} {n : Nat} {cs : List Value} (h : Raw 6 w v n cs) (hn : n ≤ 8388608) :
    Calls Tryz.prog 97 #[v] w (NewRow 121 n cs w) := by
  obtain ⟨a, cap, hv, hle, hmx⟩ := h.one
  subst hv
  have hm := run_makeK (w := w) (n := n) Tryz.underlying113 infoS (by decide) hn
  obtain ⟨C, hC⟩ : ∃ C, madeCells (Value.cells (.agg #[.bool false, .slice none 0 0, .int .i64 0, .slice none 0 0, .slice none 0 0, .slice none 0 0])) (n * 6) = C := ⟨_, rfl⟩
  rw [hC] at hm
  have hz : C.size = n * 6 := by rw [← hC]; exact size_madeCells _ _
  have hcp := run_copy_k Tryz.prog (w.alloc (.cells C 121)) 113 113 3 121 w.heap.size n 6 (.slice a n cap) C 121 cs Tryz.underlying113 (size_of infoS) (heap_alloc_last _ _) hz (h.grew ((Grew.refl w).alloc _))
  have G1 : Hid (Grew w ((w.alloc (.cells C 121)).setRow w.heap.size cs.toArray)) := setRow_grew ((Grew.refl w).alloc _) (Nat.le_refl _) _
  have B1 : Hid (((w.alloc (.cells C 121)).setRow w.heap.size cs.toArray).heap[w.heap.size]? = some (.cells cs.toArray 121 (0, 0))) := setRow_heap _ _ _ _ _ _ (heap_alloc_last _ _)
  generalize (w.alloc (.cells C 121)).setRow w.heap.size cs.toArray = W1 at *
  clear h hC
  go_enter Tryz.func97, Tryz.ntmps97
  go_wp2_with fail
  go_ret
  exact ⟨w.heap.size, rfl, Nat.le_refl _, B1.out, G1.out⟩
theorem copiedR_any {w : World} {v : Value} {n : Nat} {cs : List Value} (h : Raw 2 w v n cs) (hn : n ≤ 8388608) :
    Calls Tryz.prog 96 #[v] w (NewRow 115 n cs w) := by
  obtain ⟨a, cap, hv, hle, hmx⟩ := h.one
  subst hv
  have hm := run_makeK (w := w) (n := n) Tryz.underlying22 infoRk (by decide) hn
  obtain ⟨C, hC⟩ : ∃ C, madeCells (Value.cells (.agg #[.slice none 0 0, .bool false])) (n * 2) = C := ⟨_, rfl⟩
  rw [hC] at hm
  have hz : C.size = n * 2 := by rw [← hC]; exact size_madeCells _ _
  have hcp := run_copy_k Tryz.prog (w.alloc (.cells C 115)) 22 22 3 115 w.heap.size n 2 (.slice a n cap) C 115 cs Tryz.underlying22 (size_of infoRk) (heap_alloc_last _ _) hz (h.grew ((Grew.refl w).alloc _))
  have G1 : Hid (Grew w ((w.alloc (.cells C 115)).setRow w.heap.size cs.toArray)) := setRow_grew ((Grew.refl w).alloc _) (Nat.le_refl _) _
  have B1 : Hid (((w.alloc (.cells C 115)).setRow w.heap.size cs.toArray).heap[w.heap.size]? = some (.cells cs.toArray 115 (0, 0))) := setRow_heap _ _ _ _ _ _ (heap_alloc_last _ _)
  generalize (w.alloc (.cells C 115)).setRow w.heap.size cs.toArray = W1 at *
  clear h hC
  go_enter Tryz.func96, Tryz.ntmps96
  go_wp2_with fail
  go_ret
  exact ⟨w.heap.size, rfl, Nat.le_refl _, B1.out, G1.out⟩
/- A frame as its cells tell it. -/
structure FV where
  op : Int
  inn : Value
  out : Value
  height : Nat
  fresh : Nat
  dead : Bool
def FV.c (x : FV) : List Value := [.int .i64 x.op, x.inn, x.out, .int .i64 x.height, .int .i64 x.fresh, .bool x.dead]
def FV.v (x : FV) : Value := .agg #[.int .i64 x.op, x.inn, x.out, .int .i64 x.height, .int .i64 x.fresh, .bool x.dead]
def isSl (v : Value) : Prop := ∃ a n c, v = .slice a n c
theorem isSl.one {v : Value} (h : isSl v) : v.oneCell' = true := by
  obtain ⟨a, n, c, rfl⟩ := h
  cases a <;> rfl
def cu (n : Int) : List Value := [.int .u32 n]
theorem infoFr : (Tryz.prog.info? 102).map (fun i => (i.zero, i.size, i.bytes)) = some (some (.agg #[.int .i64 0, .slice none 0 0, .slice none 0 0, .int .i64 0, .int .i64 0, .bool false]), 6, 80) := by kernel_rfl
theorem infoU : (Tryz.prog.info? 34).map (fun i => (i.zero, i.size, i.bytes)) = some (some (.int .u32 0), 1, 4) := by kernel_rfl
def RowFr (B : Nat) (w : World) (v : Value) (l : List FV) : Prop := w.ownsRow B 102 6 v l.length (l.flatMap FV.c)
def RowU (B : Nat) (w : World) (v : Value) (l : List Int) : Prop := w.ownsRow B 34 1 v l.length (l.flatMap cu)
def ckObj (gv rv lv fv ov qv : Value) : Obj := .cells #[.bool true, gv, rv, lv, fv, ov, qv] 68 (0, 0)
/- The checker at C: its locals, the fresh ones, its operands, its frames; all in blocks from B on. -/
structure CHK (G : Value → Prop) (B : Nat) (w : World) (C : Nat) (lv fv ov qv : Value) (lo : List LO) (fr : List Int) (ops : List VT) (fs : List FV) : Prop where
  obj : ∃ gv rv, (isSl gv ∧ G gv) ∧ isSl rv ∧ w.heap[C]? = some (ckObj gv rv lv fv ov qv)
  base : B ≤ C
  rlo : RowLo B w lv lo
  rfr : RowU B w fv fr
  rops : RowV B w ov ops
  rfs : RowFr B w qv fs
  sl : ∀ x ∈ fs, isSl x.inn ∧ isSl x.out
variable {G : Value → Prop}
theorem CHK.grew {B : Nat} {w w' : World} {C : Nat} {lv fv ov qv : Value} {lo : List LO} {fr : List Int} {ops : List VT} {fs : List FV} (h : CHK G B w C lv fv ov qv lo fr ops fs) (g : Grew w w') : CHK G B w' C lv fv ov qv lo fr ops fs := by
  obtain ⟨⟨gv, rv, a, b, c⟩, h1, h2, h3, h4, h5, h6⟩ := h
  exact ⟨⟨gv, rv, a, b, (g.turn []).other c (by simp)⟩, h1, row_grew h2 g, row_grew h3 g, row_grew h4 g, row_grew h5 g, h6⟩
theorem CHK.lt {B : Nat} {w : World} {C : Nat} {lv fv ov qv : Value} {lo : List LO} {fr : List Int} {ops : List VT} {fs : List FV} (h : CHK G B w C lv fv ov qv lo fr ops fs) : C < w.heap.size := by
  obtain ⟨gv, rv, a, b, c⟩ := h.obj
  exact lt_of_obj c
theorem CHK.c0 {B : Nat} {w : World} {C : Nat} {lv fv ov qv : Value} {lo : List LO} {fr : List Int} {ops : List VT} {fs : List FV} (h : CHK G B w C lv fv ov qv lo fr ops fs) : w.cell? ⟨C, 0, none⟩ = some (.bool true) := by
  obtain ⟨gv, rv, a, b, c⟩ := h.obj
  rw [cell_of c]; rfl
theorem CHK.c3 {B : Nat} {w : World} {C : Nat} {lv fv ov qv : Value} {lo : List LO} {fr : List Int} {ops : List VT} {fs : List FV} (h : CHK G B w C lv fv ov qv lo fr ops fs) : w.cell? ⟨C, 3, none⟩ = some lv := by
  obtain ⟨gv, rv, a, b, c⟩ := h.obj
  rw [cell_of c]; rfl
theorem CHK.c4 {B : Nat} {w : World} {C : Nat} {lv fv ov qv : Value} {lo : List LO} {fr : List Int} {ops : List VT} {fs : List FV} (h : CHK G B w C lv fv ov qv lo fr ops fs) : w.cell? ⟨C, 4, none⟩ = some fv := by
  obtain ⟨gv, rv, a, b, c⟩ := h.obj
  rw [cell_of c]; rfl
theorem CHK.c5 {B : Nat} {w : World} {C : Nat} {lv fv ov qv : Value} {lo : List LO} {fr : List Int} {ops : List VT} {fs : List FV} (h : CHK G B w C lv fv ov qv lo fr ops fs) : w.cell? ⟨C, 5, none⟩ = some ov := by
  obtain ⟨gv, rv, a, b, c⟩ := h.obj
  rw [cell_of c]; rfl
theorem CHK.c6 {B : Nat} {w : World} {C : Nat} {lv fv ov qv : Value} {lo : List LO} {fr : List Int} {ops : List VT} {fs : List FV} (h : CHK G B w C lv fv ov qv lo fr ops fs) : w.cell? ⟨C, 6, none⟩ = some qv := by
  obtain ⟨gv, rv, a, b, c⟩ := h.obj
  rw [cell_of c]; rfl
theorem CHK.z {B : Nat} {w : World} {C : Nat} {lv fv ov qv : Value} {lo : List LO} {fr : List Int} {ops : List VT} {fs : List FV} (h : CHK G B w C lv fv ov qv lo fr ops fs) (j : Nat) : w.frozen? ⟨C, j, none⟩ = false := by
  obtain ⟨gv, rv, a, b, c⟩ := h.obj
  exact free_of c j
/- Of what lies below B nothing has changed. -/
def KB (B : Nat) (w w' : World) : Prop := Below B w w' ∧ w.heap.size ≤ w'.heap.size
theorem KB.refl (B : Nat) (w : World) : KB B w w := ⟨Below.refl _ _, Nat.le_refl _⟩
theorem KB.trans {B : Nat} {a b c : World} (h : KB B a b) (k : KB B b c) : KB B a c := ⟨h.1.trans k.1, Nat.le_trans h.2 k.2⟩
theorem Grew.kb {w w' : World} (g : Grew w w') {B : Nat} (hB : B ≤ w.heap.size) : KB B w w' := ⟨g.1.mono hB, g.2⟩
theorem KB.grew {w0 w w' : World} (g : Grew w0 w) (k : KB w0.heap.size w w') : Grew w0 w' := ⟨g.1.trans k.1, Nat.le_trans g.2 k.2⟩
theorem KB.set {B : Nat} {w w' : World} (h : KB B w w') {p : Addr} (hp : B ≤ p.block) (u : Value) : KB B w (w'.setCell p u) :=
  ⟨h.1.setCell hp u, by have := h.2; simpa using this⟩
theorem CHK.set5 {B : Nat} {w : World} {C : Nat} {lv fv ov qv : Value} {lo : List LO} {fr : List Int} {ops ops' : List VT} {fs : List FV} (h : CHK G B w C lv fv ov qv lo fr ops fs) {u : Value} (hu : RowV B w u ops') : CHK G B (w.setCell ⟨C, 5, none⟩ u) C lv fv u qv lo fr ops' fs := by
  obtain ⟨⟨gv, rv, a, b, c⟩, h1, h2, h3, h4, h5, h6⟩ := h
  exact ⟨⟨gv, rv, a, b, by rw [heap_set c]; rfl⟩, h1, row_set h2 (NoT.of c (by decide)) _, row_set h3 (NoT.of c (by decide)) _, row_set hu (NoT.of c (by decide)) _, row_set h5 (NoT.of c (by decide)) _, h6⟩
/- The first elements of a row. -/
theorem row_cut {w : World} {B : Nat} {e : TypeId} {k : Nat} {a : Option Addr} {n c : Nat} {cs : List Value} (h : w.ownsRow B e k (.slice a n c) n cs) {m : Nat} (hm : m ≤ n) : w.ownsRow B e k (.slice a m c) m (cs.take (m * k)) := by
  obtain ⟨hl, ⟨h1, h2⟩ | ⟨g, cap, cur, hv, hB, hg, h3, h4, h5, h6⟩⟩ := h
  · subst h2
    obtain rfl : m = 0 := by omega
    injection h1 with e1 e2 e3
    subst e1 e3
    exact ⟨by simp, Or.inl ⟨rfl, rfl⟩⟩
  · injection hv with e1 e2 e3
    subst e1 e3
    have hmk : m * k ≤ n * k := Nat.mul_le_mul_right k hm
    refine ⟨by rw [List.length_take, hl]; omega, Or.inr ⟨g, c, cur, rfl, hB, hg, by omega, h4, h5, ?_⟩⟩
    rw [← h6, List.take_take, Nat.min_eq_left hmk]
theorem flat_take {α : Type} (f : α → List Value) (k : Nat) (hf : ∀ a, (f a).length = k) : ∀ (l : List α) (m : Nat), (l.take m).flatMap f = (l.flatMap f).take (m * k) := by
  intro l
  induction l with
  | nil => simp
  | cons a l ih =>
    intro m
    cases m with
    | zero => simp
    | succ m =>
      rw [List.take_succ_cons, List.flatMap_cons, List.flatMap_cons, ih m, Nat.succ_mul, List.take_append, hf]
      congr 1
      · rw [List.take_of_length_le (by rw [hf]; omega)]
      · congr 1; omega
theorem RowV.cut {B : Nat} {w : World} {a : Option Addr} {c : Nat} {l : List VT} (h : RowV B w (.slice a l.length c) l) {m : Nat} (hm : m ≤ l.length) : RowV B w (.slice a m c) (l.take m) := by
  unfold RowV
  rw [List.length_take, Nat.min_eq_left hm, flat_take VT.c 3 (fun _ => rfl)]
  exact row_cut h hm
theorem RowFr.cut {B : Nat} {w : World} {a : Option Addr} {c : Nat} {l : List FV} (h : RowFr B w (.slice a l.length c) l) {m : Nat} (hm : m ≤ l.length) : RowFr B w (.slice a m c) (l.take m) := by
  unfold RowFr
  rw [List.length_take, Nat.min_eq_left hm, flat_take FV.c 6 (fun _ => rfl)]
  exact row_cut h hm
theorem RowU.cut {B : Nat} {w : World} {a : Option Addr} {c : Nat} {l : List Int} (h : RowU B w (.slice a l.length c) l) {m : Nat} (hm : m ≤ l.length) : RowU B w (.slice a m c) (l.take m) := by
  unfold RowU
  rw [List.length_take, Nat.min_eq_left hm, flat_take cu 1 (fun _ => rfl)]
  exact row_cut h hm
theorem RowFr.snoc {B : Nat} {w : World} {v : Value} {l : List FV} {a : FV} (h : w.ownsRow B 102 6 v (l.length + 1) (l.flatMap FV.c ++ a.c)) : RowFr B w v (l ++ [a]) := by
  unfold RowFr
  rw [List.length_append, List.flatMap_append]
  simpa using h
theorem RowU.snoc {B : Nat} {w : World} {v : Value} {l : List Int} {a : Int} (h : w.ownsRow B 34 1 v (l.length + 1) (l.flatMap cu ++ cu a)) : RowU B w v (l ++ [a]) := by
  unfold RowU
  rw [List.length_append, List.flatMap_append]
  simpa using h
theorem RowFr.nil (B : Nat) (w : World) : RowFr B w NILS [] := World.ownsRow_nil _ _ _ _
theorem RowU.nil (B : Nat) (w : World) : RowU B w NILS [] := World.ownsRow_nil _ _ _ _
/- The last frame. -/
theorem RowFr.last {B : Nat} {w : World} {v : Value} {l : List FV} {x : FV} (h : RowFr B w v (l ++ [x])) : ∃ g c, v = .slice (some ⟨g, 0, none⟩) (l.length + 1) c ∧ l.length + 1 ≤ c ∧ c ≤ maxLen ∧ B ≤ g ∧ (∃ cur : Array Value, w.heap[g]? = some (.cells cur 102 (0, 0))) ∧ ∀ j, j < 6 → w.cell? ⟨g, l.length * 6 + j, none⟩ = (FV.c x)[j]? := by
  have h0 := h
  obtain ⟨hl, ⟨_, h3⟩ | ⟨g, cap, cur, hv', hB, hg, h3, h4, h5, h6⟩⟩ := h
  · simp at h3
  · have hl2 : (l ++ [x]).length = l.length + 1 := by simp
    rw [hl2] at hv' h3
    refine ⟨g, cap, hv', h3, h4, hB, ⟨cur, hg⟩, fun j hj => ?_⟩
    rw [hv'] at h0
    unfold RowFr at h0
    rw [hl2] at h0
    have := h0.cellAt (l.length * 6 + j) (by omega)
    rw [this]
    exact flat_at FV.c 6 (fun _ => rfl) (l ++ [x]) l.length x j (by simp) hj
end Go.Proofs.YtikaidokllnifaaGreatDoor
