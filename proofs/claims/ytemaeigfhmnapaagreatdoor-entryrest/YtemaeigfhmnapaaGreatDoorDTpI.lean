/-
  The document's calls at a place: imports and exports; no statement is proved here.
-/
import Derived.Test.YtemaeigfhmnapaaGreatDoorDExt
import Derived.Test.YtemaeigfhmnapaaGreatDoorTpI
import Derived.Test.YtemaeigfhmnapaaGreatDoorTpE
import Derived.Test.YtemaeigfhmnapaaGreatDoorDTop
import Derived.Deep.MidRow
namespace Go.Proofs.YtemaeigfhmnapaaGreatDoor
open Go.RowKit
set_option linter.unusedVariables false
set_option linter.unusedSimpArgs false
set_option linter.constructorNameAsVariable false

def XT.c (x : XT) : Array Value := #[.int .i64 x.kind, .int .i64 x.ty, .int .i64 x.tab.elem.num, .bool x.tab.elem.null, .int .i64 x.tab.elem.heap, .bool x.tab.lim.wide, .int .u64 x.tab.lim.mn, .int .u64 x.tab.lim.mx, .bool x.tab.lim.hm, .bool x.mem.wide, .int .u64 x.mem.mn, .int .u64 x.mem.mx, .bool x.mem.hm, .int .i64 x.glo.ty.num, .bool x.glo.ty.null, .int .i64 x.glo.ty.heap, .bool x.glo.mut_]
theorem Turn.cells {S : List Nat} {w : World} {g : Nat} (hg : w.heap.size ≤ g) : ∀ (vs : List Value) (o : Nat) {w' : World}, Turn S w w' → Turn S w (w'.setCells g o vs)
  | [], _, _, h => h
  | v :: r, o, _, h => Turn.cells hg r (o + 1) (h.set (p := ⟨g, o, none⟩) (Or.inr hg) v)
theorem heap_cells_other {g k : Nat} {ob : Obj} (hk : k ≠ g) : ∀ (vs : List Value) (o : Nat) {w : World}, w.heap[k]? = some ob → (w.setCells g o vs).heap[k]? = some ob
  | [], _, _, h => h
  | v :: r, o, _, h => heap_cells_other hk r (o + 1) (heap_other (p := ⟨g, o, none⟩) h hk v)
def setAll (cs : Array Value) (o : Nat) : List Value → Array Value
  | [] => cs
  | v :: r => setAll (cs.setIfInBounds o v) (o + 1) r
theorem heap_cells {g : Nat} {t : TypeId} {fr : Nat × Nat} : ∀ (vs : List Value) (o : Nat) {w : World} {cs : Array Value}, w.heap[g]? = some (.cells cs t fr) → (w.setCells g o vs).heap[g]? = some (.cells (setAll cs o vs) t fr)
  | [], _, _, _, h => h
  | v :: r, o, _, _, h => heap_cells r (o + 1) (heap_set h o v)
theorem imp_cells (m n : List Int) (x : XT) : setAll #[.string (strOfNums m), .string (strOfNums n), .int .i64 0, .int .i64 0, .int .i64 0, .bool false, .int .i64 0, .bool false, .int .u64 0, .int .u64 0, .bool false, .bool false, .int .u64 0, .int .u64 0, .bool false, .int .i64 0, .bool false, .int .i64 0, .bool false] 2 x.c.toList = IM.c ⟨m, n, x⟩ := by
  kernel_rfl
theorem FinD.cells {b : Nat} {v : Value} {l : List Int} {w : World} {st0 st : Except (Nat × Nat) Nat} (h0 : DR w b v l st0) {g : Nat} (hg : w.heap.size ≤ g) : ∀ (vs : List Value) (o : Nat) {w' : World}, FinD b v l w w' st → FinD b v l w (w'.setCells g o vs) st
  | [], _, _, h => h
  | x :: r, o, _, h => FinD.cells h0 hg r (o + 1) (h.set h0 hg)
theorem wpList_store_mid {P : Program} {ops : Array Oper} {rest : List Oper} {o : Oper} {a : Act} {w : World} {Q : Exit → Act → World → Prop} (hgd : o.guard = none) (ty : TypeId) (x y : Operand) (ho : o.op = .store ty x y)
    (g off : Nat) (cells : Array Value) (hx : a.eval x = .pointer (some ⟨g, off, none⟩)) (hy : a.eval y = .agg cells)
    (ht : w.there g off cells.size) (hi : (P.info? ty).map (·.size) = some cells.size) (h1 : cells.all (·.oneCell') = true)
    (h : wpList P ops Q rest (a.put o.dst undef) (w.setCells g off cells.toList)) : wpList P ops Q (o :: rest) a w :=
  wpList_plain hgd fun _ hK => by
    unfold Oper.wp execOp
    simp only [ho, hx, hy, Instr.storeAt, Instr.sureAddr, Sem.run_bind, Sem.run_pure, Result.andThen_ok, run_storeVar_mid w g off ty cells ht hi h1]
    exact hK _ _ h
theorem there_of {w : World} {g off n : Nat} {cs : Array Value} {t : TypeId} (h : w.heap[g]? = some (.cells cs t (0, 0))) (hn : off + n ≤ cs.size) : w.there g off n := by
  intro j hj
  refine ⟨?_, free_of h _⟩
  rw [cell_of h]
  simp [Array.getElem?_eq_getElem (show off + j < cs.size by omega)]
theorem XT.sz (x : XT) : (Tryz.prog.info? 50).map (·.size) = some x.c.size := by kernel_rfl
theorem XT.one (x : XT) : x.c.all (·.oneCell') = true := by
  unfold XT.c
  simp [Value.oneCell']
def EP.c (x : EP) : Array Value := #[.string (strOfNums x.na), .int .i64 x.kind, .int .u32 x.at_]
theorem EP.sz (x : EP) : (Tryz.prog.info? 59).map (·.size) = some x.c.size := by kernel_rfl
theorem EP.one (x : EP) : x.c.all (·.oneCell') = true := by
  unfold EP.c
  simp [Value.oneCell']
set_option maxRecDepth 100000 in
set_option maxHeartbeats 4000000 in
theorem dim_1 (v : Value) (l : List Int) (p : Nat) (w : World) (hR : Reads w v l) (hB : Byt l) (hl : l.length ≤ 140737488351232) (hp : p ≤ l.length) {f e : Nat} (hx : nameR l p = .error (f, e)) :
    Calls Tryz.prog 13 #[v, .int .i64 (p : Int)] w fun en w' => en = .returned (ansIm (I0, (f : Int), (e : Int))) ∧ Grew w w' := by
  have BG := begin_any v l p (w.alloc (.cells #[.string ⟨#[]⟩, .string ⟨#[]⟩, .int .i64 0, .int .i64 0, .int .i64 0, .bool false, .int .i64 0, .bool false, .int .u64 0, .int .u64 0, .bool false, .bool false, .int .u64 0, .int .u64 0, .bool false, .int .i64 0, .bool false, .int .i64 0, .bool false] 52)) (((Grew.refl w).alloc _).reads hR)
  rw [alloc_size, decide_eq_true (show 0 ≤ (p : Int) ∧ (p : Int) ≤ l.length by omega)] at BG
  have HR : Hid (Reads w v l) := hR
  have HB : Hid (Byt l) := hB
  obtain ⟨X, hX⟩ : ∃ X, X = (I0, (f : Int), (e : Int)) := ⟨_, rfl⟩
  rw [← hX]
  have HX : Hid (X = (I0, (f : Int), (e : Int))) := hX
  clear hR hB hX
  go_enter Tryz.func13, Tryz.ntmps13
  go_wp2_with fail
  refine BG.mono ?_
  rintro en W ⟨rfl, hW⟩
  have G0 : Hid (Grew w W) := by rw [hW]; exact ((Grew.refl w).alloc _).alloc _
  have N0 : Hid (W.heap[w.heap.size]? = some (.cells I0.c 52 (0, 0))) := by rw [hW]; exact heap_alloc (heap_alloc_last _ _) _
  have o0 : W.heap[w.heap.size + 1]? = some (rdg v p 0 0) := by
    rw [hW]
    have h1 : (w.alloc (.cells #[.string ⟨#[]⟩, .string ⟨#[]⟩, .int .i64 0, .int .i64 0, .int .i64 0, .bool false, .int .i64 0, .bool false, .int .u64 0, .int .u64 0, .bool false, .bool false, .int .u64 0, .int .u64 0, .bool false, .int .i64 0, .bool false, .int .i64 0, .bool false] 52)).heap.size = w.heap.size + 1 := alloc_size _ _
    rw [← h1]; exact heap_alloc_last _ _
  have S0 : Hid (DR W (w.heap.size + 1) v l (.ok p)) := ⟨⟨o0, hp⟩, G0.out.reads HR.out, HB.out, hl⟩
  have H : Hid (DR W (w.heap.size + 1) v l (.ok p)) := S0.out
  have T0 : Hid (Turn [w.heap.size + 1] W W) := Turn.refl _ W
  have hWs : w.heap.size + 1 < W.heap.size := lt_of_obj o0
  clear BG hW o0
  go_wp2_with fail
  refine (Calls.der (dname_any S0.out) hx).mono ?_
  rintro en w1 ⟨⟨y, rfl⟩, t1, s1⟩
  have T1 : Hid (Turn [(w.heap.size + 1)] W w1) := T0.out.trans t1
  have S1 : Hid (DR w1 (w.heap.size + 1) v l (.error (f, e))) := s1
  have N1 : Hid (w1.heap[w.heap.size]? = some (.cells I0.c 52 (0, 0))) := t1.other N0.out (by simp; try omega)
  clear t1 s1 T0 S0 N0
  clear hx
  go_wp2_with (first
    | with_reducible refine stop_store 52 rfl ?_
    | fail)
  unfold Stop
  refine wpList_store_last rfl 52 _ _ rfl #[.string (strOfNums y), .string ⟨#[]⟩, .int .i64 0, .int .i64 0, .int .i64 0, .bool false, .int .i64 0, .bool false, .int .u64 0, .int .u64 0, .bool false, .bool false, .int .u64 0, .int .u64 0, .bool false, .int .i64 0, .bool false, .int .i64 0, .bool false] rfl rfl _ (by kernel_rfl) rfl (by first | rfl | simp [Value.oneCell']) ?_
  go_wp2_with fail
  generalize hw2 : w1.alloc (.cells #[.string (strOfNums y), .string ⟨#[]⟩, .int .i64 0, .int .i64 0, .int .i64 0, .bool false, .int .i64 0, .bool false, .int .u64 0, .int .u64 0, .bool false, .bool false, .int .u64 0, .int .u64 0, .bool false, .int .i64 0, .bool false, .int .i64 0, .bool false] 52) = w2
  have g2 : Grew w1 w2 := by rw [← hw2]; exact (Grew.refl _).alloc _
  have T2 : Hid (Turn [(w.heap.size + 1)] W w2) := T1.out.trans (g2.turn _)
  have S2 : Hid (DR w2 (w.heap.size + 1) v l (.error (f, e))) := S1.out.grew g2
  have N2 : Hid (w2.heap[w.heap.size]? = some (.cells I0.c 52 (0, 0))) := (g2.turn []).other N1.out (by simp)
  have M2 : Hid (w2.heap[w1.heap.size]? = some (.cells #[.string (strOfNums y), .string ⟨#[]⟩, .int .i64 0, .int .i64 0, .int .i64 0, .bool false, .int .i64 0, .bool false, .int .u64 0, .int .u64 0, .bool false, .bool false, .int .u64 0, .int .u64 0, .bool false, .int .i64 0, .bool false, .int .i64 0, .bool false] 52 (0, 0))) := by rw [← hw2]; exact heap_alloc_last _ _
  have hMs : (w.heap.size + 1) < w1.heap.size := S1.out.lt
  have hM1 : ¬ (w.heap.size + 1) = w1.heap.size := by omega
  have hMb : W.heap.size ≤ w1.heap.size := T1.out.size
  have hMN : w.heap.size < w1.heap.size := lt_of_obj N1.out
  have h01 : ¬ w.heap.size = w1.heap.size := by omega
  have h10 : ¬ w1.heap.size = w.heap.size := by omega
  clear hw2 g2 T1 S1 N1
  generalize hMM : w1.heap.size = MM at *
  clear hMM
  refine (Calls.der (dname_any S2.out) rfl).mono ?_
  rintro en w3 ⟨⟨z, rfl⟩, t3, s3⟩
  have T3 : Hid (Turn [(w.heap.size + 1)] W w3) := T2.out.trans t3
  have S3 : Hid (DR w3 (w.heap.size + 1) v l (.error (f, e))) := s3
  have N3 : Hid (w3.heap[w.heap.size]? = some (.cells I0.c 52 (0, 0))) := t3.other N2.out (by simp; try omega)
  have M3 : Hid (w3.heap[MM]? = some (.cells #[.string (strOfNums y), .string ⟨#[]⟩, .int .i64 0, .int .i64 0, .int .i64 0, .bool false, .int .i64 0, .bool false, .int .u64 0, .int .u64 0, .bool false, .bool false, .int .u64 0, .int .u64 0, .bool false, .int .i64 0, .bool false, .int .i64 0, .bool false] 52 (0, 0))) := t3.other M2.out (by simp; try omega)
  clear t3 s3 T2 S2 N2 M2
  obtain ⟨a3, o3, ha3, he3⟩ := S3.out.st
  have c3_3 := cell_of o3 3
  simp at c3_3
  have dn3 : ((e : Int) != 0) = true := by first | (simp; done) | (simp; omega)
  have de3 : ((e : Int) == 0) = false := by first | (simp; done) | (simp; omega)
  clear o3
  have x1_3 := free_of M3.out 1
  have m1_3 := cell_of M3.out 1
  simp at m1_3
  go_wp2_with fail
  generalize hw4 : (w3.setCell ⟨MM, 1, none⟩ (.string (strOfNums z))) = w4
  have f4 : FinD (w.heap.size + 1) v l W w4 (.error (f, e)) := by rw [← hw4]; exact ((FinD.mk_ T3.out S3.out).set H.out hMb)
  have T4 : Hid (Turn [(w.heap.size + 1)] W w4) := f4.1
  have S4 : Hid (DR w4 (w.heap.size + 1) v l (.error (f, e))) := f4.2
  have N4 : Hid (w4.heap[w.heap.size]? = some (.cells I0.c 52 (0, 0))) := by rw [← hw4]; exact (heap_other N3.out (by simpa using h01) _)
  have M4 : Hid (w4.heap[MM]? = some (.cells #[.string (strOfNums y), .string (strOfNums z), .int .i64 0, .int .i64 0, .int .i64 0, .bool false, .int .i64 0, .bool false, .int .u64 0, .int .u64 0, .bool false, .bool false, .int .u64 0, .int .u64 0, .bool false, .int .i64 0, .bool false, .int .i64 0, .bool false] 52 (0, 0))) := by rw [← hw4]; exact (heap_set M3.out 1 _).trans rfl
  clear hw4 f4 x1_3 m1_3 T3 S3 M3 N3
  refine (end_any S4.out).mono ?_
  rintro en w9 ⟨rfl, g9⟩
  have G9 : Hid (Grew w w9) := (T4.out.grew G0.out (by intro y hy; simp at hy; omega)).trans g9
  have N9 : Hid (w9.heap[w.heap.size]? = some (.cells I0.c 52 (0, 0))) := (g9.turn []).other N4.out (by simp)
  have he : e ≠ 0 := by obtain ⟨a, _, _, he⟩ := S4.out.st; exact he
  have d : ((e : Int) != 0) = true := by simp; exact he
  clear g9
  unfold endV
  go_wp2_with (first
    | with_reducible refine stop_store 52 rfl ?_
    | fail)
  unfold Stop
  refine wpList_store_row rfl 52 _ _ rfl w.heap.size I0.c rfl rfl 52 I0.c N9.out (IM.sz _) rfl (IM.one _) ?_
  go_wp2_with fail
  have l1 : (loadVar 52 ⟨w.heap.size, 0, none⟩).run Tryz.prog (w9.setRow w.heap.size I0.c) = .ok (.agg I0.c) (w9.setRow w.heap.size I0.c) := run_loadVar_row _ _ 52 52 _ (0, 0) _ (heap_setRow N9.out) Tryz.underlying52 rfl (IM.sz _)
  refine bodyPost_ret (v := .tuple #[.agg I0.c, .int .i64 f, .int .i64 e]) ?_ ?_ ?_
  · simp [results, Tryz.results13, asAddr, l1]
  · rfl
  rw [HX.out]
  exact ⟨rfl, G9.out.setRow (Nat.le_refl _) _⟩
set_option maxRecDepth 100000 in
set_option maxHeartbeats 4000000 in
theorem dim_2 (v : Value) (l : List Int) (p : Nat) (w : World) (hR : Reads w v l) (hB : Byt l) (hl : l.length ≤ 140737488351232) (hp : p ≤ l.length) {m : List Int} {r f e : Nat} (hx : nameR l p = .ok (m, r)) (hy : nameR l r = .error (f, e)) :
    Calls Tryz.prog 13 #[v, .int .i64 (p : Int)] w fun en w' => en = .returned (ansIm (I0, (f : Int), (e : Int))) ∧ Grew w w' := by
  have BG := begin_any v l p (w.alloc (.cells #[.string ⟨#[]⟩, .string ⟨#[]⟩, .int .i64 0, .int .i64 0, .int .i64 0, .bool false, .int .i64 0, .bool false, .int .u64 0, .int .u64 0, .bool false, .bool false, .int .u64 0, .int .u64 0, .bool false, .int .i64 0, .bool false, .int .i64 0, .bool false] 52)) (((Grew.refl w).alloc _).reads hR)
  rw [alloc_size, decide_eq_true (show 0 ≤ (p : Int) ∧ (p : Int) ≤ l.length by omega)] at BG
  have HR : Hid (Reads w v l) := hR
  have HB : Hid (Byt l) := hB
  obtain ⟨X, hX⟩ : ∃ X, X = (I0, (f : Int), (e : Int)) := ⟨_, rfl⟩
  rw [← hX]
  have HX : Hid (X = (I0, (f : Int), (e : Int))) := hX
  clear hR hB hX
  go_enter Tryz.func13, Tryz.ntmps13
  go_wp2_with fail
  refine BG.mono ?_
  rintro en W ⟨rfl, hW⟩
  have G0 : Hid (Grew w W) := by rw [hW]; exact ((Grew.refl w).alloc _).alloc _
  have N0 : Hid (W.heap[w.heap.size]? = some (.cells I0.c 52 (0, 0))) := by rw [hW]; exact heap_alloc (heap_alloc_last _ _) _
  have o0 : W.heap[w.heap.size + 1]? = some (rdg v p 0 0) := by
    rw [hW]
    have h1 : (w.alloc (.cells #[.string ⟨#[]⟩, .string ⟨#[]⟩, .int .i64 0, .int .i64 0, .int .i64 0, .bool false, .int .i64 0, .bool false, .int .u64 0, .int .u64 0, .bool false, .bool false, .int .u64 0, .int .u64 0, .bool false, .int .i64 0, .bool false, .int .i64 0, .bool false] 52)).heap.size = w.heap.size + 1 := alloc_size _ _
    rw [← h1]; exact heap_alloc_last _ _
  have S0 : Hid (DR W (w.heap.size + 1) v l (.ok p)) := ⟨⟨o0, hp⟩, G0.out.reads HR.out, HB.out, hl⟩
  have H : Hid (DR W (w.heap.size + 1) v l (.ok p)) := S0.out
  have T0 : Hid (Turn [w.heap.size + 1] W W) := Turn.refl _ W
  have hWs : w.heap.size + 1 < W.heap.size := lt_of_obj o0
  clear BG hW o0
  go_wp2_with fail
  refine (Calls.dok (dname_any S0.out) hx).mono ?_
  rintro en w1 ⟨rfl, t1, s1⟩
  have T1 : Hid (Turn [(w.heap.size + 1)] W w1) := T0.out.trans t1
  have S1 : Hid (DR w1 (w.heap.size + 1) v l (.ok r)) := s1
  have N1 : Hid (w1.heap[w.heap.size]? = some (.cells I0.c 52 (0, 0))) := t1.other N0.out (by simp; try omega)
  clear t1 s1 T0 S0 N0
  clear hx
  go_wp2_with (first
    | with_reducible refine stop_store 52 rfl ?_
    | fail)
  unfold Stop
  refine wpList_store_last rfl 52 _ _ rfl #[.string (strOfNums m), .string ⟨#[]⟩, .int .i64 0, .int .i64 0, .int .i64 0, .bool false, .int .i64 0, .bool false, .int .u64 0, .int .u64 0, .bool false, .bool false, .int .u64 0, .int .u64 0, .bool false, .int .i64 0, .bool false, .int .i64 0, .bool false] rfl rfl _ (by kernel_rfl) rfl (by first | rfl | simp [Value.oneCell']) ?_
  go_wp2_with fail
  generalize hw2 : w1.alloc (.cells #[.string (strOfNums m), .string ⟨#[]⟩, .int .i64 0, .int .i64 0, .int .i64 0, .bool false, .int .i64 0, .bool false, .int .u64 0, .int .u64 0, .bool false, .bool false, .int .u64 0, .int .u64 0, .bool false, .int .i64 0, .bool false, .int .i64 0, .bool false] 52) = w2
  have g2 : Grew w1 w2 := by rw [← hw2]; exact (Grew.refl _).alloc _
  have T2 : Hid (Turn [(w.heap.size + 1)] W w2) := T1.out.trans (g2.turn _)
  have S2 : Hid (DR w2 (w.heap.size + 1) v l (.ok r)) := S1.out.grew g2
  have N2 : Hid (w2.heap[w.heap.size]? = some (.cells I0.c 52 (0, 0))) := (g2.turn []).other N1.out (by simp)
  have M2 : Hid (w2.heap[w1.heap.size]? = some (.cells #[.string (strOfNums m), .string ⟨#[]⟩, .int .i64 0, .int .i64 0, .int .i64 0, .bool false, .int .i64 0, .bool false, .int .u64 0, .int .u64 0, .bool false, .bool false, .int .u64 0, .int .u64 0, .bool false, .int .i64 0, .bool false, .int .i64 0, .bool false] 52 (0, 0))) := by rw [← hw2]; exact heap_alloc_last _ _
  have hMs : (w.heap.size + 1) < w1.heap.size := S1.out.lt
  have hM1 : ¬ (w.heap.size + 1) = w1.heap.size := by omega
  have hMb : W.heap.size ≤ w1.heap.size := T1.out.size
  have hMN : w.heap.size < w1.heap.size := lt_of_obj N1.out
  have h01 : ¬ w.heap.size = w1.heap.size := by omega
  have h10 : ¬ w1.heap.size = w.heap.size := by omega
  clear hw2 g2 T1 S1 N1
  generalize hMM : w1.heap.size = MM at *
  clear hMM
  refine (Calls.der (dname_any S2.out) hy).mono ?_
  rintro en w3 ⟨⟨z, rfl⟩, t3, s3⟩
  have T3 : Hid (Turn [(w.heap.size + 1)] W w3) := T2.out.trans t3
  have S3 : Hid (DR w3 (w.heap.size + 1) v l (.error (f, e))) := s3
  have N3 : Hid (w3.heap[w.heap.size]? = some (.cells I0.c 52 (0, 0))) := t3.other N2.out (by simp; try omega)
  have M3 : Hid (w3.heap[MM]? = some (.cells #[.string (strOfNums m), .string ⟨#[]⟩, .int .i64 0, .int .i64 0, .int .i64 0, .bool false, .int .i64 0, .bool false, .int .u64 0, .int .u64 0, .bool false, .bool false, .int .u64 0, .int .u64 0, .bool false, .int .i64 0, .bool false, .int .i64 0, .bool false] 52 (0, 0))) := t3.other M2.out (by simp; try omega)
  clear t3 s3 T2 S2 N2 M2
  clear hy
  obtain ⟨a3, o3, ha3, he3⟩ := S3.out.st
  have c3_3 := cell_of o3 3
  simp at c3_3
  have dn3 : ((e : Int) != 0) = true := by first | (simp; done) | (simp; omega)
  have de3 : ((e : Int) == 0) = false := by first | (simp; done) | (simp; omega)
  clear o3
  have x1_3 := free_of M3.out 1
  have m1_3 := cell_of M3.out 1
  simp at m1_3
  go_wp2_with fail
  generalize hw4 : (w3.setCell ⟨MM, 1, none⟩ (.string (strOfNums z))) = w4
  have f4 : FinD (w.heap.size + 1) v l W w4 (.error (f, e)) := by rw [← hw4]; exact ((FinD.mk_ T3.out S3.out).set H.out hMb)
  have T4 : Hid (Turn [(w.heap.size + 1)] W w4) := f4.1
  have S4 : Hid (DR w4 (w.heap.size + 1) v l (.error (f, e))) := f4.2
  have N4 : Hid (w4.heap[w.heap.size]? = some (.cells I0.c 52 (0, 0))) := by rw [← hw4]; exact (heap_other N3.out (by simpa using h01) _)
  have M4 : Hid (w4.heap[MM]? = some (.cells #[.string (strOfNums m), .string (strOfNums z), .int .i64 0, .int .i64 0, .int .i64 0, .bool false, .int .i64 0, .bool false, .int .u64 0, .int .u64 0, .bool false, .bool false, .int .u64 0, .int .u64 0, .bool false, .int .i64 0, .bool false, .int .i64 0, .bool false] 52 (0, 0))) := by rw [← hw4]; exact (heap_set M3.out 1 _).trans rfl
  clear hw4 f4 x1_3 m1_3 T3 S3 M3 N3
  refine (end_any S4.out).mono ?_
  rintro en w9 ⟨rfl, g9⟩
  have G9 : Hid (Grew w w9) := (T4.out.grew G0.out (by intro y hy; simp at hy; omega)).trans g9
  have N9 : Hid (w9.heap[w.heap.size]? = some (.cells I0.c 52 (0, 0))) := (g9.turn []).other N4.out (by simp)
  have he : e ≠ 0 := by obtain ⟨a, _, _, he⟩ := S4.out.st; exact he
  have d : ((e : Int) != 0) = true := by simp; exact he
  clear g9
  unfold endV
  go_wp2_with (first
    | with_reducible refine stop_store 52 rfl ?_
    | fail)
  unfold Stop
  refine wpList_store_row rfl 52 _ _ rfl w.heap.size I0.c rfl rfl 52 I0.c N9.out (IM.sz _) rfl (IM.one _) ?_
  go_wp2_with fail
  have l1 : (loadVar 52 ⟨w.heap.size, 0, none⟩).run Tryz.prog (w9.setRow w.heap.size I0.c) = .ok (.agg I0.c) (w9.setRow w.heap.size I0.c) := run_loadVar_row _ _ 52 52 _ (0, 0) _ (heap_setRow N9.out) Tryz.underlying52 rfl (IM.sz _)
  refine bodyPost_ret (v := .tuple #[.agg I0.c, .int .i64 f, .int .i64 e]) ?_ ?_ ?_
  · simp [results, Tryz.results13, asAddr, l1]
  · rfl
  rw [HX.out]
  exact ⟨rfl, G9.out.setRow (Nat.le_refl _) _⟩
set_option maxRecDepth 100000 in
set_option maxHeartbeats 4000000 in
theorem dim_3 (v : Value) (l : List Int) (p : Nat) (w : World) (hR : Reads w v l) (hB : Byt l) (hl : l.length ≤ 140737488351232) (hp : p ≤ l.length) {m n : List Int} {r u : Nat} (hx : nameR l p = .ok (m, r)) (hy : nameR l r = .ok (n, u)) {f e : Nat} (hz : extR l u = .error (f, e)) :
    Calls Tryz.prog 13 #[v, .int .i64 (p : Int)] w fun en w' => en = .returned (ansIm (I0, (f : Int), (e : Int))) ∧ Grew w w' := by
  have BG := begin_any v l p (w.alloc (.cells #[.string ⟨#[]⟩, .string ⟨#[]⟩, .int .i64 0, .int .i64 0, .int .i64 0, .bool false, .int .i64 0, .bool false, .int .u64 0, .int .u64 0, .bool false, .bool false, .int .u64 0, .int .u64 0, .bool false, .int .i64 0, .bool false, .int .i64 0, .bool false] 52)) (((Grew.refl w).alloc _).reads hR)
  rw [alloc_size, decide_eq_true (show 0 ≤ (p : Int) ∧ (p : Int) ≤ l.length by omega)] at BG
  have HR : Hid (Reads w v l) := hR
  have HB : Hid (Byt l) := hB
  obtain ⟨X, hX⟩ : ∃ X, X = (I0, (f : Int), (e : Int)) := ⟨_, rfl⟩
  rw [← hX]
  have HX : Hid (X = (I0, (f : Int), (e : Int))) := hX
  clear hR hB hX
  go_enter Tryz.func13, Tryz.ntmps13
  go_wp2_with fail
  refine BG.mono ?_
  rintro en W ⟨rfl, hW⟩
  have G0 : Hid (Grew w W) := by rw [hW]; exact ((Grew.refl w).alloc _).alloc _
  have N0 : Hid (W.heap[w.heap.size]? = some (.cells I0.c 52 (0, 0))) := by rw [hW]; exact heap_alloc (heap_alloc_last _ _) _
  have o0 : W.heap[w.heap.size + 1]? = some (rdg v p 0 0) := by
    rw [hW]
    have h1 : (w.alloc (.cells #[.string ⟨#[]⟩, .string ⟨#[]⟩, .int .i64 0, .int .i64 0, .int .i64 0, .bool false, .int .i64 0, .bool false, .int .u64 0, .int .u64 0, .bool false, .bool false, .int .u64 0, .int .u64 0, .bool false, .int .i64 0, .bool false, .int .i64 0, .bool false] 52)).heap.size = w.heap.size + 1 := alloc_size _ _
    rw [← h1]; exact heap_alloc_last _ _
  have S0 : Hid (DR W (w.heap.size + 1) v l (.ok p)) := ⟨⟨o0, hp⟩, G0.out.reads HR.out, HB.out, hl⟩
  have H : Hid (DR W (w.heap.size + 1) v l (.ok p)) := S0.out
  have T0 : Hid (Turn [w.heap.size + 1] W W) := Turn.refl _ W
  have hWs : w.heap.size + 1 < W.heap.size := lt_of_obj o0
  clear BG hW o0
  go_wp2_with fail
  refine (Calls.dok (dname_any S0.out) hx).mono ?_
  rintro en w1 ⟨rfl, t1, s1⟩
  have T1 : Hid (Turn [(w.heap.size + 1)] W w1) := T0.out.trans t1
  have S1 : Hid (DR w1 (w.heap.size + 1) v l (.ok r)) := s1
  have N1 : Hid (w1.heap[w.heap.size]? = some (.cells I0.c 52 (0, 0))) := t1.other N0.out (by simp; try omega)
  clear t1 s1 T0 S0 N0
  clear hx
  go_wp2_with (first
    | with_reducible refine stop_store 52 rfl ?_
    | fail)
  unfold Stop
  refine wpList_store_last rfl 52 _ _ rfl #[.string (strOfNums m), .string ⟨#[]⟩, .int .i64 0, .int .i64 0, .int .i64 0, .bool false, .int .i64 0, .bool false, .int .u64 0, .int .u64 0, .bool false, .bool false, .int .u64 0, .int .u64 0, .bool false, .int .i64 0, .bool false, .int .i64 0, .bool false] rfl rfl _ (by kernel_rfl) rfl (by first | rfl | simp [Value.oneCell']) ?_
  go_wp2_with fail
  generalize hw2 : w1.alloc (.cells #[.string (strOfNums m), .string ⟨#[]⟩, .int .i64 0, .int .i64 0, .int .i64 0, .bool false, .int .i64 0, .bool false, .int .u64 0, .int .u64 0, .bool false, .bool false, .int .u64 0, .int .u64 0, .bool false, .int .i64 0, .bool false, .int .i64 0, .bool false] 52) = w2
  have g2 : Grew w1 w2 := by rw [← hw2]; exact (Grew.refl _).alloc _
  have T2 : Hid (Turn [(w.heap.size + 1)] W w2) := T1.out.trans (g2.turn _)
  have S2 : Hid (DR w2 (w.heap.size + 1) v l (.ok r)) := S1.out.grew g2
  have N2 : Hid (w2.heap[w.heap.size]? = some (.cells I0.c 52 (0, 0))) := (g2.turn []).other N1.out (by simp)
  have M2 : Hid (w2.heap[w1.heap.size]? = some (.cells #[.string (strOfNums m), .string ⟨#[]⟩, .int .i64 0, .int .i64 0, .int .i64 0, .bool false, .int .i64 0, .bool false, .int .u64 0, .int .u64 0, .bool false, .bool false, .int .u64 0, .int .u64 0, .bool false, .int .i64 0, .bool false, .int .i64 0, .bool false] 52 (0, 0))) := by rw [← hw2]; exact heap_alloc_last _ _
  have hMs : (w.heap.size + 1) < w1.heap.size := S1.out.lt
  have hM1 : ¬ (w.heap.size + 1) = w1.heap.size := by omega
  have hMb : W.heap.size ≤ w1.heap.size := T1.out.size
  have hMN : w.heap.size < w1.heap.size := lt_of_obj N1.out
  have h01 : ¬ w.heap.size = w1.heap.size := by omega
  have h10 : ¬ w1.heap.size = w.heap.size := by omega
  clear hw2 g2 T1 S1 N1
  generalize hMM : w1.heap.size = MM at *
  clear hMM
  refine (Calls.dok (dname_any S2.out) hy).mono ?_
  rintro en w3 ⟨rfl, t3, s3⟩
  have T3 : Hid (Turn [(w.heap.size + 1)] W w3) := T2.out.trans t3
  have S3 : Hid (DR w3 (w.heap.size + 1) v l (.ok u)) := s3
  have N3 : Hid (w3.heap[w.heap.size]? = some (.cells I0.c 52 (0, 0))) := t3.other N2.out (by simp; try omega)
  have M3 : Hid (w3.heap[MM]? = some (.cells #[.string (strOfNums m), .string ⟨#[]⟩, .int .i64 0, .int .i64 0, .int .i64 0, .bool false, .int .i64 0, .bool false, .int .u64 0, .int .u64 0, .bool false, .bool false, .int .u64 0, .int .u64 0, .bool false, .int .i64 0, .bool false, .int .i64 0, .bool false] 52 (0, 0))) := t3.other M2.out (by simp; try omega)
  clear t3 s3 T2 S2 N2 M2
  clear hy
  have c3_3 := cell_of S3.out.st.1 3
  simp at c3_3
  have x1_3 := free_of M3.out 1
  have m1_3 := cell_of M3.out 1
  simp at m1_3
  go_wp2_with fail
  generalize hw4 : (w3.setCell ⟨MM, 1, none⟩ (.string (strOfNums n))) = w4
  have f4 : FinD (w.heap.size + 1) v l W w4 (.ok u) := by rw [← hw4]; exact ((FinD.mk_ T3.out S3.out).set H.out hMb)
  have T4 : Hid (Turn [(w.heap.size + 1)] W w4) := f4.1
  have S4 : Hid (DR w4 (w.heap.size + 1) v l (.ok u)) := f4.2
  have N4 : Hid (w4.heap[w.heap.size]? = some (.cells I0.c 52 (0, 0))) := by rw [← hw4]; exact (heap_other N3.out (by simpa using h01) _)
  have M4 : Hid (w4.heap[MM]? = some (.cells #[.string (strOfNums m), .string (strOfNums n), .int .i64 0, .int .i64 0, .int .i64 0, .bool false, .int .i64 0, .bool false, .int .u64 0, .int .u64 0, .bool false, .bool false, .int .u64 0, .int .u64 0, .bool false, .int .i64 0, .bool false, .int .i64 0, .bool false] 52 (0, 0))) := by rw [← hw4]; exact (heap_set M3.out 1 _).trans rfl
  clear hw4 f4 x1_3 m1_3 T3 S3 M3 N3
  refine (Calls.der (dextern_ok S4.out) hz).mono ?_
  rintro en w5 ⟨⟨xx, rfl⟩, t5, s5⟩
  have T5 : Hid (Turn [(w.heap.size + 1)] W w5) := T4.out.trans t5
  have S5 : Hid (DR w5 (w.heap.size + 1) v l (.error (f, e))) := s5
  have N5 : Hid (w5.heap[w.heap.size]? = some (.cells I0.c 52 (0, 0))) := t5.other N4.out (by simp; try omega)
  have M5 : Hid (w5.heap[MM]? = some (.cells #[.string (strOfNums m), .string (strOfNums n), .int .i64 0, .int .i64 0, .int .i64 0, .bool false, .int .i64 0, .bool false, .int .u64 0, .int .u64 0, .bool false, .bool false, .int .u64 0, .int .u64 0, .bool false, .int .i64 0, .bool false, .int .i64 0, .bool false] 52 (0, 0))) := t5.other M4.out (by simp; try omega)
  clear t5 s5 T4 S4 N4 M4
  clear hz
  rw [show XT.v xx = .agg xx.c from rfl]
  go_wp2_with (first
    | with_reducible refine stop_store 50 rfl ?_
    | fail)
  unfold Stop
  refine wpList_store_mid rfl 50 _ _ rfl MM 2 xx.c rfl rfl (there_of M5.out (Nat.le_refl 19)) (XT.sz _) (XT.one _) ?_
  generalize hw6 : w5.setCells MM 2 xx.c.toList = w6
  have f6 : FinD (w.heap.size + 1) v l W w6 (.error (f, e)) := by rw [← hw6]; exact FinD.cells H.out hMb _ _ (FinD.mk_ T5.out S5.out)
  have T6 : Hid (Turn [(w.heap.size + 1)] W w6) := f6.1
  have S6 : Hid (DR w6 (w.heap.size + 1) v l (.error (f, e))) := f6.2
  have N6 : Hid (w6.heap[w.heap.size]? = some (.cells I0.c 52 (0, 0))) := by rw [← hw6]; exact heap_cells_other h01 _ _ N5.out
  have M6 : Hid (w6.heap[MM]? = some (.cells (IM.c ⟨m, n, xx⟩) 52 (0, 0))) := by rw [← hw6, ← imp_cells]; exact heap_cells _ _ M5.out
  clear hw6 f6 T5 S5 N5 M5
  go_wp2_with fail
  refine (end_any S6.out).mono ?_
  rintro en w9 ⟨rfl, g9⟩
  have G9 : Hid (Grew w w9) := (T6.out.grew G0.out (by intro y hy; simp at hy; omega)).trans g9
  have N9 : Hid (w9.heap[w.heap.size]? = some (.cells I0.c 52 (0, 0))) := (g9.turn []).other N6.out (by simp)
  have he : e ≠ 0 := by obtain ⟨a, _, _, he⟩ := S6.out.st; exact he
  have d : ((e : Int) != 0) = true := by simp; exact he
  clear g9
  unfold endV
  go_wp2_with (first
    | with_reducible refine stop_store 52 rfl ?_
    | fail)
  unfold Stop
  refine wpList_store_row rfl 52 _ _ rfl w.heap.size I0.c rfl rfl 52 I0.c N9.out (IM.sz _) rfl (IM.one _) ?_
  go_wp2_with fail
  have l1 : (loadVar 52 ⟨w.heap.size, 0, none⟩).run Tryz.prog (w9.setRow w.heap.size I0.c) = .ok (.agg I0.c) (w9.setRow w.heap.size I0.c) := run_loadVar_row _ _ 52 52 _ (0, 0) _ (heap_setRow N9.out) Tryz.underlying52 rfl (IM.sz _)
  refine bodyPost_ret (v := .tuple #[.agg I0.c, .int .i64 f, .int .i64 e]) ?_ ?_ ?_
  · simp [results, Tryz.results13, asAddr, l1]
  · rfl
  rw [HX.out]
  exact ⟨rfl, G9.out.setRow (Nat.le_refl _) _⟩
set_option maxRecDepth 100000 in
set_option maxHeartbeats 4000000 in
theorem dim_4 (v : Value) (l : List Int) (p : Nat) (w : World) (hR : Reads w v l) (hB : Byt l) (hl : l.length ≤ 140737488351232) (hp : p ≤ l.length) {m n : List Int} {r u : Nat} (hx : nameR l p = .ok (m, r)) (hy : nameR l r = .ok (n, u)) {xx : XT} {q9 : Nat} (hz : extR l u = .ok (xx, q9)) :
    Calls Tryz.prog 13 #[v, .int .i64 (p : Int)] w fun en w' => en = .returned (ansIm ((⟨m, n, xx⟩ : IM), (q9 : Int), (0 : Int))) ∧ Grew w w' := by
  have BG := begin_any v l p (w.alloc (.cells #[.string ⟨#[]⟩, .string ⟨#[]⟩, .int .i64 0, .int .i64 0, .int .i64 0, .bool false, .int .i64 0, .bool false, .int .u64 0, .int .u64 0, .bool false, .bool false, .int .u64 0, .int .u64 0, .bool false, .int .i64 0, .bool false, .int .i64 0, .bool false] 52)) (((Grew.refl w).alloc _).reads hR)
  rw [alloc_size, decide_eq_true (show 0 ≤ (p : Int) ∧ (p : Int) ≤ l.length by omega)] at BG
  have HR : Hid (Reads w v l) := hR
  have HB : Hid (Byt l) := hB
  obtain ⟨X, hX⟩ : ∃ X, X = ((⟨m, n, xx⟩ : IM), (q9 : Int), (0 : Int)) := ⟨_, rfl⟩
  rw [← hX]
  have HX : Hid (X = ((⟨m, n, xx⟩ : IM), (q9 : Int), (0 : Int))) := hX
  clear hR hB hX
  go_enter Tryz.func13, Tryz.ntmps13
  go_wp2_with fail
  refine BG.mono ?_
  rintro en W ⟨rfl, hW⟩
  have G0 : Hid (Grew w W) := by rw [hW]; exact ((Grew.refl w).alloc _).alloc _
  have N0 : Hid (W.heap[w.heap.size]? = some (.cells I0.c 52 (0, 0))) := by rw [hW]; exact heap_alloc (heap_alloc_last _ _) _
  have o0 : W.heap[w.heap.size + 1]? = some (rdg v p 0 0) := by
    rw [hW]
    have h1 : (w.alloc (.cells #[.string ⟨#[]⟩, .string ⟨#[]⟩, .int .i64 0, .int .i64 0, .int .i64 0, .bool false, .int .i64 0, .bool false, .int .u64 0, .int .u64 0, .bool false, .bool false, .int .u64 0, .int .u64 0, .bool false, .int .i64 0, .bool false, .int .i64 0, .bool false] 52)).heap.size = w.heap.size + 1 := alloc_size _ _
    rw [← h1]; exact heap_alloc_last _ _
  have S0 : Hid (DR W (w.heap.size + 1) v l (.ok p)) := ⟨⟨o0, hp⟩, G0.out.reads HR.out, HB.out, hl⟩
  have H : Hid (DR W (w.heap.size + 1) v l (.ok p)) := S0.out
  have T0 : Hid (Turn [w.heap.size + 1] W W) := Turn.refl _ W
  have hWs : w.heap.size + 1 < W.heap.size := lt_of_obj o0
  clear BG hW o0
  go_wp2_with fail
  refine (Calls.dok (dname_any S0.out) hx).mono ?_
  rintro en w1 ⟨rfl, t1, s1⟩
  have T1 : Hid (Turn [(w.heap.size + 1)] W w1) := T0.out.trans t1
  have S1 : Hid (DR w1 (w.heap.size + 1) v l (.ok r)) := s1
  have N1 : Hid (w1.heap[w.heap.size]? = some (.cells I0.c 52 (0, 0))) := t1.other N0.out (by simp; try omega)
  clear t1 s1 T0 S0 N0
  clear hx
  go_wp2_with (first
    | with_reducible refine stop_store 52 rfl ?_
    | fail)
  unfold Stop
  refine wpList_store_last rfl 52 _ _ rfl #[.string (strOfNums m), .string ⟨#[]⟩, .int .i64 0, .int .i64 0, .int .i64 0, .bool false, .int .i64 0, .bool false, .int .u64 0, .int .u64 0, .bool false, .bool false, .int .u64 0, .int .u64 0, .bool false, .int .i64 0, .bool false, .int .i64 0, .bool false] rfl rfl _ (by kernel_rfl) rfl (by first | rfl | simp [Value.oneCell']) ?_
  go_wp2_with fail
  generalize hw2 : w1.alloc (.cells #[.string (strOfNums m), .string ⟨#[]⟩, .int .i64 0, .int .i64 0, .int .i64 0, .bool false, .int .i64 0, .bool false, .int .u64 0, .int .u64 0, .bool false, .bool false, .int .u64 0, .int .u64 0, .bool false, .int .i64 0, .bool false, .int .i64 0, .bool false] 52) = w2
  have g2 : Grew w1 w2 := by rw [← hw2]; exact (Grew.refl _).alloc _
  have T2 : Hid (Turn [(w.heap.size + 1)] W w2) := T1.out.trans (g2.turn _)
  have S2 : Hid (DR w2 (w.heap.size + 1) v l (.ok r)) := S1.out.grew g2
  have N2 : Hid (w2.heap[w.heap.size]? = some (.cells I0.c 52 (0, 0))) := (g2.turn []).other N1.out (by simp)
  have M2 : Hid (w2.heap[w1.heap.size]? = some (.cells #[.string (strOfNums m), .string ⟨#[]⟩, .int .i64 0, .int .i64 0, .int .i64 0, .bool false, .int .i64 0, .bool false, .int .u64 0, .int .u64 0, .bool false, .bool false, .int .u64 0, .int .u64 0, .bool false, .int .i64 0, .bool false, .int .i64 0, .bool false] 52 (0, 0))) := by rw [← hw2]; exact heap_alloc_last _ _
  have hMs : (w.heap.size + 1) < w1.heap.size := S1.out.lt
  have hM1 : ¬ (w.heap.size + 1) = w1.heap.size := by omega
  have hMb : W.heap.size ≤ w1.heap.size := T1.out.size
  have hMN : w.heap.size < w1.heap.size := lt_of_obj N1.out
  have h01 : ¬ w.heap.size = w1.heap.size := by omega
  have h10 : ¬ w1.heap.size = w.heap.size := by omega
  clear hw2 g2 T1 S1 N1
  generalize hMM : w1.heap.size = MM at *
  clear hMM
  refine (Calls.dok (dname_any S2.out) hy).mono ?_
  rintro en w3 ⟨rfl, t3, s3⟩
  have T3 : Hid (Turn [(w.heap.size + 1)] W w3) := T2.out.trans t3
  have S3 : Hid (DR w3 (w.heap.size + 1) v l (.ok u)) := s3
  have N3 : Hid (w3.heap[w.heap.size]? = some (.cells I0.c 52 (0, 0))) := t3.other N2.out (by simp; try omega)
  have M3 : Hid (w3.heap[MM]? = some (.cells #[.string (strOfNums m), .string ⟨#[]⟩, .int .i64 0, .int .i64 0, .int .i64 0, .bool false, .int .i64 0, .bool false, .int .u64 0, .int .u64 0, .bool false, .bool false, .int .u64 0, .int .u64 0, .bool false, .int .i64 0, .bool false, .int .i64 0, .bool false] 52 (0, 0))) := t3.other M2.out (by simp; try omega)
  clear t3 s3 T2 S2 N2 M2
  clear hy
  have c3_3 := cell_of S3.out.st.1 3
  simp at c3_3
  have x1_3 := free_of M3.out 1
  have m1_3 := cell_of M3.out 1
  simp at m1_3
  go_wp2_with fail
  generalize hw4 : (w3.setCell ⟨MM, 1, none⟩ (.string (strOfNums n))) = w4
  have f4 : FinD (w.heap.size + 1) v l W w4 (.ok u) := by rw [← hw4]; exact ((FinD.mk_ T3.out S3.out).set H.out hMb)
  have T4 : Hid (Turn [(w.heap.size + 1)] W w4) := f4.1
  have S4 : Hid (DR w4 (w.heap.size + 1) v l (.ok u)) := f4.2
  have N4 : Hid (w4.heap[w.heap.size]? = some (.cells I0.c 52 (0, 0))) := by rw [← hw4]; exact (heap_other N3.out (by simpa using h01) _)
  have M4 : Hid (w4.heap[MM]? = some (.cells #[.string (strOfNums m), .string (strOfNums n), .int .i64 0, .int .i64 0, .int .i64 0, .bool false, .int .i64 0, .bool false, .int .u64 0, .int .u64 0, .bool false, .bool false, .int .u64 0, .int .u64 0, .bool false, .int .i64 0, .bool false, .int .i64 0, .bool false] 52 (0, 0))) := by rw [← hw4]; exact (heap_set M3.out 1 _).trans rfl
  clear hw4 f4 x1_3 m1_3 T3 S3 M3 N3
  refine (Calls.dok (dextern_ok S4.out) hz).mono ?_
  rintro en w5 ⟨rfl, t5, s5⟩
  have T5 : Hid (Turn [(w.heap.size + 1)] W w5) := T4.out.trans t5
  have S5 : Hid (DR w5 (w.heap.size + 1) v l (.ok q9)) := s5
  have N5 : Hid (w5.heap[w.heap.size]? = some (.cells I0.c 52 (0, 0))) := t5.other N4.out (by simp; try omega)
  have M5 : Hid (w5.heap[MM]? = some (.cells #[.string (strOfNums m), .string (strOfNums n), .int .i64 0, .int .i64 0, .int .i64 0, .bool false, .int .i64 0, .bool false, .int .u64 0, .int .u64 0, .bool false, .bool false, .int .u64 0, .int .u64 0, .bool false, .int .i64 0, .bool false, .int .i64 0, .bool false] 52 (0, 0))) := t5.other M4.out (by simp; try omega)
  clear t5 s5 T4 S4 N4 M4
  clear hz
  rw [show XT.v xx = .agg xx.c from rfl]
  go_wp2_with (first
    | with_reducible refine stop_store 50 rfl ?_
    | fail)
  unfold Stop
  refine wpList_store_mid rfl 50 _ _ rfl MM 2 xx.c rfl rfl (there_of M5.out (Nat.le_refl 19)) (XT.sz _) (XT.one _) ?_
  generalize hw6 : w5.setCells MM 2 xx.c.toList = w6
  have f6 : FinD (w.heap.size + 1) v l W w6 (.ok q9) := by rw [← hw6]; exact FinD.cells H.out hMb _ _ (FinD.mk_ T5.out S5.out)
  have T6 : Hid (Turn [(w.heap.size + 1)] W w6) := f6.1
  have S6 : Hid (DR w6 (w.heap.size + 1) v l (.ok q9)) := f6.2
  have N6 : Hid (w6.heap[w.heap.size]? = some (.cells I0.c 52 (0, 0))) := by rw [← hw6]; exact heap_cells_other h01 _ _ N5.out
  have M6 : Hid (w6.heap[MM]? = some (.cells (IM.c ⟨m, n, xx⟩) 52 (0, 0))) := by rw [← hw6, ← imp_cells]; exact heap_cells _ _ M5.out
  clear hw6 f6 T5 S5 N5 M5
  go_wp2_with fail
  refine (end_any S6.out).mono ?_
  rintro en w9 ⟨rfl, g9⟩
  have G9 : Hid (Grew w w9) := (T6.out.grew G0.out (by intro y hy; simp at hy; omega)).trans g9
  have N9 : Hid (w9.heap[w.heap.size]? = some (.cells I0.c 52 (0, 0))) := (g9.turn []).other N6.out (by simp)
  have M9 : Hid (w9.heap[MM]? = some (.cells (IM.c ⟨m, n, xx⟩) 52 (0, 0))) := (g9.turn []).other M6.out (by simp)
  clear g9
  unfold endV
  go_wp2_with (first
    | with_reducible refine stop_load 52 rfl ?_
    | fail)
  unfold Stop
  refine wpList_load_row rfl 52 _ rfl MM rfl 52 (IM.c ⟨m, n, xx⟩) (0, 0) _ M9.out Tryz.underlying52 rfl (IM.sz _) ?_
  go_wp2_with (first
    | with_reducible refine stop_store 52 rfl ?_
    | fail)
  unfold Stop
  refine wpList_store_row rfl 52 _ _ rfl w.heap.size (IM.c ⟨m, n, xx⟩) rfl rfl 52 I0.c N9.out (IM.sz _) rfl (IM.one _) ?_
  go_wp2_with fail
  have l1 : (loadVar 52 ⟨w.heap.size, 0, none⟩).run Tryz.prog (w9.setRow w.heap.size (IM.c ⟨m, n, xx⟩)) = .ok (.agg (IM.c ⟨m, n, xx⟩)) (w9.setRow w.heap.size (IM.c ⟨m, n, xx⟩)) := run_loadVar_row _ _ 52 52 _ (0, 0) _ (heap_setRow N9.out) Tryz.underlying52 rfl (IM.sz _)
  refine bodyPost_ret (v := .tuple #[.agg (IM.c ⟨m, n, xx⟩), .int .i64 q9, .int .i64 0]) ?_ ?_ ?_
  · simp [results, Tryz.results13, asAddr, l1]
  · rfl
  rw [HX.out]
  exact ⟨rfl, G9.out.setRow (Nat.le_refl _) _⟩
set_option maxRecDepth 100000 in
set_option maxHeartbeats 1000000 in
theorem dtopIm_any_out (v : Value) (l : List Int) (x : Int) (w : World) (hR : Reads w v l) (hin : ¬ (0 ≤ x ∧ x ≤ l.length)) :
    Calls Tryz.prog 13 #[v, .int .i64 x] w fun en w' => en = .returned (ansIm (I0, 0, 1)) ∧ Grew w w' := by
  have BG := begin_any v l x (w.alloc (.cells #[.string ⟨#[]⟩, .string ⟨#[]⟩, .int .i64 0, .int .i64 0, .int .i64 0, .bool false, .int .i64 0, .bool false, .int .u64 0, .int .u64 0, .bool false, .bool false, .int .u64 0, .int .u64 0, .bool false, .int .i64 0, .bool false, .int .i64 0, .bool false] 52)) (((Grew.refl w).alloc _).reads hR)
  rw [alloc_size, decide_eq_false hin] at BG
  clear hin hR
  go_enter Tryz.func13, Tryz.ntmps13
  go_wp2_with fail
  refine BG.mono ?_
  rintro en W ⟨rfl, hW⟩
  have G9 : Hid (Grew w W) := by rw [hW]; exact ((Grew.refl w).alloc _).alloc _
  have N9 : Hid (W.heap[w.heap.size]? = some (.cells I0.c 52 (0, 0))) := by rw [hW]; exact heap_alloc (heap_alloc_last _ _) _
  clear BG hW
  go_wp2_with (first
    | with_reducible refine stop_store 52 rfl ?_
    | fail)
  unfold Stop
  refine wpList_store_row rfl 52 _ _ rfl w.heap.size I0.c rfl rfl 52 I0.c N9.out (IM.sz _) rfl (IM.one _) ?_
  go_wp2_with fail
  have l1 : (loadVar 52 ⟨w.heap.size, 0, none⟩).run Tryz.prog (W.setRow w.heap.size I0.c) = .ok (.agg I0.c) (W.setRow w.heap.size I0.c) := run_loadVar_row _ _ 52 52 _ (0, 0) _ (heap_setRow N9.out) Tryz.underlying52 rfl (IM.sz _)
  refine bodyPost_ret (v := .tuple #[.agg I0.c, .int .i64 0, .int .i64 1]) ?_ ?_ ?_
  · simp [results, Tryz.results13, asAddr, l1]
  · rfl
  exact ⟨rfl, G9.out.setRow (Nat.le_refl _) _⟩
set_option maxRecDepth 100000 in
set_option maxHeartbeats 1000000 in
theorem dtopIm_any (v : Value) (l : List Int) (x : Int) (w : World) (hR : Reads w v l) (hB : Byt l) (hl : l.length ≤ 140737488351232) :
    Calls Tryz.prog 13 #[v, .int .i64 x] w fun en w' => en = .returned (ansIm (topR (impR l) I0 l x)) ∧ Grew w w' := by
  by_cases hin : 0 ≤ x ∧ x ≤ l.length
  · obtain ⟨p, rfl⟩ : ∃ p : Nat, x = p := ⟨x.toNat, by omega⟩
    have hp : p ≤ l.length := by omega
    rw [topR_in hp]
    clear hin
    cases hx : nameR l p with
    | error y =>
      obtain ⟨f, e⟩ := y
      rw [show impR l p = .error (f, e) by unfold impR; rw [hx]; rfl]
      exact dim_1 v l p w hR hB hl hp hx
    | ok y =>
      obtain ⟨m, r⟩ := y
      cases hy : nameR l r with
      | error y =>
        obtain ⟨f, e⟩ := y
        rw [show impR l p = .error (f, e) by unfold impR; rw [hx]; simp only [thenR, hy]]
        exact dim_2 v l p w hR hB hl hp hx hy
      | ok y =>
        obtain ⟨n, u⟩ := y
        cases hz : extR l u with
        | error y =>
          obtain ⟨f, e⟩ := y
          rw [show impR l p = .error (f, e) by unfold impR; rw [hx]; simp only [thenR, hy, hz, mapR]]
          exact dim_3 v l p w hR hB hl hp hx hy hz
        | ok y =>
          obtain ⟨xx, q9⟩ := y
          rw [show impR l p = .ok (⟨m, n, xx⟩, q9) by unfold impR; rw [hx]; simp only [thenR, hy, hz, mapR]]
          exact dim_4 v l p w hR hB hl hp hx hy hz
  · rw [topR_out hin]
    exact dtopIm_any_out v l x w hR hin
end Go.Proofs.YtemaeigfhmnapaaGreatDoor
