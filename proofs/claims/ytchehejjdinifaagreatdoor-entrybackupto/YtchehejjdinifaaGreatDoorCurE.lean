/-
  The walk of the cursor that reads an extern type; no statement is proved here.
-/
import Derived.Test.YtchehejjdinifaaGreatDoorE8l
namespace Go.Proofs.YtchehejjdinifaaGreatDoor
open Go.RowKit
set_option linter.unusedVariables false
set_option linter.unusedSimpArgs false
set_option linter.constructorNameAsVariable false

theorem Turn.row {S : List Nat} {w w' : World} (h : Turn S w w') {g : Nat} (hg : w.heap.size ≤ g) (cs : Array Value) : Turn S w (w'.setRow g cs) :=
  ⟨h.os, h.tape, h.output, by simpa using h.size, fun k hk hn => (setRow_other w' g k cs (by omega)).trans (h.block k hk hn)⟩
theorem Fin.row {b : Nat} {v : Value} {l : List Int} {w w' : World} {p q : Nat} (h : Fin b v l w w' q) (h0 : CU w b v l p) {g : Nat} (hg : w.heap.size ≤ g) (cs : Array Value) : Fin b v l w (w'.setRow g cs) q :=
  ⟨h.1.row hg cs, h0.of (h.1.row hg cs) ((setRow_other _ _ _ _ (by have := h0.lt; omega)).trans h.2.obj) h.2.le⟩
def Stop (p : Prop) : Prop := p
theorem stop_load {P : Program} {ops : Array Oper} {rest : List Oper} {o : Oper} {a : Act} {w : World} {Q : Exit → Act → World → Prop} (ty : TypeId) {x : Operand} (ho : o.op = .load ty x) (h : Stop (wpList P ops Q (o :: rest) a w)) : wpList P ops Q (o :: rest) a w := h
theorem stop_store {P : Program} {ops : Array Oper} {rest : List Oper} {o : Oper} {a : Act} {w : World} {Q : Exit → Act → World → Prop} (ty : TypeId) {x y : Operand} (ho : o.op = .store ty x y) (h : Stop (wpList P ops Q (o :: rest) a w)) : wpList P ops Q (o :: rest) a w := h
/- An extern type. -/
structure XT where
  kind : Int
  ty : Int
  tab : TT
  mem : LM
  glo : GT
def XT.v (x : XT) : Value := .agg #[.int .i64 x.kind, .int .i64 x.ty, .int .i64 x.tab.elem.num, .bool x.tab.elem.null, .int .i64 x.tab.elem.heap, .bool x.tab.lim.wide, .int .u64 x.tab.lim.mn, .int .u64 x.tab.lim.mx, .bool x.tab.lim.hm, .bool x.mem.wide, .int .u64 x.mem.mn, .int .u64 x.mem.mx, .bool x.mem.hm, .int .i64 x.glo.ty.num, .bool x.glo.ty.null, .int .i64 x.glo.ty.heap, .bool x.glo.mut_]
def L0 : LM := ⟨false, 0, 0, false⟩
def V0 : VT := ⟨0, false, 0⟩
def T0_ : TT := ⟨V0, L0⟩
def G0_ : GT := ⟨V0, false⟩
def extK (k : Int) (l : List Int) (p : Nat) : RS XT :=
  if k = 0 then mapR (fun t => ⟨0, t, T0_, L0, G0_⟩) (tyU l p) else if k = 1 then mapR (fun t => ⟨1, 0, t, L0, G0_⟩) (tabR l p) else if k = 2 then mapR (fun t => ⟨2, 0, T0_, t, G0_⟩) (limsR l p)
  else if k = 3 then mapR (fun t => ⟨3, 0, T0_, L0, t⟩) (gloR l p) else mapR (fun t => ⟨4, t, T0_, L0, G0_⟩) (tagR l p)
def extR (l : List Int) (p : Nat) : RS XT := thenR (kindR l p) fun k q => extK k l q
set_option maxRecDepth 100000 in
set_option maxHeartbeats 1000000 in
theorem extern_0 {w : World} {b : Nat} {v : Value} {l : List Int} {p q : Nat} (h : CU w b v l p) (hk : kindR l p = .ok (0, q)) :
    Calls Tryz.prog 35 #[.pointer (some ⟨b, 0, none⟩)] w (Ans XT.v b v l w (extK 0 l q)) := by
  have H : Hid (CU w b v l p) := h
  have hb : b < w.heap.size := h.lt
  have hl := h.len
  have hle := h.le
  clear h
  have U0 : Hid (CU (w.alloc (.cells #[.int .i64 0, .int .i64 0, .int .i64 0, .bool false, .int .i64 0, .bool false, .int .u64 0, .int .u64 0, .bool false, .bool false, .int .u64 0, .int .u64 0, .bool false, .int .i64 0, .bool false, .int .i64 0, .bool false] 35)) b v l p) := H.out.grew ((Grew.refl w).alloc _)
  have T0 : Hid (Turn [b] w (w.alloc (.cells #[.int .i64 0, .int .i64 0, .int .i64 0, .bool false, .int .i64 0, .bool false, .int .u64 0, .int .u64 0, .bool false, .bool false, .int .u64 0, .int .u64 0, .bool false, .int .i64 0, .bool false, .int .i64 0, .bool false] 35))) := (Turn.refl [b] w).alloc _
  have N0 : Hid ((w.alloc (.cells #[.int .i64 0, .int .i64 0, .int .i64 0, .bool false, .int .i64 0, .bool false, .int .u64 0, .int .u64 0, .bool false, .bool false, .int .u64 0, .int .u64 0, .bool false, .int .i64 0, .bool false, .int .i64 0, .bool false] 35)).heap[w.heap.size]? = some (.cells #[.int .i64 0, .int .i64 0, .int .i64 0, .bool false, .int .i64 0, .bool false, .int .u64 0, .int .u64 0, .bool false, .bool false, .int .u64 0, .int .u64 0, .bool false, .int .i64 0, .bool false, .int .i64 0, .bool false] 35 (0, 0))) := heap_alloc_last _ _
  go_enter Tryz.func35, Tryz.ntmps35
  go_wp2_with fail
  refine (Calls.ok_of (kind_any U0.out) hk).mono ?_
  rintro en w1 ⟨rfl, t1, u1⟩
  have T1 : Hid (Turn [b] w w1) := T0.out.trans t1
  have U1 : Hid (CU w1 b v l q) := u1
  have N1 : Hid (w1.heap[w.heap.size]? = some (.cells #[.int .i64 0, .int .i64 0, .int .i64 0, .bool false, .int .i64 0, .bool false, .int .u64 0, .int .u64 0, .bool false, .bool false, .int .u64 0, .int .u64 0, .bool false, .int .i64 0, .bool false, .int .i64 0, .bool false] 35 (0, 0))) := t1.other N0.out (by simp; omega)
  clear t1 u1 T0 U0 N0
  clear hk
  have hs1 : w.heap.size < w1.heap.size := lt_of_obj N1.out
  go_wp2_with fail
  generalize hW : w1.alloc (.cells #[.int .i64 0, .int .i64 0, .int .i64 0, .bool false, .int .i64 0, .bool false, .int .u64 0, .int .u64 0, .bool false, .bool false, .int .u64 0, .int .u64 0, .bool false, .int .i64 0, .bool false, .int .i64 0, .bool false] 35) = W
  have gW : Grew w1 W := by rw [← hW]; exact (Grew.refl _).alloc _
  have T2 : Hid (Turn [b] w W) := T1.out.trans (gW.turn _)
  have U2 : Hid (CU W b v l q) := U1.out.grew gW
  have N2 : Hid (W.heap[w.heap.size]? = some (.cells #[.int .i64 0, .int .i64 0, .int .i64 0, .bool false, .int .i64 0, .bool false, .int .u64 0, .int .u64 0, .bool false, .bool false, .int .u64 0, .int .u64 0, .bool false, .int .i64 0, .bool false, .int .i64 0, .bool false] 35 (0, 0))) := (gW.turn []).other N1.out (by simp)
  have M2 : Hid (W.heap[w1.heap.size]? = some (.cells #[.int .i64 0, .int .i64 0, .int .i64 0, .bool false, .int .i64 0, .bool false, .int .u64 0, .int .u64 0, .bool false, .bool false, .int .u64 0, .int .u64 0, .bool false, .int .i64 0, .bool false, .int .i64 0, .bool false] 35 (0, 0))) := by rw [← hW]; exact heap_alloc_last _ _
  clear hW gW T1 U1 N1
  have hb1 : ¬ b = w1.heap.size := by omega
  have hb0 : ¬ b = w.heap.size := by omega
  have h10 : ¬ w1.heap.size = w.heap.size := by omega
  have h01 : ¬ w.heap.size = w1.heap.size := by omega
  generalize hn1 : w1.heap.size = N at *
  clear hn1 w1
  have HN : w.heap.size ≤ N := by omega
  cases hx : tyU l q with
  | error y =>
    obtain ⟨f, e⟩ := y
    have E : Hid (extK 0 l q = .error (f, e)) := by show extK 0 l q = _; unfold extK; rw [hx]; rfl
    refine (Calls.er_of (index_any U2.out) hx).mono ?_
    rintro en w4 ⟨rfl, t4⟩
    have T4 : Hid (Turn [b] w w4) := T2.out.trans t4
    clear t4
    go_wp2_with fail
    rw [E.out]
    exact ⟨rfl, rfl, T4.out⟩
  | ok y =>
    obtain ⟨t, r⟩ := y
    have E : Hid (extK 0 l q = .ok (⟨0, t, T0_, L0, G0_⟩, r)) := by show extK 0 l q = _; unfold extK; rw [hx]; rfl
    refine (Calls.ok_of (index_any U2.out) hx).mono ?_
    rintro en w4 ⟨rfl, t4, u4⟩
    have T4 : Hid (Turn [b] w w4) := T2.out.trans t4
    have U4 : Hid (CU w4 b v l r) := u4
    have N4 : Hid (w4.heap[w.heap.size]? = some (.cells #[.int .i64 0, .int .i64 0, .int .i64 0, .bool false, .int .i64 0, .bool false, .int .u64 0, .int .u64 0, .bool false, .bool false, .int .u64 0, .int .u64 0, .bool false, .int .i64 0, .bool false, .int .i64 0, .bool false] 35 (0, 0))) := t4.other N2.out (by simp; omega)
    have M4 : Hid (w4.heap[N]? = some (.cells #[.int .i64 0, .int .i64 0, .int .i64 0, .bool false, .int .i64 0, .bool false, .int .u64 0, .int .u64 0, .bool false, .bool false, .int .u64 0, .int .u64 0, .bool false, .int .i64 0, .bool false, .int .i64 0, .bool false] 35 (0, 0))) := t4.other M2.out (by simp; omega)
    clear t4 u4 T2 U2 N2 M2 hx
    have m1 := cell_of M4.out 1
    have x1 := free_of M4.out 1
    simp at m1
    go_wp2_with (first
      | with_reducible refine stop_load 35 rfl ?_
      | fail)
    generalize hw5 : (w4.setCell ⟨N, 1, none⟩ (.int .i64 t)) = w5
    have F5 : Hid (Fin b v l w w5 r) := by rw [← hw5]; exact ((Fin.mk_ T4.out U4.out).set H.out HN)
    have N5 : Hid (w5.heap[w.heap.size]? = some (.cells #[.int .i64 0, .int .i64 0, .int .i64 0, .bool false, .int .i64 0, .bool false, .int .u64 0, .int .u64 0, .bool false, .bool false, .int .u64 0, .int .u64 0, .bool false, .int .i64 0, .bool false, .int .i64 0, .bool false] 35 (0, 0))) := by rw [← hw5]; exact (heap_other (p := ⟨N, 1, none⟩) N4.out h01 _)
    have M5 : Hid (w5.heap[N]? = some (.cells #[.int .i64 0, .int .i64 t, .int .i64 0, .bool false, .int .i64 0, .bool false, .int .u64 0, .int .u64 0, .bool false, .bool false, .int .u64 0, .int .u64 0, .bool false, .int .i64 0, .bool false, .int .i64 0, .bool false] 35 (0, 0))) := by rw [← hw5]; exact (heap_set M4.out 1 _).trans rfl
    clear hw5 m1 x1 T4 U4 N4 M4
    unfold Stop
    refine wpList_load_row rfl 35 _ rfl N rfl 35 #[.int .i64 0, .int .i64 t, .int .i64 0, .bool false, .int .i64 0, .bool false, .int .u64 0, .int .u64 0, .bool false, .bool false, .int .u64 0, .int .u64 0, .bool false, .int .i64 0, .bool false, .int .i64 0, .bool false] (0, 0) _ M5.out Tryz.underlying35 rfl (by kernel_rfl) ?_
    go_wp2_with (first
      | with_reducible refine stop_store 35 rfl ?_
      | fail)
    unfold Stop
    refine wpList_store_row rfl 35 _ _ rfl w.heap.size #[.int .i64 0, .int .i64 t, .int .i64 0, .bool false, .int .i64 0, .bool false, .int .u64 0, .int .u64 0, .bool false, .bool false, .int .u64 0, .int .u64 0, .bool false, .int .i64 0, .bool false, .int .i64 0, .bool false] rfl rfl 35 #[.int .i64 0, .int .i64 0, .int .i64 0, .bool false, .int .i64 0, .bool false, .int .u64 0, .int .u64 0, .bool false, .bool false, .int .u64 0, .int .u64 0, .bool false, .int .i64 0, .bool false, .int .i64 0, .bool false] N5.out (by kernel_rfl) rfl (by first | rfl | decide | simp [Value.oneCell']) ?_
    go_wp2_with fail
    refine bodyPost_ret (v := .agg #[.int .i64 0, .int .i64 t, .int .i64 0, .bool false, .int .i64 0, .bool false, .int .u64 0, .int .u64 0, .bool false, .bool false, .int .u64 0, .int .u64 0, .bool false, .int .i64 0, .bool false, .int .i64 0, .bool false]) ?_ ?_ ?_
    · exact results_cell_row Tryz.results35 _ _ w.heap.size 35 _ (0, 0) _ rfl (heap_setRow N5.out) Tryz.underlying35 rfl (by kernel_rfl)
    · rfl
    rw [E.out]
    exact ⟨rfl, F5.out.row H.out (Nat.le_refl _) _⟩
set_option maxRecDepth 100000 in
set_option maxHeartbeats 1000000 in
theorem extern_1 {w : World} {b : Nat} {v : Value} {l : List Int} {p q : Nat} (h : CU w b v l p) (hk : kindR l p = .ok (1, q)) :
    Calls Tryz.prog 35 #[.pointer (some ⟨b, 0, none⟩)] w (Ans XT.v b v l w (extK 1 l q)) := by
  have H : Hid (CU w b v l p) := h
  have hb : b < w.heap.size := h.lt
  have hl := h.len
  have hle := h.le
  clear h
  have U0 : Hid (CU (w.alloc (.cells #[.int .i64 0, .int .i64 0, .int .i64 0, .bool false, .int .i64 0, .bool false, .int .u64 0, .int .u64 0, .bool false, .bool false, .int .u64 0, .int .u64 0, .bool false, .int .i64 0, .bool false, .int .i64 0, .bool false] 35)) b v l p) := H.out.grew ((Grew.refl w).alloc _)
  have T0 : Hid (Turn [b] w (w.alloc (.cells #[.int .i64 0, .int .i64 0, .int .i64 0, .bool false, .int .i64 0, .bool false, .int .u64 0, .int .u64 0, .bool false, .bool false, .int .u64 0, .int .u64 0, .bool false, .int .i64 0, .bool false, .int .i64 0, .bool false] 35))) := (Turn.refl [b] w).alloc _
  have N0 : Hid ((w.alloc (.cells #[.int .i64 0, .int .i64 0, .int .i64 0, .bool false, .int .i64 0, .bool false, .int .u64 0, .int .u64 0, .bool false, .bool false, .int .u64 0, .int .u64 0, .bool false, .int .i64 0, .bool false, .int .i64 0, .bool false] 35)).heap[w.heap.size]? = some (.cells #[.int .i64 0, .int .i64 0, .int .i64 0, .bool false, .int .i64 0, .bool false, .int .u64 0, .int .u64 0, .bool false, .bool false, .int .u64 0, .int .u64 0, .bool false, .int .i64 0, .bool false, .int .i64 0, .bool false] 35 (0, 0))) := heap_alloc_last _ _
  go_enter Tryz.func35, Tryz.ntmps35
  go_wp2_with fail
  refine (Calls.ok_of (kind_any U0.out) hk).mono ?_
  rintro en w1 ⟨rfl, t1, u1⟩
  have T1 : Hid (Turn [b] w w1) := T0.out.trans t1
  have U1 : Hid (CU w1 b v l q) := u1
  have N1 : Hid (w1.heap[w.heap.size]? = some (.cells #[.int .i64 0, .int .i64 0, .int .i64 0, .bool false, .int .i64 0, .bool false, .int .u64 0, .int .u64 0, .bool false, .bool false, .int .u64 0, .int .u64 0, .bool false, .int .i64 0, .bool false, .int .i64 0, .bool false] 35 (0, 0))) := t1.other N0.out (by simp; omega)
  clear t1 u1 T0 U0 N0
  clear hk
  have hs1 : w.heap.size < w1.heap.size := lt_of_obj N1.out
  go_wp2_with fail
  generalize hW : w1.alloc (.cells #[.int .i64 1, .int .i64 0, .int .i64 0, .bool false, .int .i64 0, .bool false, .int .u64 0, .int .u64 0, .bool false, .bool false, .int .u64 0, .int .u64 0, .bool false, .int .i64 0, .bool false, .int .i64 0, .bool false] 35) = W
  have gW : Grew w1 W := by rw [← hW]; exact (Grew.refl _).alloc _
  have T2 : Hid (Turn [b] w W) := T1.out.trans (gW.turn _)
  have U2 : Hid (CU W b v l q) := U1.out.grew gW
  have N2 : Hid (W.heap[w.heap.size]? = some (.cells #[.int .i64 0, .int .i64 0, .int .i64 0, .bool false, .int .i64 0, .bool false, .int .u64 0, .int .u64 0, .bool false, .bool false, .int .u64 0, .int .u64 0, .bool false, .int .i64 0, .bool false, .int .i64 0, .bool false] 35 (0, 0))) := (gW.turn []).other N1.out (by simp)
  have M2 : Hid (W.heap[w1.heap.size]? = some (.cells #[.int .i64 1, .int .i64 0, .int .i64 0, .bool false, .int .i64 0, .bool false, .int .u64 0, .int .u64 0, .bool false, .bool false, .int .u64 0, .int .u64 0, .bool false, .int .i64 0, .bool false, .int .i64 0, .bool false] 35 (0, 0))) := by rw [← hW]; exact heap_alloc_last _ _
  clear hW gW T1 U1 N1
  have hb1 : ¬ b = w1.heap.size := by omega
  have hb0 : ¬ b = w.heap.size := by omega
  have h10 : ¬ w1.heap.size = w.heap.size := by omega
  have h01 : ¬ w.heap.size = w1.heap.size := by omega
  generalize hn1 : w1.heap.size = N at *
  clear hn1 w1
  have HN : w.heap.size ≤ N := by omega
  cases hx : tabR l q with
  | error y =>
    obtain ⟨f, e⟩ := y
    have E : Hid (extK 1 l q = .error (f, e)) := by show extK 1 l q = _; unfold extK; rw [hx]; rfl
    refine (Calls.er_of (tableType_any U2.out) hx).mono ?_
    rintro en w4 ⟨rfl, t4⟩
    have T4 : Hid (Turn [b] w w4) := T2.out.trans t4
    clear t4
    go_wp2_with fail
    rw [E.out]
    exact ⟨rfl, rfl, T4.out⟩
  | ok y =>
    obtain ⟨⟨⟨n, nul, hp⟩, ⟨wi, mn, mx, hm⟩⟩, r⟩ := y
    have E : Hid (extK 1 l q = .ok (⟨1, 0, ⟨⟨n, nul, hp⟩, ⟨wi, mn, mx, hm⟩⟩, L0, G0_⟩, r)) := by show extK 1 l q = _; unfold extK; rw [hx]; rfl
    refine (Calls.ok_of (tableType_any U2.out) hx).mono ?_
    rintro en w4 ⟨rfl, t4, u4⟩
    have T4 : Hid (Turn [b] w w4) := T2.out.trans t4
    have U4 : Hid (CU w4 b v l r) := u4
    have N4 : Hid (w4.heap[w.heap.size]? = some (.cells #[.int .i64 0, .int .i64 0, .int .i64 0, .bool false, .int .i64 0, .bool false, .int .u64 0, .int .u64 0, .bool false, .bool false, .int .u64 0, .int .u64 0, .bool false, .int .i64 0, .bool false, .int .i64 0, .bool false] 35 (0, 0))) := t4.other N2.out (by simp; omega)
    have M4 : Hid (w4.heap[N]? = some (.cells #[.int .i64 1, .int .i64 0, .int .i64 0, .bool false, .int .i64 0, .bool false, .int .u64 0, .int .u64 0, .bool false, .bool false, .int .u64 0, .int .u64 0, .bool false, .int .i64 0, .bool false, .int .i64 0, .bool false] 35 (0, 0))) := t4.other M2.out (by simp; omega)
    clear t4 u4 T2 U2 N2 M2 hx
    unfold TT.v
    have m2 := cell_of M4.out 2
    have x2 := free_of M4.out 2
    have m3 := cell_of M4.out 3
    have x3 := free_of M4.out 3
    have m4 := cell_of M4.out 4
    have x4 := free_of M4.out 4
    have m5 := cell_of M4.out 5
    have x5 := free_of M4.out 5
    have m6 := cell_of M4.out 6
    have x6 := free_of M4.out 6
    have m7 := cell_of M4.out 7
    have x7 := free_of M4.out 7
    have m8 := cell_of M4.out 8
    have x8 := free_of M4.out 8
    simp at m2 m3 m4 m5 m6 m7 m8
    go_wp2_with (first
      | with_reducible refine stop_load 35 rfl ?_
      | fail)
    generalize hw5 : (((((((w4.setCell ⟨N, 2, none⟩ (.int .i64 n)).setCell ⟨N, 3, none⟩ (.bool nul)).setCell ⟨N, 4, none⟩ (.int .i64 hp)).setCell ⟨N, 5, none⟩ (.bool wi)).setCell ⟨N, 6, none⟩ (.int .u64 mn)).setCell ⟨N, 7, none⟩ (.int .u64 mx)).setCell ⟨N, 8, none⟩ (.bool hm)) = w5
    have F5 : Hid (Fin b v l w w5 r) := by rw [← hw5]; exact ((((((((Fin.mk_ T4.out U4.out).set H.out HN).set H.out HN).set H.out HN).set H.out HN).set H.out HN).set H.out HN).set H.out HN)
    have N5 : Hid (w5.heap[w.heap.size]? = some (.cells #[.int .i64 0, .int .i64 0, .int .i64 0, .bool false, .int .i64 0, .bool false, .int .u64 0, .int .u64 0, .bool false, .bool false, .int .u64 0, .int .u64 0, .bool false, .int .i64 0, .bool false, .int .i64 0, .bool false] 35 (0, 0))) := by rw [← hw5]; exact (heap_other (p := ⟨N, 8, none⟩) (heap_other (p := ⟨N, 7, none⟩) (heap_other (p := ⟨N, 6, none⟩) (heap_other (p := ⟨N, 5, none⟩) (heap_other (p := ⟨N, 4, none⟩) (heap_other (p := ⟨N, 3, none⟩) (heap_other (p := ⟨N, 2, none⟩) N4.out h01 _) h01 _) h01 _) h01 _) h01 _) h01 _) h01 _)
    have M5 : Hid (w5.heap[N]? = some (.cells #[.int .i64 1, .int .i64 0, .int .i64 n, .bool nul, .int .i64 hp, .bool wi, .int .u64 mn, .int .u64 mx, .bool hm, .bool false, .int .u64 0, .int .u64 0, .bool false, .int .i64 0, .bool false, .int .i64 0, .bool false] 35 (0, 0))) := by rw [← hw5]; exact (heap_set (heap_set (heap_set (heap_set (heap_set (heap_set (heap_set M4.out 2 _) 3 _) 4 _) 5 _) 6 _) 7 _) 8 _).trans rfl
    clear hw5 m2 x2 m3 x3 m4 x4 m5 x5 m6 x6 m7 x7 m8 x8 T4 U4 N4 M4
    unfold Stop
    refine wpList_load_row rfl 35 _ rfl N rfl 35 #[.int .i64 1, .int .i64 0, .int .i64 n, .bool nul, .int .i64 hp, .bool wi, .int .u64 mn, .int .u64 mx, .bool hm, .bool false, .int .u64 0, .int .u64 0, .bool false, .int .i64 0, .bool false, .int .i64 0, .bool false] (0, 0) _ M5.out Tryz.underlying35 rfl (by kernel_rfl) ?_
    go_wp2_with (first
      | with_reducible refine stop_store 35 rfl ?_
      | fail)
    unfold Stop
    refine wpList_store_row rfl 35 _ _ rfl w.heap.size #[.int .i64 1, .int .i64 0, .int .i64 n, .bool nul, .int .i64 hp, .bool wi, .int .u64 mn, .int .u64 mx, .bool hm, .bool false, .int .u64 0, .int .u64 0, .bool false, .int .i64 0, .bool false, .int .i64 0, .bool false] rfl rfl 35 #[.int .i64 0, .int .i64 0, .int .i64 0, .bool false, .int .i64 0, .bool false, .int .u64 0, .int .u64 0, .bool false, .bool false, .int .u64 0, .int .u64 0, .bool false, .int .i64 0, .bool false, .int .i64 0, .bool false] N5.out (by kernel_rfl) rfl (by first | rfl | decide | simp [Value.oneCell']) ?_
    go_wp2_with fail
    refine bodyPost_ret (v := .agg #[.int .i64 1, .int .i64 0, .int .i64 n, .bool nul, .int .i64 hp, .bool wi, .int .u64 mn, .int .u64 mx, .bool hm, .bool false, .int .u64 0, .int .u64 0, .bool false, .int .i64 0, .bool false, .int .i64 0, .bool false]) ?_ ?_ ?_
    · exact results_cell_row Tryz.results35 _ _ w.heap.size 35 _ (0, 0) _ rfl (heap_setRow N5.out) Tryz.underlying35 rfl (by kernel_rfl)
    · rfl
    rw [E.out]
    exact ⟨rfl, F5.out.row H.out (Nat.le_refl _) _⟩
set_option maxRecDepth 100000 in
set_option maxHeartbeats 1000000 in
theorem extern_2 {w : World} {b : Nat} {v : Value} {l : List Int} {p q : Nat} (h : CU w b v l p) (hk : kindR l p = .ok (2, q)) :
    Calls Tryz.prog 35 #[.pointer (some ⟨b, 0, none⟩)] w (Ans XT.v b v l w (extK 2 l q)) := by
  have H : Hid (CU w b v l p) := h
  have hb : b < w.heap.size := h.lt
  have hl := h.len
  have hle := h.le
  clear h
  have U0 : Hid (CU (w.alloc (.cells #[.int .i64 0, .int .i64 0, .int .i64 0, .bool false, .int .i64 0, .bool false, .int .u64 0, .int .u64 0, .bool false, .bool false, .int .u64 0, .int .u64 0, .bool false, .int .i64 0, .bool false, .int .i64 0, .bool false] 35)) b v l p) := H.out.grew ((Grew.refl w).alloc _)
  have T0 : Hid (Turn [b] w (w.alloc (.cells #[.int .i64 0, .int .i64 0, .int .i64 0, .bool false, .int .i64 0, .bool false, .int .u64 0, .int .u64 0, .bool false, .bool false, .int .u64 0, .int .u64 0, .bool false, .int .i64 0, .bool false, .int .i64 0, .bool false] 35))) := (Turn.refl [b] w).alloc _
  have N0 : Hid ((w.alloc (.cells #[.int .i64 0, .int .i64 0, .int .i64 0, .bool false, .int .i64 0, .bool false, .int .u64 0, .int .u64 0, .bool false, .bool false, .int .u64 0, .int .u64 0, .bool false, .int .i64 0, .bool false, .int .i64 0, .bool false] 35)).heap[w.heap.size]? = some (.cells #[.int .i64 0, .int .i64 0, .int .i64 0, .bool false, .int .i64 0, .bool false, .int .u64 0, .int .u64 0, .bool false, .bool false, .int .u64 0, .int .u64 0, .bool false, .int .i64 0, .bool false, .int .i64 0, .bool false] 35 (0, 0))) := heap_alloc_last _ _
  go_enter Tryz.func35, Tryz.ntmps35
  go_wp2_with fail
  refine (Calls.ok_of (kind_any U0.out) hk).mono ?_
  rintro en w1 ⟨rfl, t1, u1⟩
  have T1 : Hid (Turn [b] w w1) := T0.out.trans t1
  have U1 : Hid (CU w1 b v l q) := u1
  have N1 : Hid (w1.heap[w.heap.size]? = some (.cells #[.int .i64 0, .int .i64 0, .int .i64 0, .bool false, .int .i64 0, .bool false, .int .u64 0, .int .u64 0, .bool false, .bool false, .int .u64 0, .int .u64 0, .bool false, .int .i64 0, .bool false, .int .i64 0, .bool false] 35 (0, 0))) := t1.other N0.out (by simp; omega)
  clear t1 u1 T0 U0 N0
  clear hk
  have hs1 : w.heap.size < w1.heap.size := lt_of_obj N1.out
  go_wp2_with fail
  generalize hW : w1.alloc (.cells #[.int .i64 2, .int .i64 0, .int .i64 0, .bool false, .int .i64 0, .bool false, .int .u64 0, .int .u64 0, .bool false, .bool false, .int .u64 0, .int .u64 0, .bool false, .int .i64 0, .bool false, .int .i64 0, .bool false] 35) = W
  have gW : Grew w1 W := by rw [← hW]; exact (Grew.refl _).alloc _
  have T2 : Hid (Turn [b] w W) := T1.out.trans (gW.turn _)
  have U2 : Hid (CU W b v l q) := U1.out.grew gW
  have N2 : Hid (W.heap[w.heap.size]? = some (.cells #[.int .i64 0, .int .i64 0, .int .i64 0, .bool false, .int .i64 0, .bool false, .int .u64 0, .int .u64 0, .bool false, .bool false, .int .u64 0, .int .u64 0, .bool false, .int .i64 0, .bool false, .int .i64 0, .bool false] 35 (0, 0))) := (gW.turn []).other N1.out (by simp)
  have M2 : Hid (W.heap[w1.heap.size]? = some (.cells #[.int .i64 2, .int .i64 0, .int .i64 0, .bool false, .int .i64 0, .bool false, .int .u64 0, .int .u64 0, .bool false, .bool false, .int .u64 0, .int .u64 0, .bool false, .int .i64 0, .bool false, .int .i64 0, .bool false] 35 (0, 0))) := by rw [← hW]; exact heap_alloc_last _ _
  clear hW gW T1 U1 N1
  have hb1 : ¬ b = w1.heap.size := by omega
  have hb0 : ¬ b = w.heap.size := by omega
  have h10 : ¬ w1.heap.size = w.heap.size := by omega
  have h01 : ¬ w.heap.size = w1.heap.size := by omega
  generalize hn1 : w1.heap.size = N at *
  clear hn1 w1
  have HN : w.heap.size ≤ N := by omega
  cases hx : limsR l q with
  | error y =>
    obtain ⟨f, e⟩ := y
    have E : Hid (extK 2 l q = .error (f, e)) := by show extK 2 l q = _; unfold extK; rw [hx]; rfl
    refine (Calls.er_of (limits_any U2.out) hx).mono ?_
    rintro en w4 ⟨rfl, t4⟩
    have T4 : Hid (Turn [b] w w4) := T2.out.trans t4
    clear t4
    go_wp2_with fail
    rw [E.out]
    exact ⟨rfl, rfl, T4.out⟩
  | ok y =>
    obtain ⟨⟨wi, mn, mx, hm⟩, r⟩ := y
    have E : Hid (extK 2 l q = .ok (⟨2, 0, T0_, ⟨wi, mn, mx, hm⟩, G0_⟩, r)) := by show extK 2 l q = _; unfold extK; rw [hx]; rfl
    refine (Calls.ok_of (limits_any U2.out) hx).mono ?_
    rintro en w4 ⟨rfl, t4, u4⟩
    have T4 : Hid (Turn [b] w w4) := T2.out.trans t4
    have U4 : Hid (CU w4 b v l r) := u4
    have N4 : Hid (w4.heap[w.heap.size]? = some (.cells #[.int .i64 0, .int .i64 0, .int .i64 0, .bool false, .int .i64 0, .bool false, .int .u64 0, .int .u64 0, .bool false, .bool false, .int .u64 0, .int .u64 0, .bool false, .int .i64 0, .bool false, .int .i64 0, .bool false] 35 (0, 0))) := t4.other N2.out (by simp; omega)
    have M4 : Hid (w4.heap[N]? = some (.cells #[.int .i64 2, .int .i64 0, .int .i64 0, .bool false, .int .i64 0, .bool false, .int .u64 0, .int .u64 0, .bool false, .bool false, .int .u64 0, .int .u64 0, .bool false, .int .i64 0, .bool false, .int .i64 0, .bool false] 35 (0, 0))) := t4.other M2.out (by simp; omega)
    clear t4 u4 T2 U2 N2 M2 hx
    unfold LM.v
    have m9 := cell_of M4.out 9
    have x9 := free_of M4.out 9
    have m10 := cell_of M4.out 10
    have x10 := free_of M4.out 10
    have m11 := cell_of M4.out 11
    have x11 := free_of M4.out 11
    have m12 := cell_of M4.out 12
    have x12 := free_of M4.out 12
    simp at m9 m10 m11 m12
    go_wp2_with (first
      | with_reducible refine stop_load 35 rfl ?_
      | fail)
    generalize hw5 : ((((w4.setCell ⟨N, 9, none⟩ (.bool wi)).setCell ⟨N, 10, none⟩ (.int .u64 mn)).setCell ⟨N, 11, none⟩ (.int .u64 mx)).setCell ⟨N, 12, none⟩ (.bool hm)) = w5
    have F5 : Hid (Fin b v l w w5 r) := by rw [← hw5]; exact (((((Fin.mk_ T4.out U4.out).set H.out HN).set H.out HN).set H.out HN).set H.out HN)
    have N5 : Hid (w5.heap[w.heap.size]? = some (.cells #[.int .i64 0, .int .i64 0, .int .i64 0, .bool false, .int .i64 0, .bool false, .int .u64 0, .int .u64 0, .bool false, .bool false, .int .u64 0, .int .u64 0, .bool false, .int .i64 0, .bool false, .int .i64 0, .bool false] 35 (0, 0))) := by rw [← hw5]; exact (heap_other (p := ⟨N, 12, none⟩) (heap_other (p := ⟨N, 11, none⟩) (heap_other (p := ⟨N, 10, none⟩) (heap_other (p := ⟨N, 9, none⟩) N4.out h01 _) h01 _) h01 _) h01 _)
    have M5 : Hid (w5.heap[N]? = some (.cells #[.int .i64 2, .int .i64 0, .int .i64 0, .bool false, .int .i64 0, .bool false, .int .u64 0, .int .u64 0, .bool false, .bool wi, .int .u64 mn, .int .u64 mx, .bool hm, .int .i64 0, .bool false, .int .i64 0, .bool false] 35 (0, 0))) := by rw [← hw5]; exact (heap_set (heap_set (heap_set (heap_set M4.out 9 _) 10 _) 11 _) 12 _).trans rfl
    clear hw5 m9 x9 m10 x10 m11 x11 m12 x12 T4 U4 N4 M4
    unfold Stop
    refine wpList_load_row rfl 35 _ rfl N rfl 35 #[.int .i64 2, .int .i64 0, .int .i64 0, .bool false, .int .i64 0, .bool false, .int .u64 0, .int .u64 0, .bool false, .bool wi, .int .u64 mn, .int .u64 mx, .bool hm, .int .i64 0, .bool false, .int .i64 0, .bool false] (0, 0) _ M5.out Tryz.underlying35 rfl (by kernel_rfl) ?_
    go_wp2_with (first
      | with_reducible refine stop_store 35 rfl ?_
      | fail)
    unfold Stop
    refine wpList_store_row rfl 35 _ _ rfl w.heap.size #[.int .i64 2, .int .i64 0, .int .i64 0, .bool false, .int .i64 0, .bool false, .int .u64 0, .int .u64 0, .bool false, .bool wi, .int .u64 mn, .int .u64 mx, .bool hm, .int .i64 0, .bool false, .int .i64 0, .bool false] rfl rfl 35 #[.int .i64 0, .int .i64 0, .int .i64 0, .bool false, .int .i64 0, .bool false, .int .u64 0, .int .u64 0, .bool false, .bool false, .int .u64 0, .int .u64 0, .bool false, .int .i64 0, .bool false, .int .i64 0, .bool false] N5.out (by kernel_rfl) rfl (by first | rfl | decide | simp [Value.oneCell']) ?_
    go_wp2_with fail
    refine bodyPost_ret (v := .agg #[.int .i64 2, .int .i64 0, .int .i64 0, .bool false, .int .i64 0, .bool false, .int .u64 0, .int .u64 0, .bool false, .bool wi, .int .u64 mn, .int .u64 mx, .bool hm, .int .i64 0, .bool false, .int .i64 0, .bool false]) ?_ ?_ ?_
    · exact results_cell_row Tryz.results35 _ _ w.heap.size 35 _ (0, 0) _ rfl (heap_setRow N5.out) Tryz.underlying35 rfl (by kernel_rfl)
    · rfl
    rw [E.out]
    exact ⟨rfl, F5.out.row H.out (Nat.le_refl _) _⟩
set_option maxRecDepth 100000 in
set_option maxHeartbeats 1000000 in
theorem extern_3 {w : World} {b : Nat} {v : Value} {l : List Int} {p q : Nat} (h : CU w b v l p) (hk : kindR l p = .ok (3, q)) :
    Calls Tryz.prog 35 #[.pointer (some ⟨b, 0, none⟩)] w (Ans XT.v b v l w (extK 3 l q)) := by
  have H : Hid (CU w b v l p) := h
  have hb : b < w.heap.size := h.lt
  have hl := h.len
  have hle := h.le
  clear h
  have U0 : Hid (CU (w.alloc (.cells #[.int .i64 0, .int .i64 0, .int .i64 0, .bool false, .int .i64 0, .bool false, .int .u64 0, .int .u64 0, .bool false, .bool false, .int .u64 0, .int .u64 0, .bool false, .int .i64 0, .bool false, .int .i64 0, .bool false] 35)) b v l p) := H.out.grew ((Grew.refl w).alloc _)
  have T0 : Hid (Turn [b] w (w.alloc (.cells #[.int .i64 0, .int .i64 0, .int .i64 0, .bool false, .int .i64 0, .bool false, .int .u64 0, .int .u64 0, .bool false, .bool false, .int .u64 0, .int .u64 0, .bool false, .int .i64 0, .bool false, .int .i64 0, .bool false] 35))) := (Turn.refl [b] w).alloc _
  have N0 : Hid ((w.alloc (.cells #[.int .i64 0, .int .i64 0, .int .i64 0, .bool false, .int .i64 0, .bool false, .int .u64 0, .int .u64 0, .bool false, .bool false, .int .u64 0, .int .u64 0, .bool false, .int .i64 0, .bool false, .int .i64 0, .bool false] 35)).heap[w.heap.size]? = some (.cells #[.int .i64 0, .int .i64 0, .int .i64 0, .bool false, .int .i64 0, .bool false, .int .u64 0, .int .u64 0, .bool false, .bool false, .int .u64 0, .int .u64 0, .bool false, .int .i64 0, .bool false, .int .i64 0, .bool false] 35 (0, 0))) := heap_alloc_last _ _
  go_enter Tryz.func35, Tryz.ntmps35
  go_wp2_with fail
  refine (Calls.ok_of (kind_any U0.out) hk).mono ?_
  rintro en w1 ⟨rfl, t1, u1⟩
  have T1 : Hid (Turn [b] w w1) := T0.out.trans t1
  have U1 : Hid (CU w1 b v l q) := u1
  have N1 : Hid (w1.heap[w.heap.size]? = some (.cells #[.int .i64 0, .int .i64 0, .int .i64 0, .bool false, .int .i64 0, .bool false, .int .u64 0, .int .u64 0, .bool false, .bool false, .int .u64 0, .int .u64 0, .bool false, .int .i64 0, .bool false, .int .i64 0, .bool false] 35 (0, 0))) := t1.other N0.out (by simp; omega)
  clear t1 u1 T0 U0 N0
  clear hk
  have hs1 : w.heap.size < w1.heap.size := lt_of_obj N1.out
  go_wp2_with fail
  generalize hW : w1.alloc (.cells #[.int .i64 3, .int .i64 0, .int .i64 0, .bool false, .int .i64 0, .bool false, .int .u64 0, .int .u64 0, .bool false, .bool false, .int .u64 0, .int .u64 0, .bool false, .int .i64 0, .bool false, .int .i64 0, .bool false] 35) = W
  have gW : Grew w1 W := by rw [← hW]; exact (Grew.refl _).alloc _
  have T2 : Hid (Turn [b] w W) := T1.out.trans (gW.turn _)
  have U2 : Hid (CU W b v l q) := U1.out.grew gW
  have N2 : Hid (W.heap[w.heap.size]? = some (.cells #[.int .i64 0, .int .i64 0, .int .i64 0, .bool false, .int .i64 0, .bool false, .int .u64 0, .int .u64 0, .bool false, .bool false, .int .u64 0, .int .u64 0, .bool false, .int .i64 0, .bool false, .int .i64 0, .bool false] 35 (0, 0))) := (gW.turn []).other N1.out (by simp)
  have M2 : Hid (W.heap[w1.heap.size]? = some (.cells #[.int .i64 3, .int .i64 0, .int .i64 0, .bool false, .int .i64 0, .bool false, .int .u64 0, .int .u64 0, .bool false, .bool false, .int .u64 0, .int .u64 0, .bool false, .int .i64 0, .bool false, .int .i64 0, .bool false] 35 (0, 0))) := by rw [← hW]; exact heap_alloc_last _ _
  clear hW gW T1 U1 N1
  have hb1 : ¬ b = w1.heap.size := by omega
  have hb0 : ¬ b = w.heap.size := by omega
  have h10 : ¬ w1.heap.size = w.heap.size := by omega
  have h01 : ¬ w.heap.size = w1.heap.size := by omega
  generalize hn1 : w1.heap.size = N at *
  clear hn1 w1
  have HN : w.heap.size ≤ N := by omega
  cases hx : gloR l q with
  | error y =>
    obtain ⟨f, e⟩ := y
    have E : Hid (extK 3 l q = .error (f, e)) := by show extK 3 l q = _; unfold extK; rw [hx]; rfl
    refine (Calls.er_of (globalType_any U2.out) hx).mono ?_
    rintro en w4 ⟨rfl, t4⟩
    have T4 : Hid (Turn [b] w w4) := T2.out.trans t4
    clear t4
    go_wp2_with fail
    rw [E.out]
    exact ⟨rfl, rfl, T4.out⟩
  | ok y =>
    obtain ⟨⟨⟨n, nul, hp⟩, mu⟩, r⟩ := y
    have E : Hid (extK 3 l q = .ok (⟨3, 0, T0_, L0, ⟨⟨n, nul, hp⟩, mu⟩⟩, r)) := by show extK 3 l q = _; unfold extK; rw [hx]; rfl
    refine (Calls.ok_of (globalType_any U2.out) hx).mono ?_
    rintro en w4 ⟨rfl, t4, u4⟩
    have T4 : Hid (Turn [b] w w4) := T2.out.trans t4
    have U4 : Hid (CU w4 b v l r) := u4
    have N4 : Hid (w4.heap[w.heap.size]? = some (.cells #[.int .i64 0, .int .i64 0, .int .i64 0, .bool false, .int .i64 0, .bool false, .int .u64 0, .int .u64 0, .bool false, .bool false, .int .u64 0, .int .u64 0, .bool false, .int .i64 0, .bool false, .int .i64 0, .bool false] 35 (0, 0))) := t4.other N2.out (by simp; omega)
    have M4 : Hid (w4.heap[N]? = some (.cells #[.int .i64 3, .int .i64 0, .int .i64 0, .bool false, .int .i64 0, .bool false, .int .u64 0, .int .u64 0, .bool false, .bool false, .int .u64 0, .int .u64 0, .bool false, .int .i64 0, .bool false, .int .i64 0, .bool false] 35 (0, 0))) := t4.other M2.out (by simp; omega)
    clear t4 u4 T2 U2 N2 M2 hx
    unfold GT.v
    have m13 := cell_of M4.out 13
    have x13 := free_of M4.out 13
    have m14 := cell_of M4.out 14
    have x14 := free_of M4.out 14
    have m15 := cell_of M4.out 15
    have x15 := free_of M4.out 15
    have m16 := cell_of M4.out 16
    have x16 := free_of M4.out 16
    simp at m13 m14 m15 m16
    go_wp2_with (first
      | with_reducible refine stop_load 35 rfl ?_
      | fail)
    generalize hw5 : ((((w4.setCell ⟨N, 13, none⟩ (.int .i64 n)).setCell ⟨N, 14, none⟩ (.bool nul)).setCell ⟨N, 15, none⟩ (.int .i64 hp)).setCell ⟨N, 16, none⟩ (.bool mu)) = w5
    have F5 : Hid (Fin b v l w w5 r) := by rw [← hw5]; exact (((((Fin.mk_ T4.out U4.out).set H.out HN).set H.out HN).set H.out HN).set H.out HN)
    have N5 : Hid (w5.heap[w.heap.size]? = some (.cells #[.int .i64 0, .int .i64 0, .int .i64 0, .bool false, .int .i64 0, .bool false, .int .u64 0, .int .u64 0, .bool false, .bool false, .int .u64 0, .int .u64 0, .bool false, .int .i64 0, .bool false, .int .i64 0, .bool false] 35 (0, 0))) := by rw [← hw5]; exact (heap_other (p := ⟨N, 16, none⟩) (heap_other (p := ⟨N, 15, none⟩) (heap_other (p := ⟨N, 14, none⟩) (heap_other (p := ⟨N, 13, none⟩) N4.out h01 _) h01 _) h01 _) h01 _)
    have M5 : Hid (w5.heap[N]? = some (.cells #[.int .i64 3, .int .i64 0, .int .i64 0, .bool false, .int .i64 0, .bool false, .int .u64 0, .int .u64 0, .bool false, .bool false, .int .u64 0, .int .u64 0, .bool false, .int .i64 n, .bool nul, .int .i64 hp, .bool mu] 35 (0, 0))) := by rw [← hw5]; exact (heap_set (heap_set (heap_set (heap_set M4.out 13 _) 14 _) 15 _) 16 _).trans rfl
    clear hw5 m13 x13 m14 x14 m15 x15 m16 x16 T4 U4 N4 M4
    unfold Stop
    refine wpList_load_row rfl 35 _ rfl N rfl 35 #[.int .i64 3, .int .i64 0, .int .i64 0, .bool false, .int .i64 0, .bool false, .int .u64 0, .int .u64 0, .bool false, .bool false, .int .u64 0, .int .u64 0, .bool false, .int .i64 n, .bool nul, .int .i64 hp, .bool mu] (0, 0) _ M5.out Tryz.underlying35 rfl (by kernel_rfl) ?_
    go_wp2_with (first
      | with_reducible refine stop_store 35 rfl ?_
      | fail)
    unfold Stop
    refine wpList_store_row rfl 35 _ _ rfl w.heap.size #[.int .i64 3, .int .i64 0, .int .i64 0, .bool false, .int .i64 0, .bool false, .int .u64 0, .int .u64 0, .bool false, .bool false, .int .u64 0, .int .u64 0, .bool false, .int .i64 n, .bool nul, .int .i64 hp, .bool mu] rfl rfl 35 #[.int .i64 0, .int .i64 0, .int .i64 0, .bool false, .int .i64 0, .bool false, .int .u64 0, .int .u64 0, .bool false, .bool false, .int .u64 0, .int .u64 0, .bool false, .int .i64 0, .bool false, .int .i64 0, .bool false] N5.out (by kernel_rfl) rfl (by first | rfl | decide | simp [Value.oneCell']) ?_
    go_wp2_with fail
    refine bodyPost_ret (v := .agg #[.int .i64 3, .int .i64 0, .int .i64 0, .bool false, .int .i64 0, .bool false, .int .u64 0, .int .u64 0, .bool false, .bool false, .int .u64 0, .int .u64 0, .bool false, .int .i64 n, .bool nul, .int .i64 hp, .bool mu]) ?_ ?_ ?_
    · exact results_cell_row Tryz.results35 _ _ w.heap.size 35 _ (0, 0) _ rfl (heap_setRow N5.out) Tryz.underlying35 rfl (by kernel_rfl)
    · rfl
    rw [E.out]
    exact ⟨rfl, F5.out.row H.out (Nat.le_refl _) _⟩
set_option maxRecDepth 100000 in
set_option maxHeartbeats 1000000 in
theorem extern_4 {w : World} {b : Nat} {v : Value} {l : List Int} {p q : Nat} (h : CU w b v l p) (hk : kindR l p = .ok (4, q)) :
    Calls Tryz.prog 35 #[.pointer (some ⟨b, 0, none⟩)] w (Ans XT.v b v l w (extK 4 l q)) := by
  have H : Hid (CU w b v l p) := h
  have hb : b < w.heap.size := h.lt
  have hl := h.len
  have hle := h.le
  clear h
  have U0 : Hid (CU (w.alloc (.cells #[.int .i64 0, .int .i64 0, .int .i64 0, .bool false, .int .i64 0, .bool false, .int .u64 0, .int .u64 0, .bool false, .bool false, .int .u64 0, .int .u64 0, .bool false, .int .i64 0, .bool false, .int .i64 0, .bool false] 35)) b v l p) := H.out.grew ((Grew.refl w).alloc _)
  have T0 : Hid (Turn [b] w (w.alloc (.cells #[.int .i64 0, .int .i64 0, .int .i64 0, .bool false, .int .i64 0, .bool false, .int .u64 0, .int .u64 0, .bool false, .bool false, .int .u64 0, .int .u64 0, .bool false, .int .i64 0, .bool false, .int .i64 0, .bool false] 35))) := (Turn.refl [b] w).alloc _
  have N0 : Hid ((w.alloc (.cells #[.int .i64 0, .int .i64 0, .int .i64 0, .bool false, .int .i64 0, .bool false, .int .u64 0, .int .u64 0, .bool false, .bool false, .int .u64 0, .int .u64 0, .bool false, .int .i64 0, .bool false, .int .i64 0, .bool false] 35)).heap[w.heap.size]? = some (.cells #[.int .i64 0, .int .i64 0, .int .i64 0, .bool false, .int .i64 0, .bool false, .int .u64 0, .int .u64 0, .bool false, .bool false, .int .u64 0, .int .u64 0, .bool false, .int .i64 0, .bool false, .int .i64 0, .bool false] 35 (0, 0))) := heap_alloc_last _ _
  go_enter Tryz.func35, Tryz.ntmps35
  go_wp2_with fail
  refine (Calls.ok_of (kind_any U0.out) hk).mono ?_
  rintro en w1 ⟨rfl, t1, u1⟩
  have T1 : Hid (Turn [b] w w1) := T0.out.trans t1
  have U1 : Hid (CU w1 b v l q) := u1
  have N1 : Hid (w1.heap[w.heap.size]? = some (.cells #[.int .i64 0, .int .i64 0, .int .i64 0, .bool false, .int .i64 0, .bool false, .int .u64 0, .int .u64 0, .bool false, .bool false, .int .u64 0, .int .u64 0, .bool false, .int .i64 0, .bool false, .int .i64 0, .bool false] 35 (0, 0))) := t1.other N0.out (by simp; omega)
  clear t1 u1 T0 U0 N0
  clear hk
  have hs1 : w.heap.size < w1.heap.size := lt_of_obj N1.out
  go_wp2_with fail
  generalize hW : w1.alloc (.cells #[.int .i64 4, .int .i64 0, .int .i64 0, .bool false, .int .i64 0, .bool false, .int .u64 0, .int .u64 0, .bool false, .bool false, .int .u64 0, .int .u64 0, .bool false, .int .i64 0, .bool false, .int .i64 0, .bool false] 35) = W
  have gW : Grew w1 W := by rw [← hW]; exact (Grew.refl _).alloc _
  have T2 : Hid (Turn [b] w W) := T1.out.trans (gW.turn _)
  have U2 : Hid (CU W b v l q) := U1.out.grew gW
  have N2 : Hid (W.heap[w.heap.size]? = some (.cells #[.int .i64 0, .int .i64 0, .int .i64 0, .bool false, .int .i64 0, .bool false, .int .u64 0, .int .u64 0, .bool false, .bool false, .int .u64 0, .int .u64 0, .bool false, .int .i64 0, .bool false, .int .i64 0, .bool false] 35 (0, 0))) := (gW.turn []).other N1.out (by simp)
  have M2 : Hid (W.heap[w1.heap.size]? = some (.cells #[.int .i64 4, .int .i64 0, .int .i64 0, .bool false, .int .i64 0, .bool false, .int .u64 0, .int .u64 0, .bool false, .bool false, .int .u64 0, .int .u64 0, .bool false, .int .i64 0, .bool false, .int .i64 0, .bool false] 35 (0, 0))) := by rw [← hW]; exact heap_alloc_last _ _
  clear hW gW T1 U1 N1
  have hb1 : ¬ b = w1.heap.size := by omega
  have hb0 : ¬ b = w.heap.size := by omega
  have h10 : ¬ w1.heap.size = w.heap.size := by omega
  have h01 : ¬ w.heap.size = w1.heap.size := by omega
  generalize hn1 : w1.heap.size = N at *
  clear hn1 w1
  have HN : w.heap.size ≤ N := by omega
  cases hx : tagR l q with
  | error y =>
    obtain ⟨f, e⟩ := y
    have E : Hid (extK 4 l q = .error (f, e)) := by show extK 4 l q = _; unfold extK; rw [hx]; rfl
    refine (Calls.er_of (tag_any U2.out) hx).mono ?_
    rintro en w4 ⟨rfl, t4⟩
    have T4 : Hid (Turn [b] w w4) := T2.out.trans t4
    clear t4
    go_wp2_with fail
    rw [E.out]
    exact ⟨rfl, rfl, T4.out⟩
  | ok y =>
    obtain ⟨t, r⟩ := y
    have E : Hid (extK 4 l q = .ok (⟨4, t, T0_, L0, G0_⟩, r)) := by show extK 4 l q = _; unfold extK; rw [hx]; rfl
    refine (Calls.ok_of (tag_any U2.out) hx).mono ?_
    rintro en w4 ⟨rfl, t4, u4⟩
    have T4 : Hid (Turn [b] w w4) := T2.out.trans t4
    have U4 : Hid (CU w4 b v l r) := u4
    have N4 : Hid (w4.heap[w.heap.size]? = some (.cells #[.int .i64 0, .int .i64 0, .int .i64 0, .bool false, .int .i64 0, .bool false, .int .u64 0, .int .u64 0, .bool false, .bool false, .int .u64 0, .int .u64 0, .bool false, .int .i64 0, .bool false, .int .i64 0, .bool false] 35 (0, 0))) := t4.other N2.out (by simp; omega)
    have M4 : Hid (w4.heap[N]? = some (.cells #[.int .i64 4, .int .i64 0, .int .i64 0, .bool false, .int .i64 0, .bool false, .int .u64 0, .int .u64 0, .bool false, .bool false, .int .u64 0, .int .u64 0, .bool false, .int .i64 0, .bool false, .int .i64 0, .bool false] 35 (0, 0))) := t4.other M2.out (by simp; omega)
    clear t4 u4 T2 U2 N2 M2 hx
    have m1 := cell_of M4.out 1
    have x1 := free_of M4.out 1
    simp at m1
    go_wp2_with (first
      | with_reducible refine stop_load 35 rfl ?_
      | fail)
    generalize hw5 : (w4.setCell ⟨N, 1, none⟩ (.int .i64 t)) = w5
    have F5 : Hid (Fin b v l w w5 r) := by rw [← hw5]; exact ((Fin.mk_ T4.out U4.out).set H.out HN)
    have N5 : Hid (w5.heap[w.heap.size]? = some (.cells #[.int .i64 0, .int .i64 0, .int .i64 0, .bool false, .int .i64 0, .bool false, .int .u64 0, .int .u64 0, .bool false, .bool false, .int .u64 0, .int .u64 0, .bool false, .int .i64 0, .bool false, .int .i64 0, .bool false] 35 (0, 0))) := by rw [← hw5]; exact (heap_other (p := ⟨N, 1, none⟩) N4.out h01 _)
    have M5 : Hid (w5.heap[N]? = some (.cells #[.int .i64 4, .int .i64 t, .int .i64 0, .bool false, .int .i64 0, .bool false, .int .u64 0, .int .u64 0, .bool false, .bool false, .int .u64 0, .int .u64 0, .bool false, .int .i64 0, .bool false, .int .i64 0, .bool false] 35 (0, 0))) := by rw [← hw5]; exact (heap_set M4.out 1 _).trans rfl
    clear hw5 m1 x1 T4 U4 N4 M4
    unfold Stop
    refine wpList_load_row rfl 35 _ rfl N rfl 35 #[.int .i64 4, .int .i64 t, .int .i64 0, .bool false, .int .i64 0, .bool false, .int .u64 0, .int .u64 0, .bool false, .bool false, .int .u64 0, .int .u64 0, .bool false, .int .i64 0, .bool false, .int .i64 0, .bool false] (0, 0) _ M5.out Tryz.underlying35 rfl (by kernel_rfl) ?_
    go_wp2_with (first
      | with_reducible refine stop_store 35 rfl ?_
      | fail)
    unfold Stop
    refine wpList_store_row rfl 35 _ _ rfl w.heap.size #[.int .i64 4, .int .i64 t, .int .i64 0, .bool false, .int .i64 0, .bool false, .int .u64 0, .int .u64 0, .bool false, .bool false, .int .u64 0, .int .u64 0, .bool false, .int .i64 0, .bool false, .int .i64 0, .bool false] rfl rfl 35 #[.int .i64 0, .int .i64 0, .int .i64 0, .bool false, .int .i64 0, .bool false, .int .u64 0, .int .u64 0, .bool false, .bool false, .int .u64 0, .int .u64 0, .bool false, .int .i64 0, .bool false, .int .i64 0, .bool false] N5.out (by kernel_rfl) rfl (by first | rfl | decide | simp [Value.oneCell']) ?_
    go_wp2_with fail
    refine bodyPost_ret (v := .agg #[.int .i64 4, .int .i64 t, .int .i64 0, .bool false, .int .i64 0, .bool false, .int .u64 0, .int .u64 0, .bool false, .bool false, .int .u64 0, .int .u64 0, .bool false, .int .i64 0, .bool false, .int .i64 0, .bool false]) ?_ ?_ ?_
    · exact results_cell_row Tryz.results35 _ _ w.heap.size 35 _ (0, 0) _ rfl (heap_setRow N5.out) Tryz.underlying35 rfl (by kernel_rfl)
    · rfl
    rw [E.out]
    exact ⟨rfl, F5.out.row H.out (Nat.le_refl _) _⟩
set_option maxRecDepth 100000 in
set_option maxHeartbeats 1000000 in
theorem extern_any {w : World} {b : Nat} {v : Value} {l : List Int} {p : Nat} (h : CU w b v l p) :
    Calls Tryz.prog 35 #[.pointer (some ⟨b, 0, none⟩)] w (Ans XT.v b v l w (extR l p)) := by
  have H : Hid (CU w b v l p) := h
  have hb : b < w.heap.size := h.lt
  have hl := h.len
  have hle := h.le
  clear h
  unfold extR
  cases hk : kindR l p with
  | error y =>
    obtain ⟨f, e⟩ := y
    simp only [thenR]
    have U0 : Hid (CU (w.alloc (.cells #[.int .i64 0, .int .i64 0, .int .i64 0, .bool false, .int .i64 0, .bool false, .int .u64 0, .int .u64 0, .bool false, .bool false, .int .u64 0, .int .u64 0, .bool false, .int .i64 0, .bool false, .int .i64 0, .bool false] 35)) b v l p) := H.out.grew ((Grew.refl w).alloc _)
    have T0 : Hid (Turn [b] w (w.alloc (.cells #[.int .i64 0, .int .i64 0, .int .i64 0, .bool false, .int .i64 0, .bool false, .int .u64 0, .int .u64 0, .bool false, .bool false, .int .u64 0, .int .u64 0, .bool false, .int .i64 0, .bool false, .int .i64 0, .bool false] 35))) := (Turn.refl [b] w).alloc _
    have N0 : Hid ((w.alloc (.cells #[.int .i64 0, .int .i64 0, .int .i64 0, .bool false, .int .i64 0, .bool false, .int .u64 0, .int .u64 0, .bool false, .bool false, .int .u64 0, .int .u64 0, .bool false, .int .i64 0, .bool false, .int .i64 0, .bool false] 35)).heap[w.heap.size]? = some (.cells #[.int .i64 0, .int .i64 0, .int .i64 0, .bool false, .int .i64 0, .bool false, .int .u64 0, .int .u64 0, .bool false, .bool false, .int .u64 0, .int .u64 0, .bool false, .int .i64 0, .bool false, .int .i64 0, .bool false] 35 (0, 0))) := heap_alloc_last _ _
    go_enter Tryz.func35, Tryz.ntmps35
    go_wp2_with fail
    refine (Calls.er_of (kind_any U0.out) hk).mono ?_
    rintro en w1 ⟨rfl, t1⟩
    have T1 : Hid (Turn [b] w w1) := T0.out.trans t1
    clear t1
    go_wp2_with fail
    exact ⟨rfl, rfl, T1.out⟩
  | ok y =>
    obtain ⟨k, q⟩ := y
    simp only [thenR]
    have hbd := belowR_bd H.out.byt hk
    obtain rfl | rfl | rfl | rfl | rfl : k = 0 ∨ k = 1 ∨ k = 2 ∨ k = 3 ∨ k = 4 := by omega
    · exact extern_0 H.out hk
    · exact extern_1 H.out hk
    · exact extern_2 H.out hk
    · exact extern_3 H.out hk
    · exact extern_4 H.out hk
end Go.Proofs.YtchehejjdinifaaGreatDoor
