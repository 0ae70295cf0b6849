/-
  The walks of the cursor that reads imports and exports; no statement is proved here.
-/
import Derived.Test.YtchehejjdinifaaGreatDoorCurE
namespace Go.Proofs.YtchehejjdinifaaGreatDoor
open Go.RowKit
set_option linter.unusedVariables false
set_option linter.unusedSimpArgs false
set_option linter.constructorNameAsVariable false

structure IM where
  mo : List Int
  na : List Int
  ex : XT
structure EP where
  na : List Int
  kind : Int
  at_ : Int
def IM.v (x : IM) : Value := .agg #[.string (strOfNums x.mo), .string (strOfNums x.na), .int .i64 x.ex.kind, .int .i64 x.ex.ty, .int .i64 x.ex.tab.elem.num, .bool x.ex.tab.elem.null, .int .i64 x.ex.tab.elem.heap, .bool x.ex.tab.lim.wide, .int .u64 x.ex.tab.lim.mn, .int .u64 x.ex.tab.lim.mx, .bool x.ex.tab.lim.hm, .bool x.ex.mem.wide, .int .u64 x.ex.mem.mn, .int .u64 x.ex.mem.mx, .bool x.ex.mem.hm, .int .i64 x.ex.glo.ty.num, .bool x.ex.glo.ty.null, .int .i64 x.ex.glo.ty.heap, .bool x.ex.glo.mut_]
def EP.v (x : EP) : Value := .agg #[.string (strOfNums x.na), .int .i64 x.kind, .int .u32 x.at_]
def impR (l : List Int) (p : Nat) : RS IM := thenR (nameR l p) fun m q => thenR (nameR l q) fun n r => mapR (fun x => ⟨m, n, x⟩) (extR l r)
def expR (l : List Int) (p : Nat) : RS EP := thenR (nameR l p) fun n q => thenR (kindR l q) fun k r => mapR (fun a => ⟨n, k, a⟩) (numR 32 false l r)
set_option maxRecDepth 100000 in
set_option maxHeartbeats 1000000 in
theorem importEntry_any {w : World} {b : Nat} {v : Value} {l : List Int} {p : Nat} (h : CU w b v l p) :
    Calls Tryz.prog 18 #[.pointer (some ⟨b, 0, none⟩)] w (Ans IM.v b v l w (impR l p)) := by
  have H : Hid (CU w b v l p) := h
  have hb : b < w.heap.size := h.lt
  have hl := h.len
  have hle := h.le
  clear h
  unfold impR
  cases hx : nameR l p with
  | error y =>
    obtain ⟨f, e⟩ := y
    simp only [thenR]
    have U0 : Hid (CU (w.alloc (.cells #[.string ⟨#[]⟩, .string ⟨#[]⟩, .int .i64 0, .int .i64 0, .int .i64 0, .bool false, .int .i64 0, .bool false, .int .u64 0, .int .u64 0, .bool false, .bool false, .int .u64 0, .int .u64 0, .bool false, .int .i64 0, .bool false, .int .i64 0, .bool false] 37)) b v l p) := H.out.grew ((Grew.refl w).alloc _)
    have T0 : Hid (Turn [b] w (w.alloc (.cells #[.string ⟨#[]⟩, .string ⟨#[]⟩, .int .i64 0, .int .i64 0, .int .i64 0, .bool false, .int .i64 0, .bool false, .int .u64 0, .int .u64 0, .bool false, .bool false, .int .u64 0, .int .u64 0, .bool false, .int .i64 0, .bool false, .int .i64 0, .bool false] 37))) := (Turn.refl [b] w).alloc _
    have N0 : Hid ((w.alloc (.cells #[.string ⟨#[]⟩, .string ⟨#[]⟩, .int .i64 0, .int .i64 0, .int .i64 0, .bool false, .int .i64 0, .bool false, .int .u64 0, .int .u64 0, .bool false, .bool false, .int .u64 0, .int .u64 0, .bool false, .int .i64 0, .bool false, .int .i64 0, .bool false] 37)).heap[w.heap.size]? = some (.cells #[.string ⟨#[]⟩, .string ⟨#[]⟩, .int .i64 0, .int .i64 0, .int .i64 0, .bool false, .int .i64 0, .bool false, .int .u64 0, .int .u64 0, .bool false, .bool false, .int .u64 0, .int .u64 0, .bool false, .int .i64 0, .bool false, .int .i64 0, .bool false] 37 (0, 0))) := heap_alloc_last _ _
    go_enter Tryz.func18, Tryz.ntmps18
    go_wp2_with fail
    refine (Calls.er_of (name_any U0.out) hx).mono ?_
    rintro en w1 ⟨rfl, t1⟩
    have T1 : Hid (Turn [b] w w1) := T0.out.trans t1
    clear t1
    go_wp2_with fail
    exact ⟨rfl, rfl, T1.out⟩
  | ok y =>
    obtain ⟨m, q⟩ := y
    simp only [thenR]
    cases hy : nameR l q with
    | error y =>
      obtain ⟨f, e⟩ := y
      try simp only [thenR]
      have U0 : Hid (CU (w.alloc (.cells #[.string ⟨#[]⟩, .string ⟨#[]⟩, .int .i64 0, .int .i64 0, .int .i64 0, .bool false, .int .i64 0, .bool false, .int .u64 0, .int .u64 0, .bool false, .bool false, .int .u64 0, .int .u64 0, .bool false, .int .i64 0, .bool false, .int .i64 0, .bool false] 37)) b v l p) := H.out.grew ((Grew.refl w).alloc _)
      have T0 : Hid (Turn [b] w (w.alloc (.cells #[.string ⟨#[]⟩, .string ⟨#[]⟩, .int .i64 0, .int .i64 0, .int .i64 0, .bool false, .int .i64 0, .bool false, .int .u64 0, .int .u64 0, .bool false, .bool false, .int .u64 0, .int .u64 0, .bool false, .int .i64 0, .bool false, .int .i64 0, .bool false] 37))) := (Turn.refl [b] w).alloc _
      have N0 : Hid ((w.alloc (.cells #[.string ⟨#[]⟩, .string ⟨#[]⟩, .int .i64 0, .int .i64 0, .int .i64 0, .bool false, .int .i64 0, .bool false, .int .u64 0, .int .u64 0, .bool false, .bool false, .int .u64 0, .int .u64 0, .bool false, .int .i64 0, .bool false, .int .i64 0, .bool false] 37)).heap[w.heap.size]? = some (.cells #[.string ⟨#[]⟩, .string ⟨#[]⟩, .int .i64 0, .int .i64 0, .int .i64 0, .bool false, .int .i64 0, .bool false, .int .u64 0, .int .u64 0, .bool false, .bool false, .int .u64 0, .int .u64 0, .bool false, .int .i64 0, .bool false, .int .i64 0, .bool false] 37 (0, 0))) := heap_alloc_last _ _
      go_enter Tryz.func18, Tryz.ntmps18
      go_wp2_with fail
      refine (Calls.ok_of (name_any U0.out) hx).mono ?_
      rintro en w1 ⟨rfl, t1, u1⟩
      have T1 : Hid (Turn [b] w w1) := T0.out.trans t1
      have U1 : Hid (CU w1 b v l q) := u1
      have N1 : Hid (w1.heap[w.heap.size]? = some (.cells #[.string ⟨#[]⟩, .string ⟨#[]⟩, .int .i64 0, .int .i64 0, .int .i64 0, .bool false, .int .i64 0, .bool false, .int .u64 0, .int .u64 0, .bool false, .bool false, .int .u64 0, .int .u64 0, .bool false, .int .i64 0, .bool false, .int .i64 0, .bool false] 37 (0, 0))) := t1.other N0.out (by simp; omega)
      clear t1 u1 T0 U0 N0
      go_wp2_with fail
      refine (Calls.er_of (name_any U1.out) hy).mono ?_
      rintro en w2 ⟨rfl, t2⟩
      have T2 : Hid (Turn [b] w w2) := T1.out.trans t2
      clear t2
      go_wp2_with fail
      exact ⟨rfl, rfl, T2.out⟩
    | ok y =>
      obtain ⟨n, r⟩ := y
      try simp only [thenR]
      cases hz : extR l r with
      | error y =>
        obtain ⟨f, e⟩ := y
        try simp only [mapR]
        have U0 : Hid (CU (w.alloc (.cells #[.string ⟨#[]⟩, .string ⟨#[]⟩, .int .i64 0, .int .i64 0, .int .i64 0, .bool false, .int .i64 0, .bool false, .int .u64 0, .int .u64 0, .bool false, .bool false, .int .u64 0, .int .u64 0, .bool false, .int .i64 0, .bool false, .int .i64 0, .bool false] 37)) b v l p) := H.out.grew ((Grew.refl w).alloc _)
        have T0 : Hid (Turn [b] w (w.alloc (.cells #[.string ⟨#[]⟩, .string ⟨#[]⟩, .int .i64 0, .int .i64 0, .int .i64 0, .bool false, .int .i64 0, .bool false, .int .u64 0, .int .u64 0, .bool false, .bool false, .int .u64 0, .int .u64 0, .bool false, .int .i64 0, .bool false, .int .i64 0, .bool false] 37))) := (Turn.refl [b] w).alloc _
        have N0 : Hid ((w.alloc (.cells #[.string ⟨#[]⟩, .string ⟨#[]⟩, .int .i64 0, .int .i64 0, .int .i64 0, .bool false, .int .i64 0, .bool false, .int .u64 0, .int .u64 0, .bool false, .bool false, .int .u64 0, .int .u64 0, .bool false, .int .i64 0, .bool false, .int .i64 0, .bool false] 37)).heap[w.heap.size]? = some (.cells #[.string ⟨#[]⟩, .string ⟨#[]⟩, .int .i64 0, .int .i64 0, .int .i64 0, .bool false, .int .i64 0, .bool false, .int .u64 0, .int .u64 0, .bool false, .bool false, .int .u64 0, .int .u64 0, .bool false, .int .i64 0, .bool false, .int .i64 0, .bool false] 37 (0, 0))) := heap_alloc_last _ _
        go_enter Tryz.func18, Tryz.ntmps18
        go_wp2_with fail
        refine (Calls.ok_of (name_any U0.out) hx).mono ?_
        rintro en w1 ⟨rfl, t1, u1⟩
        have T1 : Hid (Turn [b] w w1) := T0.out.trans t1
        have U1 : Hid (CU w1 b v l q) := u1
        have N1 : Hid (w1.heap[w.heap.size]? = some (.cells #[.string ⟨#[]⟩, .string ⟨#[]⟩, .int .i64 0, .int .i64 0, .int .i64 0, .bool false, .int .i64 0, .bool false, .int .u64 0, .int .u64 0, .bool false, .bool false, .int .u64 0, .int .u64 0, .bool false, .int .i64 0, .bool false, .int .i64 0, .bool false] 37 (0, 0))) := t1.other N0.out (by simp; omega)
        clear t1 u1 T0 U0 N0
        go_wp2_with fail
        refine (Calls.ok_of (name_any U1.out) hy).mono ?_
        rintro en w2 ⟨rfl, t2, u2⟩
        have T2 : Hid (Turn [b] w w2) := T1.out.trans t2
        have U2 : Hid (CU w2 b v l r) := u2
        have N2 : Hid (w2.heap[w.heap.size]? = some (.cells #[.string ⟨#[]⟩, .string ⟨#[]⟩, .int .i64 0, .int .i64 0, .int .i64 0, .bool false, .int .i64 0, .bool false, .int .u64 0, .int .u64 0, .bool false, .bool false, .int .u64 0, .int .u64 0, .bool false, .int .i64 0, .bool false, .int .i64 0, .bool false] 37 (0, 0))) := t2.other N1.out (by simp; omega)
        clear t2 u2 T1 U1 N1
        go_wp2_with fail
        refine (Calls.er_of (extern_any U2.out) hz).mono ?_
        rintro en w3 ⟨rfl, t3⟩
        have T3 : Hid (Turn [b] w w3) := T2.out.trans t3
        clear t3
        go_wp2_with fail
        exact ⟨rfl, rfl, T3.out⟩
      | ok y =>
        obtain ⟨⟨k, ty, ⟨⟨tn, tz, th⟩, ⟨tw, tp, tq, tm⟩⟩, ⟨mw, mp, mq, mm⟩, ⟨⟨gn, gz, gh⟩, gm⟩⟩, u⟩ := y
        try simp only [mapR]
        have U0 : Hid (CU (w.alloc (.cells #[.string ⟨#[]⟩, .string ⟨#[]⟩, .int .i64 0, .int .i64 0, .int .i64 0, .bool false, .int .i64 0, .bool false, .int .u64 0, .int .u64 0, .bool false, .bool false, .int .u64 0, .int .u64 0, .bool false, .int .i64 0, .bool false, .int .i64 0, .bool false] 37)) b v l p) := H.out.grew ((Grew.refl w).alloc _)
        have T0 : Hid (Turn [b] w (w.alloc (.cells #[.string ⟨#[]⟩, .string ⟨#[]⟩, .int .i64 0, .int .i64 0, .int .i64 0, .bool false, .int .i64 0, .bool false, .int .u64 0, .int .u64 0, .bool false, .bool false, .int .u64 0, .int .u64 0, .bool false, .int .i64 0, .bool false, .int .i64 0, .bool false] 37))) := (Turn.refl [b] w).alloc _
        have N0 : Hid ((w.alloc (.cells #[.string ⟨#[]⟩, .string ⟨#[]⟩, .int .i64 0, .int .i64 0, .int .i64 0, .bool false, .int .i64 0, .bool false, .int .u64 0, .int .u64 0, .bool false, .bool false, .int .u64 0, .int .u64 0, .bool false, .int .i64 0, .bool false, .int .i64 0, .bool false] 37)).heap[w.heap.size]? = some (.cells #[.string ⟨#[]⟩, .string ⟨#[]⟩, .int .i64 0, .int .i64 0, .int .i64 0, .bool false, .int .i64 0, .bool false, .int .u64 0, .int .u64 0, .bool false, .bool false, .int .u64 0, .int .u64 0, .bool false, .int .i64 0, .bool false, .int .i64 0, .bool false] 37 (0, 0))) := heap_alloc_last _ _
        go_enter Tryz.func18, Tryz.ntmps18
        go_wp2_with fail
        refine (Calls.ok_of (name_any U0.out) hx).mono ?_
        rintro en w1 ⟨rfl, t1, u1⟩
        have T1 : Hid (Turn [b] w w1) := T0.out.trans t1
        have U1 : Hid (CU w1 b v l q) := u1
        have N1 : Hid (w1.heap[w.heap.size]? = some (.cells #[.string ⟨#[]⟩, .string ⟨#[]⟩, .int .i64 0, .int .i64 0, .int .i64 0, .bool false, .int .i64 0, .bool false, .int .u64 0, .int .u64 0, .bool false, .bool false, .int .u64 0, .int .u64 0, .bool false, .int .i64 0, .bool false, .int .i64 0, .bool false] 37 (0, 0))) := t1.other N0.out (by simp; omega)
        clear t1 u1 T0 U0 N0
        go_wp2_with fail
        refine (Calls.ok_of (name_any U1.out) hy).mono ?_
        rintro en w2 ⟨rfl, t2, u2⟩
        have T2 : Hid (Turn [b] w w2) := T1.out.trans t2
        have U2 : Hid (CU w2 b v l r) := u2
        have N2 : Hid (w2.heap[w.heap.size]? = some (.cells #[.string ⟨#[]⟩, .string ⟨#[]⟩, .int .i64 0, .int .i64 0, .int .i64 0, .bool false, .int .i64 0, .bool false, .int .u64 0, .int .u64 0, .bool false, .bool false, .int .u64 0, .int .u64 0, .bool false, .int .i64 0, .bool false, .int .i64 0, .bool false] 37 (0, 0))) := t2.other N1.out (by simp; omega)
        clear t2 u2 T1 U1 N1
        go_wp2_with fail
        refine (Calls.ok_of (extern_any U2.out) hz).mono ?_
        rintro en w3 ⟨rfl, t3, u3⟩
        have T3 : Hid (Turn [b] w w3) := T2.out.trans t3
        have U3 : Hid (CU w3 b v l u) := u3
        have N3 : Hid (w3.heap[w.heap.size]? = some (.cells #[.string ⟨#[]⟩, .string ⟨#[]⟩, .int .i64 0, .int .i64 0, .int .i64 0, .bool false, .int .i64 0, .bool false, .int .u64 0, .int .u64 0, .bool false, .bool false, .int .u64 0, .int .u64 0, .bool false, .int .i64 0, .bool false, .int .i64 0, .bool false] 37 (0, 0))) := t3.other N2.out (by simp; omega)
        clear t3 u3 T2 U2 N2
        unfold XT.v
        clear hx hy hz
        go_wp2_with (first
          | with_reducible refine stop_store 37 rfl ?_
          | fail)
        unfold Stop
        refine wpList_store_row rfl 37 _ _ rfl w.heap.size #[.string (strOfNums m), .string (strOfNums n), .int .i64 k, .int .i64 ty, .int .i64 tn, .bool tz, .int .i64 th, .bool tw, .int .u64 tp, .int .u64 tq, .bool tm, .bool mw, .int .u64 mp, .int .u64 mq, .bool mm, .int .i64 gn, .bool gz, .int .i64 gh, .bool gm] rfl rfl 37 #[.string ⟨#[]⟩, .string ⟨#[]⟩, .int .i64 0, .int .i64 0, .int .i64 0, .bool false, .int .i64 0, .bool false, .int .u64 0, .int .u64 0, .bool false, .bool false, .int .u64 0, .int .u64 0, .bool false, .int .i64 0, .bool false, .int .i64 0, .bool false] N3.out (by kernel_rfl) rfl (by first | rfl | decide | simp [Value.oneCell']) ?_
        go_wp2_with fail
        refine bodyPost_ret (v := .agg #[.string (strOfNums m), .string (strOfNums n), .int .i64 k, .int .i64 ty, .int .i64 tn, .bool tz, .int .i64 th, .bool tw, .int .u64 tp, .int .u64 tq, .bool tm, .bool mw, .int .u64 mp, .int .u64 mq, .bool mm, .int .i64 gn, .bool gz, .int .i64 gh, .bool gm]) ?_ ?_ ?_
        · exact results_cell_row Tryz.results18 _ _ w.heap.size 37 _ (0, 0) _ rfl (heap_setRow N3.out) Tryz.underlying37 rfl (by kernel_rfl)
        · rfl
        exact ⟨rfl, (Fin.mk_ T3.out U3.out).row H.out (Nat.le_refl _) _⟩
end Go.Proofs.YtchehejjdinifaaGreatDoor
