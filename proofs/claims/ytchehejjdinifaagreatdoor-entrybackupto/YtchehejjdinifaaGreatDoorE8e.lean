/-
  An extern written by the program; no statement is proved here.
-/
import Derived.Test.YtchehejjdinifaaGreatDoorE8y
import Derived.Test.YtchehejjdinifaaGreatDoorE8k
import Derived.Deep.RegionLaw
namespace Go.Proofs.YtchehejjdinifaaGreatDoor
open Go.RowKit
set_option linter.unusedVariables false
set_option linter.unusedSimpArgs false
set_option linter.constructorNameAsVariable false

def extP (k : Int) (bk : Bool) (R : Except Nat (List Int)) : Except Nat (List Int) := if bk = true then thenW (.ok [k]) R else .error 4
theorem step_load_row {ops : Array Oper} {o : Oper} {a : Act} {w : World} {K : Act → World → Prop} {Q : Exit → Act → World → Prop} {E : Prop} (ty : TypeId) (x : Operand) (hop : o.op = .load ty x) (hg : o.guard = none) (g : Nat) (hx : a.eval x = .pointer (some ⟨g, 0, none⟩))
    (cs : Array Value) (hr : (loadVar ty ⟨g, 0, none⟩).run Tryz.prog w = .ok (.agg cs) w)
    (h : K (a.put o.dst (.agg cs)) w) : if Region.wanted o (yielded ops a.tmps) = true then Oper.wp Tryz.prog o a w K Q else E := by
  rw [if_pos (by simp [Region.wanted, hg])]
  unfold Oper.wp execOp
  simp only [hop, hx, Instr.loadAt, Instr.sureAddr, Sem.run_bind, Sem.run_pure, Result.andThen_ok, hr]
  exact h
theorem call_told (v : Value) (w : World) : (callFunc 51 #[v]).run Tryz.prog w = .ok (.enter 51 #[v]) w := by kernel_rfl
theorem call_need (u v : Value) (w : World) : (callFunc 50 #[u, v]).run Tryz.prog w = .ok (.enter 50 #[u, v]) w := by kernel_rfl
theorem step_told {ops : Array Oper} {o : Oper} {a : Act} {w : World} {K : Act → World → Prop} {Q : Exit → Act → World → Prop} {E : Prop} {R : Ending → World → Prop} (x : Operand) {v : Value}
    (hop : o.op = .call { callee := .value (.func 51), args := #[x], argTypes := #[35] }) (hg : o.guard = none) (hx : a.eval x = v) (hc : Calls Tryz.prog 51 #[v] w R)
    (h : ∀ e w', R e w' → ∃ u, e = .returned u ∧ K (a.put o.dst u) w') :
    if Region.wanted o (yielded ops a.tmps) = true then Oper.wp Tryz.prog o a w K Q else E :=
  step_callD hop (by simp [Region.wanted, hg]) (args := #[v]) (by simp [hx]) (call_told v w) hc (fun e w' he => Or.inl (h e w' he))
theorem step_need {ops : Array Oper} {o : Oper} {a : Act} {w : World} {K : Act → World → Prop} {Q : Exit → Act → World → Prop} {E : Prop} {R : Ending → World → Prop} (x y : Operand) {u v : Value}
    (hop : o.op = .call { callee := .value (.func 50), args := #[x, y], argTypes := #[53, 4] }) (hg : o.guard = none) (hx : a.eval x = u) (hy : a.eval y = v) (hc : Calls Tryz.prog 50 #[u, v] w R)
    (h : ∀ e w', R e w' → (∃ u, e = .returned u ∧ K (a.put o.dst u) w') ∨ ∃ ch, e = .panicked ch ∧ Q (.panic ch) a w') :
    if Region.wanted o (yielded ops a.tmps) = true then Oper.wp Tryz.prog o a w K Q else E :=
  step_callD hop (by simp [Region.wanted, hg]) (args := #[u, v]) (by simp [hx, hy]) (call_need u v w) hc h
set_option maxRecDepth 100000 in
set_option maxHeartbeats 2000000 in
theorem extern2_0 {b B : Nat} {w : World} {l : List Int} (h : WS b B w l) (k ty tn th tp tq mp mq gn gh : Int) (tz tw tm mw mm gz gm : Bool) (hl : l.length ≤ 17592186030000) :
    Calls Tryz.prog 32 #[.pointer (some ⟨b, 0, none⟩), .agg #[.int .i64 0, .int .i64 ty, .int .i64 tn, .bool tz, .int .i64 th, .bool tw, .int .u64 tp, .int .u64 tq, .bool tm, .bool mw, .int .u64 mp, .int .u64 mq, .bool mm, .int .i64 gn, .bool gz, .int .i64 gh, .bool gm]] w (W2 b B w l (extP 0 ((zT tn tz th tw tp tq tm) && ((zM mw mp mq mm) && (zG gn gz gh gm))) (uidxW ty))) := by
  have CT : Hid (∀ W : World, Calls Tryz.prog 51 #[.agg #[.int .i64 0, .int .i64 ty, .int .i64 tn, .bool tz, .int .i64 th, .bool tw, .int .u64 tp, .int .u64 tq, .bool tm, .bool mw, .int .u64 mp, .int .u64 mq, .bool mm, .int .i64 gn, .bool gz, .int .i64 gh, .bool gm]] W fun en w' => en = .returned (.agg #[.int .i64 0, .int .i64 ty, .int .i64 0, .bool false, .int .i64 0, .bool false, .int .u64 0, .int .u64 0, .bool false, .bool false, .int .u64 0, .int .u64 0, .bool false, .int .i64 0, .bool false, .int .i64 0, .bool false]) ∧ Grew W w') := fun W => told0_any k ty tn th tp tq mp mq gn gh tz tw tm mw mm gz gm W
  have HQ := eqE0 k ty tn th tp tq mp mq gn gh tz tw tm mw mm gz gm
  have CK : Hid (∀ W : World, WS b B W l → Calls Tryz.prog 49 #[.pointer (some ⟨b, 0, none⟩), .int .i64 0] W (W2 b B W l (.ok [0]))) := fun W u => kind2 u 0 (by omega)
  have CP : Hid (∀ W : World, WS b B W (l ++ [0]) → Calls Tryz.prog 52 #[.pointer (some ⟨b, 0, none⟩), .int .i64 ty] W (W2 b B W (l ++ [0]) (uidxW ty))) := fun W u => index2 u ty (by simp; omega)
  obtain ⟨es, hes⟩ : ∃ es : Array Value, es = #[.int .i64 0, .int .i64 ty, .int .i64 tn, .bool tz, .int .i64 th, .bool tw, .int .u64 tp, .int .u64 tq, .bool tm, .bool mw, .int .u64 mp, .int .u64 mq, .bool mm, .int .i64 gn, .bool gz, .int .i64 gh, .bool gm] := ⟨_, rfl⟩
  obtain ⟨ts, hts⟩ : ∃ ts : Array Value, ts = #[.int .i64 0, .int .i64 ty, .int .i64 0, .bool false, .int .i64 0, .bool false, .int .u64 0, .int .u64 0, .bool false, .bool false, .int .u64 0, .int .u64 0, .bool false, .int .i64 0, .bool false, .int .i64 0, .bool false] := ⟨_, rfl⟩
  rw [← hes, ← hts] at CT HQ
  rw [← hes]
  have hsz : (Tryz.prog.info? 35).map (·.size) = some es.size := by rw [hes]; kernel_rfl
  have e0 : es[0]? = some (.int .i64 0) := by rw [hes]; rfl
  have e1 : es[1]? = some (.int .i64 ty) := by rw [hes]; rfl
  generalize ((zT tn tz th tw tp tq tm) && ((zM mw mp mq mm) && (zG gn gz gh gm))) = bk at *
  generalize hR : uidxW ty = R at *
  have S0 : Hid (WS b B (w.alloc (.cells es 35)) l) := h.grew ((Grew.refl w).alloc _)
  have T0 : Hid (WT b B w (w.alloc (.cells es 35))) := WT.of_grew ((Grew.refl w).alloc _)
  have N0 : Hid ((w.alloc (.cells es 35)).heap[w.heap.size]? = some (.cells es 35 (0, 0))) := heap_alloc_last _ _
  have c0 := (cell_of N0.out 0).trans e0
  have hb : b < w.heap.size := h.blt
  clear h hes hts hR
  cases bk with
  | false =>
    unfold extP
    rw [if_neg (by simp)]
    go_enter Tryz.func32, Tryz.ntmps32
    go_wp2_with fail
    refine (W2.okc (CK.out _ S0.out) rfl).mono ?_
    rintro en w1 ⟨rfl, t1, s1⟩
    have T1 : Hid (WT b B w w1) := T0.out.trans t1
    have S1 : Hid (WS b B w1 (l ++ [0])) := s1
    have N1 : Hid (w1.heap[w.heap.size]? = some (.cells es 35 (0, 0))) := t1.other N0.out (by omega) (NoT.of N0.out (by decide))
    have k0 := (cell_of N1.out 0).trans e0
    clear t1 s1 T0 S0 N0 c0
    go_wp2_with fail
    refine wp_region_any (by kernel_rfl) ?_
    refine wpAny_take (i := 0) (v := .pointer (some ⟨b, 0, none⟩)) rfl (by kernel_rfl) (by kernel_rfl) (by kernel_rfl) (fun _ _ _ h => h) (Or.inl ⟨by rfl, fun w' => by go_simp⟩) ?_
    try simp only [Act.put, List.setIfInBounds_toArray, List.set_cons_zero, List.set_cons_succ]
    refine wpAny_ready (rs := [1, 2]) (by kernel_rfl) (by simp) ?_
    refine AllReady.cons rfl (fun K hK => ?_) (AllReady.cons rfl (fun K hK => ?_) AllReady.nil)
    · refine step_load_row 35 (.tmp 3) rfl rfl w.heap.size rfl es (run_loadVar_row _ _ 35 35 es (0, 0) _ N1.out Tryz.underlying35 rfl hsz) ?_
      refine hK _ _ ?_
      try simp only [Act.put, List.setIfInBounds_toArray, List.set_cons_zero, List.set_cons_succ]
      refine wpAny_ready (rs := [2]) (by kernel_rfl) (by simp) ?_
      refine AllReady.cons rfl (fun K hK => ?_) AllReady.nil
      refine step_load_row 35 (.tmp 3) rfl rfl w.heap.size rfl es (run_loadVar_row _ _ 35 35 es (0, 0) _ N1.out Tryz.underlying35 rfl hsz) ?_
      refine hK _ _ ?_
      try simp only [Act.put, List.setIfInBounds_toArray, List.set_cons_zero, List.set_cons_succ]
      refine wpAny_ready (rs := [3]) (by kernel_rfl) (by simp) ?_
      refine AllReady.cons rfl (fun K hK => ?_) AllReady.nil
      refine step_told (.tmp 10) rfl rfl rfl (CT.out _) ?_
      rintro en w2 ⟨rfl, g2⟩
      refine ⟨_, rfl, ?_⟩
      have G2 : Hid (Grew w1 w2) := ((Grew.refl _).drew).trans g2
      have N2 : Hid (w2.heap[w.heap.size]? = some (.cells es 35 (0, 0))) := (G2.out.turn []).other N1.out (by simp)
      clear g2
      refine hK _ _ ?_
      try simp only [Act.put, List.setIfInBounds_toArray, List.set_cons_zero, List.set_cons_succ]
      refine wpAny_take (i := 4) (v := .bool false) rfl (by kernel_rfl) (by kernel_rfl) (by kernel_rfl) (fun _ _ _ h => h) (Or.inl ⟨by rfl, fun w' => by go_simp⟩) ?_
      try simp only [Act.put, List.setIfInBounds_toArray, List.set_cons_zero, List.set_cons_succ]
      refine wpAny_ready (rs := [5]) (by kernel_rfl) (by simp) ?_
      refine AllReady.cons rfl (fun K hK => ?_) AllReady.nil
      refine step_need (.tmp 8) (.tmp 12) rfl rfl rfl rfl (need_no (l := l ++ [0]) (S1.out.grew G2.out)) ?_
      rintro en w3 ⟨⟨p, rfl⟩, h3⟩
      refine Or.inr ⟨_, rfl, ?_⟩
      obtain rfl := h3.symm
      exact ⟨rfl, ⟨p, rfl⟩, T1.out.trans (WT.of_grew G2.out)⟩
    · refine step_load_row 35 (.tmp 3) rfl rfl w.heap.size rfl es (run_loadVar_row _ _ 35 35 es (0, 0) _ N1.out Tryz.underlying35 rfl hsz) ?_
      refine hK _ _ ?_
      try simp only [Act.put, List.setIfInBounds_toArray, List.set_cons_zero, List.set_cons_succ]
      refine wpAny_ready (rs := [1, 3]) (by kernel_rfl) (by simp) ?_
      refine AllReady.cons rfl (fun K hK => ?_) (AllReady.cons rfl (fun K hK => ?_) AllReady.nil)
      · refine step_load_row 35 (.tmp 3) rfl rfl w.heap.size rfl es (run_loadVar_row _ _ 35 35 es (0, 0) _ N1.out Tryz.underlying35 rfl hsz) ?_
        refine hK _ _ ?_
        try simp only [Act.put, List.setIfInBounds_toArray, List.set_cons_zero, List.set_cons_succ]
        refine wpAny_ready (rs := [3]) (by kernel_rfl) (by simp) ?_
        refine AllReady.cons rfl (fun K hK => ?_) AllReady.nil
        refine step_told (.tmp 10) rfl rfl rfl (CT.out _) ?_
        rintro en w2 ⟨rfl, g2⟩
        refine ⟨_, rfl, ?_⟩
        have G2 : Hid (Grew w1 w2) := ((Grew.refl _).drew).trans g2
        have N2 : Hid (w2.heap[w.heap.size]? = some (.cells es 35 (0, 0))) := (G2.out.turn []).other N1.out (by simp)
        clear g2
        refine hK _ _ ?_
        try simp only [Act.put, List.setIfInBounds_toArray, List.set_cons_zero, List.set_cons_succ]
        refine wpAny_take (i := 4) (v := .bool false) rfl (by kernel_rfl) (by kernel_rfl) (by kernel_rfl) (fun _ _ _ h => h) (Or.inl ⟨by rfl, fun w' => by go_simp⟩) ?_
        try simp only [Act.put, List.setIfInBounds_toArray, List.set_cons_zero, List.set_cons_succ]
        refine wpAny_ready (rs := [5]) (by kernel_rfl) (by simp) ?_
        refine AllReady.cons rfl (fun K hK => ?_) AllReady.nil
        refine step_need (.tmp 8) (.tmp 12) rfl rfl rfl rfl (need_no (l := l ++ [0]) (S1.out.grew G2.out)) ?_
        rintro en w3 ⟨⟨p, rfl⟩, h3⟩
        refine Or.inr ⟨_, rfl, ?_⟩
        obtain rfl := h3.symm
        exact ⟨rfl, ⟨p, rfl⟩, T1.out.trans (WT.of_grew G2.out)⟩
      · refine step_told (.tmp 10) rfl rfl rfl (CT.out _) ?_
        rintro en w2 ⟨rfl, g2⟩
        refine ⟨_, rfl, ?_⟩
        have G2 : Hid (Grew w1 w2) := ((Grew.refl _).drew).trans g2
        have N2 : Hid (w2.heap[w.heap.size]? = some (.cells es 35 (0, 0))) := (G2.out.turn []).other N1.out (by simp)
        clear g2
        refine hK _ _ ?_
        try simp only [Act.put, List.setIfInBounds_toArray, List.set_cons_zero, List.set_cons_succ]
        refine wpAny_ready (rs := [1]) (by kernel_rfl) (by simp) ?_
        refine AllReady.cons rfl (fun K hK => ?_) AllReady.nil
        refine step_load_row 35 (.tmp 3) rfl rfl w.heap.size rfl es (run_loadVar_row _ _ 35 35 es (0, 0) _ N2.out Tryz.underlying35 rfl hsz) ?_
        refine hK _ _ ?_
        try simp only [Act.put, List.setIfInBounds_toArray, List.set_cons_zero, List.set_cons_succ]
        refine wpAny_take (i := 4) (v := .bool false) rfl (by kernel_rfl) (by kernel_rfl) (by kernel_rfl) (fun _ _ _ h => h) (Or.inl ⟨by rfl, fun w' => by go_simp⟩) ?_
        try simp only [Act.put, List.setIfInBounds_toArray, List.set_cons_zero, List.set_cons_succ]
        refine wpAny_ready (rs := [5]) (by kernel_rfl) (by simp) ?_
        refine AllReady.cons rfl (fun K hK => ?_) AllReady.nil
        refine step_need (.tmp 8) (.tmp 12) rfl rfl rfl rfl (need_no (l := l ++ [0]) (S1.out.grew G2.out)) ?_
        rintro en w3 ⟨⟨p, rfl⟩, h3⟩
        refine Or.inr ⟨_, rfl, ?_⟩
        obtain rfl := h3.symm
        exact ⟨rfl, ⟨p, rfl⟩, T1.out.trans (WT.of_grew G2.out)⟩
  | true =>
    unfold extP
    rw [if_pos rfl]
    cases R with
    | error e =>
      go_enter Tryz.func32, Tryz.ntmps32
      go_wp2_with fail
      refine (W2.okc (CK.out _ S0.out) rfl).mono ?_
      rintro en w1 ⟨rfl, t1, s1⟩
      have T1 : Hid (WT b B w w1) := T0.out.trans t1
      have S1 : Hid (WS b B w1 (l ++ [0])) := s1
      have N1 : Hid (w1.heap[w.heap.size]? = some (.cells es 35 (0, 0))) := t1.other N0.out (by omega) (NoT.of N0.out (by decide))
      have k0 := (cell_of N1.out 0).trans e0
      clear t1 s1 T0 S0 N0 c0
      go_wp2_with fail
      refine wp_region_any (by kernel_rfl) ?_
      refine wpAny_take (i := 0) (v := .pointer (some ⟨b, 0, none⟩)) rfl (by kernel_rfl) (by kernel_rfl) (by kernel_rfl) (fun _ _ _ h => h) (Or.inl ⟨by rfl, fun w' => by go_simp⟩) ?_
      try simp only [Act.put, List.setIfInBounds_toArray, List.set_cons_zero, List.set_cons_succ]
      refine wpAny_ready (rs := [1, 2]) (by kernel_rfl) (by simp) ?_
      refine AllReady.cons rfl (fun K hK => ?_) (AllReady.cons rfl (fun K hK => ?_) AllReady.nil)
      · refine step_load_row 35 (.tmp 3) rfl rfl w.heap.size rfl es (run_loadVar_row _ _ 35 35 es (0, 0) _ N1.out Tryz.underlying35 rfl hsz) ?_
        refine hK _ _ ?_
        try simp only [Act.put, List.setIfInBounds_toArray, List.set_cons_zero, List.set_cons_succ]
        refine wpAny_ready (rs := [2]) (by kernel_rfl) (by simp) ?_
        refine AllReady.cons rfl (fun K hK => ?_) AllReady.nil
        refine step_load_row 35 (.tmp 3) rfl rfl w.heap.size rfl es (run_loadVar_row _ _ 35 35 es (0, 0) _ N1.out Tryz.underlying35 rfl hsz) ?_
        refine hK _ _ ?_
        try simp only [Act.put, List.setIfInBounds_toArray, List.set_cons_zero, List.set_cons_succ]
        refine wpAny_ready (rs := [3]) (by kernel_rfl) (by simp) ?_
        refine AllReady.cons rfl (fun K hK => ?_) AllReady.nil
        refine step_told (.tmp 10) rfl rfl rfl (CT.out _) ?_
        rintro en w2 ⟨rfl, g2⟩
        refine ⟨_, rfl, ?_⟩
        have G2 : Hid (Grew w1 w2) := ((Grew.refl _).drew).trans g2
        have N2 : Hid (w2.heap[w.heap.size]? = some (.cells es 35 (0, 0))) := (G2.out.turn []).other N1.out (by simp)
        clear g2
        refine hK _ _ ?_
        try simp only [Act.put, List.setIfInBounds_toArray, List.set_cons_zero, List.set_cons_succ]
        refine wpAny_take (i := 4) (v := .bool true) rfl (by kernel_rfl) (by kernel_rfl) (by kernel_rfl) (fun _ _ _ h => h) (Or.inl ⟨by rfl, fun w' => by go_simp⟩) ?_
        try simp only [Act.put, List.setIfInBounds_toArray, List.set_cons_zero, List.set_cons_succ]
        refine wpAny_ready (rs := [5]) (by kernel_rfl) (by simp) ?_
        refine AllReady.cons rfl (fun K hK => ?_) AllReady.nil
        refine step_need (.tmp 8) (.tmp 12) rfl rfl rfl rfl (need_yes (l := l ++ [0]) (S1.out.grew G2.out)) ?_
        rintro en w3 ⟨rfl, h3⟩
        refine Or.inl ⟨_, rfl, ?_⟩
        obtain rfl := h3.symm
        clear h3
        refine hK _ _ ?_
        try simp only [Act.put, List.setIfInBounds_toArray, List.set_cons_zero, List.set_cons_succ]
        refine wpAny_done (by kernel_rfl) ?_ _
        obtain ⟨T3, S3, N3⟩ : Hid (WT b B w w2) ∧ Hid (WS b B w2 (l ++ [0])) ∧ Hid (w2.heap[w.heap.size]? = some (.cells es 35 (0, 0))) := ⟨T1.out.trans (WT.of_grew G2.out), S1.out.grew G2.out, N2.out⟩
        have n0 := (cell_of N3.out 0).trans e0
        have n1 := (cell_of N3.out 1).trans e1
        go_wp2_with fail
        refine (W2.erc (CP.out _ S3.out) rfl).mono ?_
        rintro en w4 ⟨⟨p, rfl⟩, t4⟩
        have T4 : Hid (WT b B w w4) := T3.out.trans t4
        clear t4
        go_wp2_with fail
        exact ⟨rfl, ⟨p, rfl⟩, T4.out⟩
      · refine step_load_row 35 (.tmp 3) rfl rfl w.heap.size rfl es (run_loadVar_row _ _ 35 35 es (0, 0) _ N1.out Tryz.underlying35 rfl hsz) ?_
        refine hK _ _ ?_
        try simp only [Act.put, List.setIfInBounds_toArray, List.set_cons_zero, List.set_cons_succ]
        refine wpAny_ready (rs := [1, 3]) (by kernel_rfl) (by simp) ?_
        refine AllReady.cons rfl (fun K hK => ?_) (AllReady.cons rfl (fun K hK => ?_) AllReady.nil)
        · refine step_load_row 35 (.tmp 3) rfl rfl w.heap.size rfl es (run_loadVar_row _ _ 35 35 es (0, 0) _ N1.out Tryz.underlying35 rfl hsz) ?_
          refine hK _ _ ?_
          try simp only [Act.put, List.setIfInBounds_toArray, List.set_cons_zero, List.set_cons_succ]
          refine wpAny_ready (rs := [3]) (by kernel_rfl) (by simp) ?_
          refine AllReady.cons rfl (fun K hK => ?_) AllReady.nil
          refine step_told (.tmp 10) rfl rfl rfl (CT.out _) ?_
          rintro en w2 ⟨rfl, g2⟩
          refine ⟨_, rfl, ?_⟩
          have G2 : Hid (Grew w1 w2) := ((Grew.refl _).drew).trans g2
          have N2 : Hid (w2.heap[w.heap.size]? = some (.cells es 35 (0, 0))) := (G2.out.turn []).other N1.out (by simp)
          clear g2
          refine hK _ _ ?_
          try simp only [Act.put, List.setIfInBounds_toArray, List.set_cons_zero, List.set_cons_succ]
          refine wpAny_take (i := 4) (v := .bool true) rfl (by kernel_rfl) (by kernel_rfl) (by kernel_rfl) (fun _ _ _ h => h) (Or.inl ⟨by rfl, fun w' => by go_simp⟩) ?_
          try simp only [Act.put, List.setIfInBounds_toArray, List.set_cons_zero, List.set_cons_succ]
          refine wpAny_ready (rs := [5]) (by kernel_rfl) (by simp) ?_
          refine AllReady.cons rfl (fun K hK => ?_) AllReady.nil
          refine step_need (.tmp 8) (.tmp 12) rfl rfl rfl rfl (need_yes (l := l ++ [0]) (S1.out.grew G2.out)) ?_
          rintro en w3 ⟨rfl, h3⟩
          refine Or.inl ⟨_, rfl, ?_⟩
          obtain rfl := h3.symm
          clear h3
          refine hK _ _ ?_
          try simp only [Act.put, List.setIfInBounds_toArray, List.set_cons_zero, List.set_cons_succ]
          refine wpAny_done (by kernel_rfl) ?_ _
          obtain ⟨T3, S3, N3⟩ : Hid (WT b B w w2) ∧ Hid (WS b B w2 (l ++ [0])) ∧ Hid (w2.heap[w.heap.size]? = some (.cells es 35 (0, 0))) := ⟨T1.out.trans (WT.of_grew G2.out), S1.out.grew G2.out, N2.out⟩
          have n0 := (cell_of N3.out 0).trans e0
          have n1 := (cell_of N3.out 1).trans e1
          go_wp2_with fail
          refine (W2.erc (CP.out _ S3.out) rfl).mono ?_
          rintro en w4 ⟨⟨p, rfl⟩, t4⟩
          have T4 : Hid (WT b B w w4) := T3.out.trans t4
          clear t4
          go_wp2_with fail
          exact ⟨rfl, ⟨p, rfl⟩, T4.out⟩
        · refine step_told (.tmp 10) rfl rfl rfl (CT.out _) ?_
          rintro en w2 ⟨rfl, g2⟩
          refine ⟨_, rfl, ?_⟩
          have G2 : Hid (Grew w1 w2) := ((Grew.refl _).drew).trans g2
          have N2 : Hid (w2.heap[w.heap.size]? = some (.cells es 35 (0, 0))) := (G2.out.turn []).other N1.out (by simp)
          clear g2
          refine hK _ _ ?_
          try simp only [Act.put, List.setIfInBounds_toArray, List.set_cons_zero, List.set_cons_succ]
          refine wpAny_ready (rs := [1]) (by kernel_rfl) (by simp) ?_
          refine AllReady.cons rfl (fun K hK => ?_) AllReady.nil
          refine step_load_row 35 (.tmp 3) rfl rfl w.heap.size rfl es (run_loadVar_row _ _ 35 35 es (0, 0) _ N2.out Tryz.underlying35 rfl hsz) ?_
          refine hK _ _ ?_
          try simp only [Act.put, List.setIfInBounds_toArray, List.set_cons_zero, List.set_cons_succ]
          refine wpAny_take (i := 4) (v := .bool true) rfl (by kernel_rfl) (by kernel_rfl) (by kernel_rfl) (fun _ _ _ h => h) (Or.inl ⟨by rfl, fun w' => by go_simp⟩) ?_
          try simp only [Act.put, List.setIfInBounds_toArray, List.set_cons_zero, List.set_cons_succ]
          refine wpAny_ready (rs := [5]) (by kernel_rfl) (by simp) ?_
          refine AllReady.cons rfl (fun K hK => ?_) AllReady.nil
          refine step_need (.tmp 8) (.tmp 12) rfl rfl rfl rfl (need_yes (l := l ++ [0]) (S1.out.grew G2.out)) ?_
          rintro en w3 ⟨rfl, h3⟩
          refine Or.inl ⟨_, rfl, ?_⟩
          obtain rfl := h3.symm
          clear h3
          refine hK _ _ ?_
          try simp only [Act.put, List.setIfInBounds_toArray, List.set_cons_zero, List.set_cons_succ]
          refine wpAny_done (by kernel_rfl) ?_ _
          obtain ⟨T3, S3, N3⟩ : Hid (WT b B w w2) ∧ Hid (WS b B w2 (l ++ [0])) ∧ Hid (w2.heap[w.heap.size]? = some (.cells es 35 (0, 0))) := ⟨T1.out.trans (WT.of_grew G2.out), S1.out.grew G2.out, N2.out⟩
          have n0 := (cell_of N3.out 0).trans e0
          have n1 := (cell_of N3.out 1).trans e1
          go_wp2_with fail
          refine (W2.erc (CP.out _ S3.out) rfl).mono ?_
          rintro en w4 ⟨⟨p, rfl⟩, t4⟩
          have T4 : Hid (WT b B w w4) := T3.out.trans t4
          clear t4
          go_wp2_with fail
          exact ⟨rfl, ⟨p, rfl⟩, T4.out⟩
    | ok m =>
      go_enter Tryz.func32, Tryz.ntmps32
      go_wp2_with fail
      refine (W2.okc (CK.out _ S0.out) rfl).mono ?_
      rintro en w1 ⟨rfl, t1, s1⟩
      have T1 : Hid (WT b B w w1) := T0.out.trans t1
      have S1 : Hid (WS b B w1 (l ++ [0])) := s1
      have N1 : Hid (w1.heap[w.heap.size]? = some (.cells es 35 (0, 0))) := t1.other N0.out (by omega) (NoT.of N0.out (by decide))
      have k0 := (cell_of N1.out 0).trans e0
      clear t1 s1 T0 S0 N0 c0
      go_wp2_with fail
      refine wp_region_any (by kernel_rfl) ?_
      refine wpAny_take (i := 0) (v := .pointer (some ⟨b, 0, none⟩)) rfl (by kernel_rfl) (by kernel_rfl) (by kernel_rfl) (fun _ _ _ h => h) (Or.inl ⟨by rfl, fun w' => by go_simp⟩) ?_
      try simp only [Act.put, List.setIfInBounds_toArray, List.set_cons_zero, List.set_cons_succ]
      refine wpAny_ready (rs := [1, 2]) (by kernel_rfl) (by simp) ?_
      refine AllReady.cons rfl (fun K hK => ?_) (AllReady.cons rfl (fun K hK => ?_) AllReady.nil)
      · refine step_load_row 35 (.tmp 3) rfl rfl w.heap.size rfl es (run_loadVar_row _ _ 35 35 es (0, 0) _ N1.out Tryz.underlying35 rfl hsz) ?_
        refine hK _ _ ?_
        try simp only [Act.put, List.setIfInBounds_toArray, List.set_cons_zero, List.set_cons_succ]
        refine wpAny_ready (rs := [2]) (by kernel_rfl) (by simp) ?_
        refine AllReady.cons rfl (fun K hK => ?_) AllReady.nil
        refine step_load_row 35 (.tmp 3) rfl rfl w.heap.size rfl es (run_loadVar_row _ _ 35 35 es (0, 0) _ N1.out Tryz.underlying35 rfl hsz) ?_
        refine hK _ _ ?_
        try simp only [Act.put, List.setIfInBounds_toArray, List.set_cons_zero, List.set_cons_succ]
        refine wpAny_ready (rs := [3]) (by kernel_rfl) (by simp) ?_
        refine AllReady.cons rfl (fun K hK => ?_) AllReady.nil
        refine step_told (.tmp 10) rfl rfl rfl (CT.out _) ?_
        rintro en w2 ⟨rfl, g2⟩
        refine ⟨_, rfl, ?_⟩
        have G2 : Hid (Grew w1 w2) := ((Grew.refl _).drew).trans g2
        have N2 : Hid (w2.heap[w.heap.size]? = some (.cells es 35 (0, 0))) := (G2.out.turn []).other N1.out (by simp)
        clear g2
        refine hK _ _ ?_
        try simp only [Act.put, List.setIfInBounds_toArray, List.set_cons_zero, List.set_cons_succ]
        refine wpAny_take (i := 4) (v := .bool true) rfl (by kernel_rfl) (by kernel_rfl) (by kernel_rfl) (fun _ _ _ h => h) (Or.inl ⟨by rfl, fun w' => by go_simp⟩) ?_
        try simp only [Act.put, List.setIfInBounds_toArray, List.set_cons_zero, List.set_cons_succ]
        refine wpAny_ready (rs := [5]) (by kernel_rfl) (by simp) ?_
        refine AllReady.cons rfl (fun K hK => ?_) AllReady.nil
        refine step_need (.tmp 8) (.tmp 12) rfl rfl rfl rfl (need_yes (l := l ++ [0]) (S1.out.grew G2.out)) ?_
        rintro en w3 ⟨rfl, h3⟩
        refine Or.inl ⟨_, rfl, ?_⟩
        obtain rfl := h3.symm
        clear h3
        refine hK _ _ ?_
        try simp only [Act.put, List.setIfInBounds_toArray, List.set_cons_zero, List.set_cons_succ]
        refine wpAny_done (by kernel_rfl) ?_ _
        obtain ⟨T3, S3, N3⟩ : Hid (WT b B w w2) ∧ Hid (WS b B w2 (l ++ [0])) ∧ Hid (w2.heap[w.heap.size]? = some (.cells es 35 (0, 0))) := ⟨T1.out.trans (WT.of_grew G2.out), S1.out.grew G2.out, N2.out⟩
        have n0 := (cell_of N3.out 0).trans e0
        have n1 := (cell_of N3.out 1).trans e1
        go_wp2_with fail
        refine (W2.okc (CP.out _ S3.out) rfl).mono ?_
        rintro en w4 ⟨rfl, t4, s4⟩
        have T4 : Hid (WT b B w w4) := T3.out.trans t4
        have S4 : Hid (WS b B w4 ((l ++ [0]) ++ m)) := s4
        clear t4 s4
        go_wp2_with fail
        go_end0
        exact ⟨rfl, T4.out, by have := S4.out; simpa [List.append_assoc] using this⟩
      · refine step_load_row 35 (.tmp 3) rfl rfl w.heap.size rfl es (run_loadVar_row _ _ 35 35 es (0, 0) _ N1.out Tryz.underlying35 rfl hsz) ?_
        refine hK _ _ ?_
        try simp only [Act.put, List.setIfInBounds_toArray, List.set_cons_zero, List.set_cons_succ]
        refine wpAny_ready (rs := [1, 3]) (by kernel_rfl) (by simp) ?_
        refine AllReady.cons rfl (fun K hK => ?_) (AllReady.cons rfl (fun K hK => ?_) AllReady.nil)
        · refine step_load_row 35 (.tmp 3) rfl rfl w.heap.size rfl es (run_loadVar_row _ _ 35 35 es (0, 0) _ N1.out Tryz.underlying35 rfl hsz) ?_
          refine hK _ _ ?_
          try simp only [Act.put, List.setIfInBounds_toArray, List.set_cons_zero, List.set_cons_succ]
          refine wpAny_ready (rs := [3]) (by kernel_rfl) (by simp) ?_
          refine AllReady.cons rfl (fun K hK => ?_) AllReady.nil
          refine step_told (.tmp 10) rfl rfl rfl (CT.out _) ?_
          rintro en w2 ⟨rfl, g2⟩
          refine ⟨_, rfl, ?_⟩
          have G2 : Hid (Grew w1 w2) := ((Grew.refl _).drew).trans g2
          have N2 : Hid (w2.heap[w.heap.size]? = some (.cells es 35 (0, 0))) := (G2.out.turn []).other N1.out (by simp)
          clear g2
          refine hK _ _ ?_
          try simp only [Act.put, List.setIfInBounds_toArray, List.set_cons_zero, List.set_cons_succ]
          refine wpAny_take (i := 4) (v := .bool true) rfl (by kernel_rfl) (by kernel_rfl) (by kernel_rfl) (fun _ _ _ h => h) (Or.inl ⟨by rfl, fun w' => by go_simp⟩) ?_
          try simp only [Act.put, List.setIfInBounds_toArray, List.set_cons_zero, List.set_cons_succ]
          refine wpAny_ready (rs := [5]) (by kernel_rfl) (by simp) ?_
          refine AllReady.cons rfl (fun K hK => ?_) AllReady.nil
          refine step_need (.tmp 8) (.tmp 12) rfl rfl rfl rfl (need_yes (l := l ++ [0]) (S1.out.grew G2.out)) ?_
          rintro en w3 ⟨rfl, h3⟩
          refine Or.inl ⟨_, rfl, ?_⟩
          obtain rfl := h3.symm
          clear h3
          refine hK _ _ ?_
          try simp only [Act.put, List.setIfInBounds_toArray, List.set_cons_zero, List.set_cons_succ]
          refine wpAny_done (by kernel_rfl) ?_ _
          obtain ⟨T3, S3, N3⟩ : Hid (WT b B w w2) ∧ Hid (WS b B w2 (l ++ [0])) ∧ Hid (w2.heap[w.heap.size]? = some (.cells es 35 (0, 0))) := ⟨T1.out.trans (WT.of_grew G2.out), S1.out.grew G2.out, N2.out⟩
          have n0 := (cell_of N3.out 0).trans e0
          have n1 := (cell_of N3.out 1).trans e1
          go_wp2_with fail
          refine (W2.okc (CP.out _ S3.out) rfl).mono ?_
          rintro en w4 ⟨rfl, t4, s4⟩
          have T4 : Hid (WT b B w w4) := T3.out.trans t4
          have S4 : Hid (WS b B w4 ((l ++ [0]) ++ m)) := s4
          clear t4 s4
          go_wp2_with fail
          go_end0
          exact ⟨rfl, T4.out, by have := S4.out; simpa [List.append_assoc] using this⟩
        · refine step_told (.tmp 10) rfl rfl rfl (CT.out _) ?_
          rintro en w2 ⟨rfl, g2⟩
          refine ⟨_, rfl, ?_⟩
          have G2 : Hid (Grew w1 w2) := ((Grew.refl _).drew).trans g2
          have N2 : Hid (w2.heap[w.heap.size]? = some (.cells es 35 (0, 0))) := (G2.out.turn []).other N1.out (by simp)
          clear g2
          refine hK _ _ ?_
          try simp only [Act.put, List.setIfInBounds_toArray, List.set_cons_zero, List.set_cons_succ]
          refine wpAny_ready (rs := [1]) (by kernel_rfl) (by simp) ?_
          refine AllReady.cons rfl (fun K hK => ?_) AllReady.nil
          refine step_load_row 35 (.tmp 3) rfl rfl w.heap.size rfl es (run_loadVar_row _ _ 35 35 es (0, 0) _ N2.out Tryz.underlying35 rfl hsz) ?_
          refine hK _ _ ?_
          try simp only [Act.put, List.setIfInBounds_toArray, List.set_cons_zero, List.set_cons_succ]
          refine wpAny_take (i := 4) (v := .bool true) rfl (by kernel_rfl) (by kernel_rfl) (by kernel_rfl) (fun _ _ _ h => h) (Or.inl ⟨by rfl, fun w' => by go_simp⟩) ?_
          try simp only [Act.put, List.setIfInBounds_toArray, List.set_cons_zero, List.set_cons_succ]
          refine wpAny_ready (rs := [5]) (by kernel_rfl) (by simp) ?_
          refine AllReady.cons rfl (fun K hK => ?_) AllReady.nil
          refine step_need (.tmp 8) (.tmp 12) rfl rfl rfl rfl (need_yes (l := l ++ [0]) (S1.out.grew G2.out)) ?_
          rintro en w3 ⟨rfl, h3⟩
          refine Or.inl ⟨_, rfl, ?_⟩
          obtain rfl := h3.symm
          clear h3
          refine hK _ _ ?_
          try simp only [Act.put, List.setIfInBounds_toArray, List.set_cons_zero, List.set_cons_succ]
          refine wpAny_done (by kernel_rfl) ?_ _
          obtain ⟨T3, S3, N3⟩ : Hid (WT b B w w2) ∧ Hid (WS b B w2 (l ++ [0])) ∧ Hid (w2.heap[w.heap.size]? = some (.cells es 35 (0, 0))) := ⟨T1.out.trans (WT.of_grew G2.out), S1.out.grew G2.out, N2.out⟩
          have n0 := (cell_of N3.out 0).trans e0
          have n1 := (cell_of N3.out 1).trans e1
          go_wp2_with fail
          refine (W2.okc (CP.out _ S3.out) rfl).mono ?_
          rintro en w4 ⟨rfl, t4, s4⟩
          have T4 : Hid (WT b B w w4) := T3.out.trans t4
          have S4 : Hid (WS b B w4 ((l ++ [0]) ++ m)) := s4
          clear t4 s4
          go_wp2_with fail
          go_end0
          exact ⟨rfl, T4.out, by have := S4.out; simpa [List.append_assoc] using this⟩
set_option maxRecDepth 100000 in
set_option maxHeartbeats 2000000 in
theorem extern2_1 {b B : Nat} {w : World} {l : List Int} (h : WS b B w l) (k ty tn th tp tq mp mq gn gh : Int) (tz tw tm mw mm gz gm : Bool) (hp0 : 0 ≤ tp) (hp1 : tp ≤ 18446744073709551615) (hq0 : 0 ≤ tq) (hq1 : tq ≤ 18446744073709551615) (hl : l.length ≤ 17592186030000) :
    Calls Tryz.prog 32 #[.pointer (some ⟨b, 0, none⟩), .agg #[.int .i64 1, .int .i64 ty, .int .i64 tn, .bool tz, .int .i64 th, .bool tw, .int .u64 tp, .int .u64 tq, .bool tm, .bool mw, .int .u64 mp, .int .u64 mq, .bool mm, .int .i64 gn, .bool gz, .int .i64 gh, .bool gm]] w (W2 b B w l (extP 1 ((ty == 0) && ((zM mw mp mq mm) && (zG gn gz gh gm))) (tabW ⟨tn, tz, th⟩ tw tp tq tm))) := by
  have CT : Hid (∀ W : World, Calls Tryz.prog 51 #[.agg #[.int .i64 1, .int .i64 ty, .int .i64 tn, .bool tz, .int .i64 th, .bool tw, .int .u64 tp, .int .u64 tq, .bool tm, .bool mw, .int .u64 mp, .int .u64 mq, .bool mm, .int .i64 gn, .bool gz, .int .i64 gh, .bool gm]] W fun en w' => en = .returned (.agg #[.int .i64 1, .int .i64 0, .int .i64 tn, .bool tz, .int .i64 th, .bool tw, .int .u64 tp, .int .u64 tq, .bool tm, .bool false, .int .u64 0, .int .u64 0, .bool false, .int .i64 0, .bool false, .int .i64 0, .bool false]) ∧ Grew W w') := fun W => told1_any k ty tn th tp tq mp mq gn gh tz tw tm mw mm gz gm W
  have HQ := eqE1 k ty tn th tp tq mp mq gn gh tz tw tm mw mm gz gm
  have CK : Hid (∀ W : World, WS b B W l → Calls Tryz.prog 49 #[.pointer (some ⟨b, 0, none⟩), .int .i64 1] W (W2 b B W l (.ok [1]))) := fun W u => kind2 u 1 (by omega)
  have CP : Hid (∀ W : World, WS b B W (l ++ [1]) → Calls Tryz.prog 53 #[.pointer (some ⟨b, 0, none⟩), .agg #[.int .i64 tn, .bool tz, .int .i64 th, .bool tw, .int .u64 tp, .int .u64 tq, .bool tm]] W (W2 b B W (l ++ [1]) (tabW ⟨tn, tz, th⟩ tw tp tq tm))) := fun W u => tableType2 u tn th tz tw tm tp tq hp0 hp1 hq0 hq1 (by simp; omega)
  obtain ⟨es, hes⟩ : ∃ es : Array Value, es = #[.int .i64 1, .int .i64 ty, .int .i64 tn, .bool tz, .int .i64 th, .bool tw, .int .u64 tp, .int .u64 tq, .bool tm, .bool mw, .int .u64 mp, .int .u64 mq, .bool mm, .int .i64 gn, .bool gz, .int .i64 gh, .bool gm] := ⟨_, rfl⟩
  obtain ⟨ts, hts⟩ : ∃ ts : Array Value, ts = #[.int .i64 1, .int .i64 0, .int .i64 tn, .bool tz, .int .i64 th, .bool tw, .int .u64 tp, .int .u64 tq, .bool tm, .bool false, .int .u64 0, .int .u64 0, .bool false, .int .i64 0, .bool false, .int .i64 0, .bool false] := ⟨_, rfl⟩
  rw [← hes, ← hts] at CT HQ
  rw [← hes]
  have hsz : (Tryz.prog.info? 35).map (·.size) = some es.size := by rw [hes]; kernel_rfl
  have e0 : es[0]? = some (.int .i64 1) := by rw [hes]; rfl
  have e2 : es[2]? = some (.int .i64 tn) := by rw [hes]; rfl
  have e3 : es[3]? = some (.bool tz) := by rw [hes]; rfl
  have e4 : es[4]? = some (.int .i64 th) := by rw [hes]; rfl
  have e5 : es[5]? = some (.bool tw) := by rw [hes]; rfl
  have e6 : es[6]? = some (.int .u64 tp) := by rw [hes]; rfl
  have e7 : es[7]? = some (.int .u64 tq) := by rw [hes]; rfl
  have e8 : es[8]? = some (.bool tm) := by rw [hes]; rfl
  generalize ((ty == 0) && ((zM mw mp mq mm) && (zG gn gz gh gm))) = bk at *
  generalize hR : tabW ⟨tn, tz, th⟩ tw tp tq tm = R at *
  have S0 : Hid (WS b B (w.alloc (.cells es 35)) l) := h.grew ((Grew.refl w).alloc _)
  have T0 : Hid (WT b B w (w.alloc (.cells es 35))) := WT.of_grew ((Grew.refl w).alloc _)
  have N0 : Hid ((w.alloc (.cells es 35)).heap[w.heap.size]? = some (.cells es 35 (0, 0))) := heap_alloc_last _ _
  have c0 := (cell_of N0.out 0).trans e0
  have hb : b < w.heap.size := h.blt
  clear h hes hts hR
  cases bk with
  | false =>
    unfold extP
    rw [if_neg (by simp)]
    go_enter Tryz.func32, Tryz.ntmps32
    go_wp2_with fail
    refine (W2.okc (CK.out _ S0.out) rfl).mono ?_
    rintro en w1 ⟨rfl, t1, s1⟩
    have T1 : Hid (WT b B w w1) := T0.out.trans t1
    have S1 : Hid (WS b B w1 (l ++ [1])) := s1
    have N1 : Hid (w1.heap[w.heap.size]? = some (.cells es 35 (0, 0))) := t1.other N0.out (by omega) (NoT.of N0.out (by decide))
    have k0 := (cell_of N1.out 0).trans e0
    clear t1 s1 T0 S0 N0 c0
    go_wp2_with fail
    refine wp_region_any (by kernel_rfl) ?_
    refine wpAny_take (i := 0) (v := .pointer (some ⟨b, 0, none⟩)) rfl (by kernel_rfl) (by kernel_rfl) (by kernel_rfl) (fun _ _ _ h => h) (Or.inl ⟨by rfl, fun w' => by go_simp⟩) ?_
    try simp only [Act.put, List.setIfInBounds_toArray, List.set_cons_zero, List.set_cons_succ]
    refine wpAny_ready (rs := [1, 2]) (by kernel_rfl) (by simp) ?_
    refine AllReady.cons rfl (fun K hK => ?_) (AllReady.cons rfl (fun K hK => ?_) AllReady.nil)
    · refine step_load_row 35 (.tmp 3) rfl rfl w.heap.size rfl es (run_loadVar_row _ _ 35 35 es (0, 0) _ N1.out Tryz.underlying35 rfl hsz) ?_
      refine hK _ _ ?_
      try simp only [Act.put, List.setIfInBounds_toArray, List.set_cons_zero, List.set_cons_succ]
      refine wpAny_ready (rs := [2]) (by kernel_rfl) (by simp) ?_
      refine AllReady.cons rfl (fun K hK => ?_) AllReady.nil
      refine step_load_row 35 (.tmp 3) rfl rfl w.heap.size rfl es (run_loadVar_row _ _ 35 35 es (0, 0) _ N1.out Tryz.underlying35 rfl hsz) ?_
      refine hK _ _ ?_
      try simp only [Act.put, List.setIfInBounds_toArray, List.set_cons_zero, List.set_cons_succ]
      refine wpAny_ready (rs := [3]) (by kernel_rfl) (by simp) ?_
      refine AllReady.cons rfl (fun K hK => ?_) AllReady.nil
      refine step_told (.tmp 10) rfl rfl rfl (CT.out _) ?_
      rintro en w2 ⟨rfl, g2⟩
      refine ⟨_, rfl, ?_⟩
      have G2 : Hid (Grew w1 w2) := ((Grew.refl _).drew).trans g2
      have N2 : Hid (w2.heap[w.heap.size]? = some (.cells es 35 (0, 0))) := (G2.out.turn []).other N1.out (by simp)
      clear g2
      refine hK _ _ ?_
      try simp only [Act.put, List.setIfInBounds_toArray, List.set_cons_zero, List.set_cons_succ]
      refine wpAny_take (i := 4) (v := .bool false) rfl (by kernel_rfl) (by kernel_rfl) (by kernel_rfl) (fun _ _ _ h => h) (Or.inl ⟨by rfl, fun w' => by go_simp⟩) ?_
      try simp only [Act.put, List.setIfInBounds_toArray, List.set_cons_zero, List.set_cons_succ]
      refine wpAny_ready (rs := [5]) (by kernel_rfl) (by simp) ?_
      refine AllReady.cons rfl (fun K hK => ?_) AllReady.nil
      refine step_need (.tmp 8) (.tmp 12) rfl rfl rfl rfl (need_no (l := l ++ [1]) (S1.out.grew G2.out)) ?_
      rintro en w3 ⟨⟨p, rfl⟩, h3⟩
      refine Or.inr ⟨_, rfl, ?_⟩
      obtain rfl := h3.symm
      exact ⟨rfl, ⟨p, rfl⟩, T1.out.trans (WT.of_grew G2.out)⟩
    · refine step_load_row 35 (.tmp 3) rfl rfl w.heap.size rfl es (run_loadVar_row _ _ 35 35 es (0, 0) _ N1.out Tryz.underlying35 rfl hsz) ?_
      refine hK _ _ ?_
      try simp only [Act.put, List.setIfInBounds_toArray, List.set_cons_zero, List.set_cons_succ]
      refine wpAny_ready (rs := [1, 3]) (by kernel_rfl) (by simp) ?_
      refine AllReady.cons rfl (fun K hK => ?_) (AllReady.cons rfl (fun K hK => ?_) AllReady.nil)
      · refine step_load_row 35 (.tmp 3) rfl rfl w.heap.size rfl es (run_loadVar_row _ _ 35 35 es (0, 0) _ N1.out Tryz.underlying35 rfl hsz) ?_
        refine hK _ _ ?_
        try simp only [Act.put, List.setIfInBounds_toArray, List.set_cons_zero, List.set_cons_succ]
        refine wpAny_ready (rs := [3]) (by kernel_rfl) (by simp) ?_
        refine AllReady.cons rfl (fun K hK => ?_) AllReady.nil
        refine step_told (.tmp 10) rfl rfl rfl (CT.out _) ?_
        rintro en w2 ⟨rfl, g2⟩
        refine ⟨_, rfl, ?_⟩
        have G2 : Hid (Grew w1 w2) := ((Grew.refl _).drew).trans g2
        have N2 : Hid (w2.heap[w.heap.size]? = some (.cells es 35 (0, 0))) := (G2.out.turn []).other N1.out (by simp)
        clear g2
        refine hK _ _ ?_
        try simp only [Act.put, List.setIfInBounds_toArray, List.set_cons_zero, List.set_cons_succ]
        refine wpAny_take (i := 4) (v := .bool false) rfl (by kernel_rfl) (by kernel_rfl) (by kernel_rfl) (fun _ _ _ h => h) (Or.inl ⟨by rfl, fun w' => by go_simp⟩) ?_
        try simp only [Act.put, List.setIfInBounds_toArray, List.set_cons_zero, List.set_cons_succ]
        refine wpAny_ready (rs := [5]) (by kernel_rfl) (by simp) ?_
        refine AllReady.cons rfl (fun K hK => ?_) AllReady.nil
        refine step_need (.tmp 8) (.tmp 12) rfl rfl rfl rfl (need_no (l := l ++ [1]) (S1.out.grew G2.out)) ?_
        rintro en w3 ⟨⟨p, rfl⟩, h3⟩
        refine Or.inr ⟨_, rfl, ?_⟩
        obtain rfl := h3.symm
        exact ⟨rfl, ⟨p, rfl⟩, T1.out.trans (WT.of_grew G2.out)⟩
      · refine step_told (.tmp 10) rfl rfl rfl (CT.out _) ?_
        rintro en w2 ⟨rfl, g2⟩
        refine ⟨_, rfl, ?_⟩
        have G2 : Hid (Grew w1 w2) := ((Grew.refl _).drew).trans g2
        have N2 : Hid (w2.heap[w.heap.size]? = some (.cells es 35 (0, 0))) := (G2.out.turn []).other N1.out (by simp)
        clear g2
        refine hK _ _ ?_
        try simp only [Act.put, List.setIfInBounds_toArray, List.set_cons_zero, List.set_cons_succ]
        refine wpAny_ready (rs := [1]) (by kernel_rfl) (by simp) ?_
        refine AllReady.cons rfl (fun K hK => ?_) AllReady.nil
        refine step_load_row 35 (.tmp 3) rfl rfl w.heap.size rfl es (run_loadVar_row _ _ 35 35 es (0, 0) _ N2.out Tryz.underlying35 rfl hsz) ?_
        refine hK _ _ ?_
        try simp only [Act.put, List.setIfInBounds_toArray, List.set_cons_zero, List.set_cons_succ]
        refine wpAny_take (i := 4) (v := .bool false) rfl (by kernel_rfl) (by kernel_rfl) (by kernel_rfl) (fun _ _ _ h => h) (Or.inl ⟨by rfl, fun w' => by go_simp⟩) ?_
        try simp only [Act.put, List.setIfInBounds_toArray, List.set_cons_zero, List.set_cons_succ]
        refine wpAny_ready (rs := [5]) (by kernel_rfl) (by simp) ?_
        refine AllReady.cons rfl (fun K hK => ?_) AllReady.nil
        refine step_need (.tmp 8) (.tmp 12) rfl rfl rfl rfl (need_no (l := l ++ [1]) (S1.out.grew G2.out)) ?_
        rintro en w3 ⟨⟨p, rfl⟩, h3⟩
        refine Or.inr ⟨_, rfl, ?_⟩
        obtain rfl := h3.symm
        exact ⟨rfl, ⟨p, rfl⟩, T1.out.trans (WT.of_grew G2.out)⟩
  | true =>
    unfold extP
    rw [if_pos rfl]
    cases R with
    | error e =>
      go_enter Tryz.func32, Tryz.ntmps32
      go_wp2_with fail
      refine (W2.okc (CK.out _ S0.out) rfl).mono ?_
      rintro en w1 ⟨rfl, t1, s1⟩
      have T1 : Hid (WT b B w w1) := T0.out.trans t1
      have S1 : Hid (WS b B w1 (l ++ [1])) := s1
      have N1 : Hid (w1.heap[w.heap.size]? = some (.cells es 35 (0, 0))) := t1.other N0.out (by omega) (NoT.of N0.out (by decide))
      have k0 := (cell_of N1.out 0).trans e0
      clear t1 s1 T0 S0 N0 c0
      go_wp2_with fail
      refine wp_region_any (by kernel_rfl) ?_
      refine wpAny_take (i := 0) (v := .pointer (some ⟨b, 0, none⟩)) rfl (by kernel_rfl) (by kernel_rfl) (by kernel_rfl) (fun _ _ _ h => h) (Or.inl ⟨by rfl, fun w' => by go_simp⟩) ?_
      try simp only [Act.put, List.setIfInBounds_toArray, List.set_cons_zero, List.set_cons_succ]
      refine wpAny_ready (rs := [1, 2]) (by kernel_rfl) (by simp) ?_
      refine AllReady.cons rfl (fun K hK => ?_) (AllReady.cons rfl (fun K hK => ?_) AllReady.nil)
      · refine step_load_row 35 (.tmp 3) rfl rfl w.heap.size rfl es (run_loadVar_row _ _ 35 35 es (0, 0) _ N1.out Tryz.underlying35 rfl hsz) ?_
        refine hK _ _ ?_
        try simp only [Act.put, List.setIfInBounds_toArray, List.set_cons_zero, List.set_cons_succ]
        refine wpAny_ready (rs := [2]) (by kernel_rfl) (by simp) ?_
        refine AllReady.cons rfl (fun K hK => ?_) AllReady.nil
        refine step_load_row 35 (.tmp 3) rfl rfl w.heap.size rfl es (run_loadVar_row _ _ 35 35 es (0, 0) _ N1.out Tryz.underlying35 rfl hsz) ?_
        refine hK _ _ ?_
        try simp only [Act.put, List.setIfInBounds_toArray, List.set_cons_zero, List.set_cons_succ]
        refine wpAny_ready (rs := [3]) (by kernel_rfl) (by simp) ?_
        refine AllReady.cons rfl (fun K hK => ?_) AllReady.nil
        refine step_told (.tmp 10) rfl rfl rfl (CT.out _) ?_
        rintro en w2 ⟨rfl, g2⟩
        refine ⟨_, rfl, ?_⟩
        have G2 : Hid (Grew w1 w2) := ((Grew.refl _).drew).trans g2
        have N2 : Hid (w2.heap[w.heap.size]? = some (.cells es 35 (0, 0))) := (G2.out.turn []).other N1.out (by simp)
        clear g2
        refine hK _ _ ?_
        try simp only [Act.put, List.setIfInBounds_toArray, List.set_cons_zero, List.set_cons_succ]
        refine wpAny_take (i := 4) (v := .bool true) rfl (by kernel_rfl) (by kernel_rfl) (by kernel_rfl) (fun _ _ _ h => h) (Or.inl ⟨by rfl, fun w' => by go_simp⟩) ?_
        try simp only [Act.put, List.setIfInBounds_toArray, List.set_cons_zero, List.set_cons_succ]
        refine wpAny_ready (rs := [5]) (by kernel_rfl) (by simp) ?_
        refine AllReady.cons rfl (fun K hK => ?_) AllReady.nil
        refine step_need (.tmp 8) (.tmp 12) rfl rfl rfl rfl (need_yes (l := l ++ [1]) (S1.out.grew G2.out)) ?_
        rintro en w3 ⟨rfl, h3⟩
        refine Or.inl ⟨_, rfl, ?_⟩
        obtain rfl := h3.symm
        clear h3
        refine hK _ _ ?_
        try simp only [Act.put, List.setIfInBounds_toArray, List.set_cons_zero, List.set_cons_succ]
        refine wpAny_done (by kernel_rfl) ?_ _
        obtain ⟨T3, S3, N3⟩ : Hid (WT b B w w2) ∧ Hid (WS b B w2 (l ++ [1])) ∧ Hid (w2.heap[w.heap.size]? = some (.cells es 35 (0, 0))) := ⟨T1.out.trans (WT.of_grew G2.out), S1.out.grew G2.out, N2.out⟩
        have n0 := (cell_of N3.out 0).trans e0
        have n2 := (cell_of N3.out 2).trans e2
        have n3 := (cell_of N3.out 3).trans e3
        have n4 := (cell_of N3.out 4).trans e4
        have n5 := (cell_of N3.out 5).trans e5
        have n6 := (cell_of N3.out 6).trans e6
        have n7 := (cell_of N3.out 7).trans e7
        have n8 := (cell_of N3.out 8).trans e8
        go_wp2_with fail
        refine (W2.erc (CP.out _ S3.out) rfl).mono ?_
        rintro en w4 ⟨⟨p, rfl⟩, t4⟩
        have T4 : Hid (WT b B w w4) := T3.out.trans t4
        clear t4
        go_wp2_with fail
        exact ⟨rfl, ⟨p, rfl⟩, T4.out⟩
      · refine step_load_row 35 (.tmp 3) rfl rfl w.heap.size rfl es (run_loadVar_row _ _ 35 35 es (0, 0) _ N1.out Tryz.underlying35 rfl hsz) ?_
        refine hK _ _ ?_
        try simp only [Act.put, List.setIfInBounds_toArray, List.set_cons_zero, List.set_cons_succ]
        refine wpAny_ready (rs := [1, 3]) (by kernel_rfl) (by simp) ?_
        refine AllReady.cons rfl (fun K hK => ?_) (AllReady.cons rfl (fun K hK => ?_) AllReady.nil)
        · refine step_load_row 35 (.tmp 3) rfl rfl w.heap.size rfl es (run_loadVar_row _ _ 35 35 es (0, 0) _ N1.out Tryz.underlying35 rfl hsz) ?_
          refine hK _ _ ?_
          try simp only [Act.put, List.setIfInBounds_toArray, List.set_cons_zero, List.set_cons_succ]
          refine wpAny_ready (rs := [3]) (by kernel_rfl) (by simp) ?_
          refine AllReady.cons rfl (fun K hK => ?_) AllReady.nil
          refine step_told (.tmp 10) rfl rfl rfl (CT.out _) ?_
          rintro en w2 ⟨rfl, g2⟩
          refine ⟨_, rfl, ?_⟩
          have G2 : Hid (Grew w1 w2) := ((Grew.refl _).drew).trans g2
          have N2 : Hid (w2.heap[w.heap.size]? = some (.cells es 35 (0, 0))) := (G2.out.turn []).other N1.out (by simp)
          clear g2
          refine hK _ _ ?_
          try simp only [Act.put, List.setIfInBounds_toArray, List.set_cons_zero, List.set_cons_succ]
          refine wpAny_take (i := 4) (v := .bool true) rfl (by kernel_rfl) (by kernel_rfl) (by kernel_rfl) (fun _ _ _ h => h) (Or.inl ⟨by rfl, fun w' => by go_simp⟩) ?_
          try simp only [Act.put, List.setIfInBounds_toArray, List.set_cons_zero, List.set_cons_succ]
          refine wpAny_ready (rs := [5]) (by kernel_rfl) (by simp) ?_
          refine AllReady.cons rfl (fun K hK => ?_) AllReady.nil
          refine step_need (.tmp 8) (.tmp 12) rfl rfl rfl rfl (need_yes (l := l ++ [1]) (S1.out.grew G2.out)) ?_
          rintro en w3 ⟨rfl, h3⟩
          refine Or.inl ⟨_, rfl, ?_⟩
          obtain rfl := h3.symm
          clear h3
          refine hK _ _ ?_
          try simp only [Act.put, List.setIfInBounds_toArray, List.set_cons_zero, List.set_cons_succ]
          refine wpAny_done (by kernel_rfl) ?_ _
          obtain ⟨T3, S3, N3⟩ : Hid (WT b B w w2) ∧ Hid (WS b B w2 (l ++ [1])) ∧ Hid (w2.heap[w.heap.size]? = some (.cells es 35 (0, 0))) := ⟨T1.out.trans (WT.of_grew G2.out), S1.out.grew G2.out, N2.out⟩
          have n0 := (cell_of N3.out 0).trans e0
          have n2 := (cell_of N3.out 2).trans e2
          have n3 := (cell_of N3.out 3).trans e3
          have n4 := (cell_of N3.out 4).trans e4
          have n5 := (cell_of N3.out 5).trans e5
          have n6 := (cell_of N3.out 6).trans e6
          have n7 := (cell_of N3.out 7).trans e7
          have n8 := (cell_of N3.out 8).trans e8
          go_wp2_with fail
          refine (W2.erc (CP.out _ S3.out) rfl).mono ?_
          rintro en w4 ⟨⟨p, rfl⟩, t4⟩
          have T4 : Hid (WT b B w w4) := T3.out.trans t4
          clear t4
          go_wp2_with fail
          exact ⟨rfl, ⟨p, rfl⟩, T4.out⟩
        · refine step_told (.tmp 10) rfl rfl rfl (CT.out _) ?_
          rintro en w2 ⟨rfl, g2⟩
          refine ⟨_, rfl, ?_⟩
          have G2 : Hid (Grew w1 w2) := ((Grew.refl _).drew).trans g2
          have N2 : Hid (w2.heap[w.heap.size]? = some (.cells es 35 (0, 0))) := (G2.out.turn []).other N1.out (by simp)
          clear g2
          refine hK _ _ ?_
          try simp only [Act.put, List.setIfInBounds_toArray, List.set_cons_zero, List.set_cons_succ]
          refine wpAny_ready (rs := [1]) (by kernel_rfl) (by simp) ?_
          refine AllReady.cons rfl (fun K hK => ?_) AllReady.nil
          refine step_load_row 35 (.tmp 3) rfl rfl w.heap.size rfl es (run_loadVar_row _ _ 35 35 es (0, 0) _ N2.out Tryz.underlying35 rfl hsz) ?_
          refine hK _ _ ?_
          try simp only [Act.put, List.setIfInBounds_toArray, List.set_cons_zero, List.set_cons_succ]
          refine wpAny_take (i := 4) (v := .bool true) rfl (by kernel_rfl) (by kernel_rfl) (by kernel_rfl) (fun _ _ _ h => h) (Or.inl ⟨by rfl, fun w' => by go_simp⟩) ?_
          try simp only [Act.put, List.setIfInBounds_toArray, List.set_cons_zero, List.set_cons_succ]
          refine wpAny_ready (rs := [5]) (by kernel_rfl) (by simp) ?_
          refine AllReady.cons rfl (fun K hK => ?_) AllReady.nil
          refine step_need (.tmp 8) (.tmp 12) rfl rfl rfl rfl (need_yes (l := l ++ [1]) (S1.out.grew G2.out)) ?_
          rintro en w3 ⟨rfl, h3⟩
          refine Or.inl ⟨_, rfl, ?_⟩
          obtain rfl := h3.symm
          clear h3
          refine hK _ _ ?_
          try simp only [Act.put, List.setIfInBounds_toArray, List.set_cons_zero, List.set_cons_succ]
          refine wpAny_done (by kernel_rfl) ?_ _
          obtain ⟨T3, S3, N3⟩ : Hid (WT b B w w2) ∧ Hid (WS b B w2 (l ++ [1])) ∧ Hid (w2.heap[w.heap.size]? = some (.cells es 35 (0, 0))) := ⟨T1.out.trans (WT.of_grew G2.out), S1.out.grew G2.out, N2.out⟩
          have n0 := (cell_of N3.out 0).trans e0
          have n2 := (cell_of N3.out 2).trans e2
          have n3 := (cell_of N3.out 3).trans e3
          have n4 := (cell_of N3.out 4).trans e4
          have n5 := (cell_of N3.out 5).trans e5
          have n6 := (cell_of N3.out 6).trans e6
          have n7 := (cell_of N3.out 7).trans e7
          have n8 := (cell_of N3.out 8).trans e8
          go_wp2_with fail
          refine (W2.erc (CP.out _ S3.out) rfl).mono ?_
          rintro en w4 ⟨⟨p, rfl⟩, t4⟩
          have T4 : Hid (WT b B w w4) := T3.out.trans t4
          clear t4
          go_wp2_with fail
          exact ⟨rfl, ⟨p, rfl⟩, T4.out⟩
    | ok m =>
      go_enter Tryz.func32, Tryz.ntmps32
      go_wp2_with fail
      refine (W2.okc (CK.out _ S0.out) rfl).mono ?_
      rintro en w1 ⟨rfl, t1, s1⟩
      have T1 : Hid (WT b B w w1) := T0.out.trans t1
      have S1 : Hid (WS b B w1 (l ++ [1])) := s1
      have N1 : Hid (w1.heap[w.heap.size]? = some (.cells es 35 (0, 0))) := t1.other N0.out (by omega) (NoT.of N0.out (by decide))
      have k0 := (cell_of N1.out 0).trans e0
      clear t1 s1 T0 S0 N0 c0
      go_wp2_with fail
      refine wp_region_any (by kernel_rfl) ?_
      refine wpAny_take (i := 0) (v := .pointer (some ⟨b, 0, none⟩)) rfl (by kernel_rfl) (by kernel_rfl) (by kernel_rfl) (fun _ _ _ h => h) (Or.inl ⟨by rfl, fun w' => by go_simp⟩) ?_
      try simp only [Act.put, List.setIfInBounds_toArray, List.set_cons_zero, List.set_cons_succ]
      refine wpAny_ready (rs := [1, 2]) (by kernel_rfl) (by simp) ?_
      refine AllReady.cons rfl (fun K hK => ?_) (AllReady.cons rfl (fun K hK => ?_) AllReady.nil)
      · refine step_load_row 35 (.tmp 3) rfl rfl w.heap.size rfl es (run_loadVar_row _ _ 35 35 es (0, 0) _ N1.out Tryz.underlying35 rfl hsz) ?_
        refine hK _ _ ?_
        try simp only [Act.put, List.setIfInBounds_toArray, List.set_cons_zero, List.set_cons_succ]
        refine wpAny_ready (rs := [2]) (by kernel_rfl) (by simp) ?_
        refine AllReady.cons rfl (fun K hK => ?_) AllReady.nil
        refine step_load_row 35 (.tmp 3) rfl rfl w.heap.size rfl es (run_loadVar_row _ _ 35 35 es (0, 0) _ N1.out Tryz.underlying35 rfl hsz) ?_
        refine hK _ _ ?_
        try simp only [Act.put, List.setIfInBounds_toArray, List.set_cons_zero, List.set_cons_succ]
        refine wpAny_ready (rs := [3]) (by kernel_rfl) (by simp) ?_
        refine AllReady.cons rfl (fun K hK => ?_) AllReady.nil
        refine step_told (.tmp 10) rfl rfl rfl (CT.out _) ?_
        rintro en w2 ⟨rfl, g2⟩
        refine ⟨_, rfl, ?_⟩
        have G2 : Hid (Grew w1 w2) := ((Grew.refl _).drew).trans g2
        have N2 : Hid (w2.heap[w.heap.size]? = some (.cells es 35 (0, 0))) := (G2.out.turn []).other N1.out (by simp)
        clear g2
        refine hK _ _ ?_
        try simp only [Act.put, List.setIfInBounds_toArray, List.set_cons_zero, List.set_cons_succ]
        refine wpAny_take (i := 4) (v := .bool true) rfl (by kernel_rfl) (by kernel_rfl) (by kernel_rfl) (fun _ _ _ h => h) (Or.inl ⟨by rfl, fun w' => by go_simp⟩) ?_
        try simp only [Act.put, List.setIfInBounds_toArray, List.set_cons_zero, List.set_cons_succ]
        refine wpAny_ready (rs := [5]) (by kernel_rfl) (by simp) ?_
        refine AllReady.cons rfl (fun K hK => ?_) AllReady.nil
        refine step_need (.tmp 8) (.tmp 12) rfl rfl rfl rfl (need_yes (l := l ++ [1]) (S1.out.grew G2.out)) ?_
        rintro en w3 ⟨rfl, h3⟩
        refine Or.inl ⟨_, rfl, ?_⟩
        obtain rfl := h3.symm
        clear h3
        refine hK _ _ ?_
        try simp only [Act.put, List.setIfInBounds_toArray, List.set_cons_zero, List.set_cons_succ]
        refine wpAny_done (by kernel_rfl) ?_ _
        obtain ⟨T3, S3, N3⟩ : Hid (WT b B w w2) ∧ Hid (WS b B w2 (l ++ [1])) ∧ Hid (w2.heap[w.heap.size]? = some (.cells es 35 (0, 0))) := ⟨T1.out.trans (WT.of_grew G2.out), S1.out.grew G2.out, N2.out⟩
        have n0 := (cell_of N3.out 0).trans e0
        have n2 := (cell_of N3.out 2).trans e2
        have n3 := (cell_of N3.out 3).trans e3
        have n4 := (cell_of N3.out 4).trans e4
        have n5 := (cell_of N3.out 5).trans e5
        have n6 := (cell_of N3.out 6).trans e6
        have n7 := (cell_of N3.out 7).trans e7
        have n8 := (cell_of N3.out 8).trans e8
        go_wp2_with fail
        refine (W2.okc (CP.out _ S3.out) rfl).mono ?_
        rintro en w4 ⟨rfl, t4, s4⟩
        have T4 : Hid (WT b B w w4) := T3.out.trans t4
        have S4 : Hid (WS b B w4 ((l ++ [1]) ++ m)) := s4
        clear t4 s4
        go_wp2_with fail
        go_end0
        exact ⟨rfl, T4.out, by have := S4.out; simpa [List.append_assoc] using this⟩
      · refine step_load_row 35 (.tmp 3) rfl rfl w.heap.size rfl es (run_loadVar_row _ _ 35 35 es (0, 0) _ N1.out Tryz.underlying35 rfl hsz) ?_
        refine hK _ _ ?_
        try simp only [Act.put, List.setIfInBounds_toArray, List.set_cons_zero, List.set_cons_succ]
        refine wpAny_ready (rs := [1, 3]) (by kernel_rfl) (by simp) ?_
        refine AllReady.cons rfl (fun K hK => ?_) (AllReady.cons rfl (fun K hK => ?_) AllReady.nil)
        · refine step_load_row 35 (.tmp 3) rfl rfl w.heap.size rfl es (run_loadVar_row _ _ 35 35 es (0, 0) _ N1.out Tryz.underlying35 rfl hsz) ?_
          refine hK _ _ ?_
          try simp only [Act.put, List.setIfInBounds_toArray, List.set_cons_zero, List.set_cons_succ]
          refine wpAny_ready (rs := [3]) (by kernel_rfl) (by simp) ?_
          refine AllReady.cons rfl (fun K hK => ?_) AllReady.nil
          refine step_told (.tmp 10) rfl rfl rfl (CT.out _) ?_
          rintro en w2 ⟨rfl, g2⟩
          refine ⟨_, rfl, ?_⟩
          have G2 : Hid (Grew w1 w2) := ((Grew.refl _).drew).trans g2
          have N2 : Hid (w2.heap[w.heap.size]? = some (.cells es 35 (0, 0))) := (G2.out.turn []).other N1.out (by simp)
          clear g2
          refine hK _ _ ?_
          try simp only [Act.put, List.setIfInBounds_toArray, List.set_cons_zero, List.set_cons_succ]
          refine wpAny_take (i := 4) (v := .bool true) rfl (by kernel_rfl) (by kernel_rfl) (by kernel_rfl) (fun _ _ _ h => h) (Or.inl ⟨by rfl, fun w' => by go_simp⟩) ?_
          try simp only [Act.put, List.setIfInBounds_toArray, List.set_cons_zero, List.set_cons_succ]
          refine wpAny_ready (rs := [5]) (by kernel_rfl) (by simp) ?_
          refine AllReady.cons rfl (fun K hK => ?_) AllReady.nil
          refine step_need (.tmp 8) (.tmp 12) rfl rfl rfl rfl (need_yes (l := l ++ [1]) (S1.out.grew G2.out)) ?_
          rintro en w3 ⟨rfl, h3⟩
          refine Or.inl ⟨_, rfl, ?_⟩
          obtain rfl := h3.symm
          clear h3
          refine hK _ _ ?_
          try simp only [Act.put, List.setIfInBounds_toArray, List.set_cons_zero, List.set_cons_succ]
          refine wpAny_done (by kernel_rfl) ?_ _
          obtain ⟨T3, S3, N3⟩ : Hid (WT b B w w2) ∧ Hid (WS b B w2 (l ++ [1])) ∧ Hid (w2.heap[w.heap.size]? = some (.cells es 35 (0, 0))) := ⟨T1.out.trans (WT.of_grew G2.out), S1.out.grew G2.out, N2.out⟩
          have n0 := (cell_of N3.out 0).trans e0
          have n2 := (cell_of N3.out 2).trans e2
          have n3 := (cell_of N3.out 3).trans e3
          have n4 := (cell_of N3.out 4).trans e4
          have n5 := (cell_of N3.out 5).trans e5
          have n6 := (cell_of N3.out 6).trans e6
          have n7 := (cell_of N3.out 7).trans e7
          have n8 := (cell_of N3.out 8).trans e8
          go_wp2_with fail
          refine (W2.okc (CP.out _ S3.out) rfl).mono ?_
          rintro en w4 ⟨rfl, t4, s4⟩
          have T4 : Hid (WT b B w w4) := T3.out.trans t4
          have S4 : Hid (WS b B w4 ((l ++ [1]) ++ m)) := s4
          clear t4 s4
          go_wp2_with fail
          go_end0
          exact ⟨rfl, T4.out, by have := S4.out; simpa [List.append_assoc] using this⟩
        · refine step_told (.tmp 10) rfl rfl rfl (CT.out _) ?_
          rintro en w2 ⟨rfl, g2⟩
          refine ⟨_, rfl, ?_⟩
          have G2 : Hid (Grew w1 w2) := ((Grew.refl _).drew).trans g2
          have N2 : Hid (w2.heap[w.heap.size]? = some (.cells es 35 (0, 0))) := (G2.out.turn []).other N1.out (by simp)
          clear g2
          refine hK _ _ ?_
          try simp only [Act.put, List.setIfInBounds_toArray, List.set_cons_zero, List.set_cons_succ]
          refine wpAny_ready (rs := [1]) (by kernel_rfl) (by simp) ?_
          refine AllReady.cons rfl (fun K hK => ?_) AllReady.nil
          refine step_load_row 35 (.tmp 3) rfl rfl w.heap.size rfl es (run_loadVar_row _ _ 35 35 es (0, 0) _ N2.out Tryz.underlying35 rfl hsz) ?_
          refine hK _ _ ?_
          try simp only [Act.put, List.setIfInBounds_toArray, List.set_cons_zero, List.set_cons_succ]
          refine wpAny_take (i := 4) (v := .bool true) rfl (by kernel_rfl) (by kernel_rfl) (by kernel_rfl) (fun _ _ _ h => h) (Or.inl ⟨by rfl, fun w' => by go_simp⟩) ?_
          try simp only [Act.put, List.setIfInBounds_toArray, List.set_cons_zero, List.set_cons_succ]
          refine wpAny_ready (rs := [5]) (by kernel_rfl) (by simp) ?_
          refine AllReady.cons rfl (fun K hK => ?_) AllReady.nil
          refine step_need (.tmp 8) (.tmp 12) rfl rfl rfl rfl (need_yes (l := l ++ [1]) (S1.out.grew G2.out)) ?_
          rintro en w3 ⟨rfl, h3⟩
          refine Or.inl ⟨_, rfl, ?_⟩
          obtain rfl := h3.symm
          clear h3
          refine hK _ _ ?_
          try simp only [Act.put, List.setIfInBounds_toArray, List.set_cons_zero, List.set_cons_succ]
          refine wpAny_done (by kernel_rfl) ?_ _
          obtain ⟨T3, S3, N3⟩ : Hid (WT b B w w2) ∧ Hid (WS b B w2 (l ++ [1])) ∧ Hid (w2.heap[w.heap.size]? = some (.cells es 35 (0, 0))) := ⟨T1.out.trans (WT.of_grew G2.out), S1.out.grew G2.out, N2.out⟩
          have n0 := (cell_of N3.out 0).trans e0
          have n2 := (cell_of N3.out 2).trans e2
          have n3 := (cell_of N3.out 3).trans e3
          have n4 := (cell_of N3.out 4).trans e4
          have n5 := (cell_of N3.out 5).trans e5
          have n6 := (cell_of N3.out 6).trans e6
          have n7 := (cell_of N3.out 7).trans e7
          have n8 := (cell_of N3.out 8).trans e8
          go_wp2_with fail
          refine (W2.okc (CP.out _ S3.out) rfl).mono ?_
          rintro en w4 ⟨rfl, t4, s4⟩
          have T4 : Hid (WT b B w w4) := T3.out.trans t4
          have S4 : Hid (WS b B w4 ((l ++ [1]) ++ m)) := s4
          clear t4 s4
          go_wp2_with fail
          go_end0
          exact ⟨rfl, T4.out, by have := S4.out; simpa [List.append_assoc] using this⟩
set_option maxRecDepth 100000 in
set_option maxHeartbeats 2000000 in
theorem extern2_2 {b B : Nat} {w : World} {l : List Int} (h : WS b B w l) (k ty tn th tp tq mp mq gn gh : Int) (tz tw tm mw mm gz gm : Bool) (hp0 : 0 ≤ mp) (hp1 : mp ≤ 18446744073709551615) (hq0 : 0 ≤ mq) (hq1 : mq ≤ 18446744073709551615) (hl : l.length ≤ 17592186030000) :
    Calls Tryz.prog 32 #[.pointer (some ⟨b, 0, none⟩), .agg #[.int .i64 2, .int .i64 ty, .int .i64 tn, .bool tz, .int .i64 th, .bool tw, .int .u64 tp, .int .u64 tq, .bool tm, .bool mw, .int .u64 mp, .int .u64 mq, .bool mm, .int .i64 gn, .bool gz, .int .i64 gh, .bool gm]] w (W2 b B w l (extP 2 ((ty == 0) && ((zT tn tz th tw tp tq tm) && (zG gn gz gh gm))) (limW mw mp mq mm))) := by
  have CT : Hid (∀ W : World, Calls Tryz.prog 51 #[.agg #[.int .i64 2, .int .i64 ty, .int .i64 tn, .bool tz, .int .i64 th, .bool tw, .int .u64 tp, .int .u64 tq, .bool tm, .bool mw, .int .u64 mp, .int .u64 mq, .bool mm, .int .i64 gn, .bool gz, .int .i64 gh, .bool gm]] W fun en w' => en = .returned (.agg #[.int .i64 2, .int .i64 0, .int .i64 0, .bool false, .int .i64 0, .bool false, .int .u64 0, .int .u64 0, .bool false, .bool mw, .int .u64 mp, .int .u64 mq, .bool mm, .int .i64 0, .bool false, .int .i64 0, .bool false]) ∧ Grew W w') := fun W => told2_any k ty tn th tp tq mp mq gn gh tz tw tm mw mm gz gm W
  have HQ := eqE2 k ty tn th tp tq mp mq gn gh tz tw tm mw mm gz gm
  have CK : Hid (∀ W : World, WS b B W l → Calls Tryz.prog 49 #[.pointer (some ⟨b, 0, none⟩), .int .i64 2] W (W2 b B W l (.ok [2]))) := fun W u => kind2 u 2 (by omega)
  have CP : Hid (∀ W : World, WS b B W (l ++ [2]) → Calls Tryz.prog 54 #[.pointer (some ⟨b, 0, none⟩), .agg #[.bool mw, .int .u64 mp, .int .u64 mq, .bool mm]] W (W2 b B W (l ++ [2]) (limW mw mp mq mm))) := fun W u => limits2 u mw mm mp mq hp0 hp1 hq0 hq1 (by simp; omega)
  obtain ⟨es, hes⟩ : ∃ es : Array Value, es = #[.int .i64 2, .int .i64 ty, .int .i64 tn, .bool tz, .int .i64 th, .bool tw, .int .u64 tp, .int .u64 tq, .bool tm, .bool mw, .int .u64 mp, .int .u64 mq, .bool mm, .int .i64 gn, .bool gz, .int .i64 gh, .bool gm] := ⟨_, rfl⟩
  obtain ⟨ts, hts⟩ : ∃ ts : Array Value, ts = #[.int .i64 2, .int .i64 0, .int .i64 0, .bool false, .int .i64 0, .bool false, .int .u64 0, .int .u64 0, .bool false, .bool mw, .int .u64 mp, .int .u64 mq, .bool mm, .int .i64 0, .bool false, .int .i64 0, .bool false] := ⟨_, rfl⟩
  rw [← hes, ← hts] at CT HQ
  rw [← hes]
  have hsz : (Tryz.prog.info? 35).map (·.size) = some es.size := by rw [hes]; kernel_rfl
  have e0 : es[0]? = some (.int .i64 2) := by rw [hes]; rfl
  have e9 : es[9]? = some (.bool mw) := by rw [hes]; rfl
  have e10 : es[10]? = some (.int .u64 mp) := by rw [hes]; rfl
  have e11 : es[11]? = some (.int .u64 mq) := by rw [hes]; rfl
  have e12 : es[12]? = some (.bool mm) := by rw [hes]; rfl
  generalize ((ty == 0) && ((zT tn tz th tw tp tq tm) && (zG gn gz gh gm))) = bk at *
  generalize hR : limW mw mp mq mm = R at *
  have S0 : Hid (WS b B (w.alloc (.cells es 35)) l) := h.grew ((Grew.refl w).alloc _)
  have T0 : Hid (WT b B w (w.alloc (.cells es 35))) := WT.of_grew ((Grew.refl w).alloc _)
  have N0 : Hid ((w.alloc (.cells es 35)).heap[w.heap.size]? = some (.cells es 35 (0, 0))) := heap_alloc_last _ _
  have c0 := (cell_of N0.out 0).trans e0
  have hb : b < w.heap.size := h.blt
  clear h hes hts hR
  cases bk with
  | false =>
    unfold extP
    rw [if_neg (by simp)]
    go_enter Tryz.func32, Tryz.ntmps32
    go_wp2_with fail
    refine (W2.okc (CK.out _ S0.out) rfl).mono ?_
    rintro en w1 ⟨rfl, t1, s1⟩
    have T1 : Hid (WT b B w w1) := T0.out.trans t1
    have S1 : Hid (WS b B w1 (l ++ [2])) := s1
    have N1 : Hid (w1.heap[w.heap.size]? = some (.cells es 35 (0, 0))) := t1.other N0.out (by omega) (NoT.of N0.out (by decide))
    have k0 := (cell_of N1.out 0).trans e0
    clear t1 s1 T0 S0 N0 c0
    go_wp2_with fail
    refine wp_region_any (by kernel_rfl) ?_
    refine wpAny_take (i := 0) (v := .pointer (some ⟨b, 0, none⟩)) rfl (by kernel_rfl) (by kernel_rfl) (by kernel_rfl) (fun _ _ _ h => h) (Or.inl ⟨by rfl, fun w' => by go_simp⟩) ?_
    try simp only [Act.put, List.setIfInBounds_toArray, List.set_cons_zero, List.set_cons_succ]
    refine wpAny_ready (rs := [1, 2]) (by kernel_rfl) (by simp) ?_
    refine AllReady.cons rfl (fun K hK => ?_) (AllReady.cons rfl (fun K hK => ?_) AllReady.nil)
    · refine step_load_row 35 (.tmp 3) rfl rfl w.heap.size rfl es (run_loadVar_row _ _ 35 35 es (0, 0) _ N1.out Tryz.underlying35 rfl hsz) ?_
      refine hK _ _ ?_
      try simp only [Act.put, List.setIfInBounds_toArray, List.set_cons_zero, List.set_cons_succ]
      refine wpAny_ready (rs := [2]) (by kernel_rfl) (by simp) ?_
      refine AllReady.cons rfl (fun K hK => ?_) AllReady.nil
      refine step_load_row 35 (.tmp 3) rfl rfl w.heap.size rfl es (run_loadVar_row _ _ 35 35 es (0, 0) _ N1.out Tryz.underlying35 rfl hsz) ?_
      refine hK _ _ ?_
      try simp only [Act.put, List.setIfInBounds_toArray, List.set_cons_zero, List.set_cons_succ]
      refine wpAny_ready (rs := [3]) (by kernel_rfl) (by simp) ?_
      refine AllReady.cons rfl (fun K hK => ?_) AllReady.nil
      refine step_told (.tmp 10) rfl rfl rfl (CT.out _) ?_
      rintro en w2 ⟨rfl, g2⟩
      refine ⟨_, rfl, ?_⟩
      have G2 : Hid (Grew w1 w2) := ((Grew.refl _).drew).trans g2
      have N2 : Hid (w2.heap[w.heap.size]? = some (.cells es 35 (0, 0))) := (G2.out.turn []).other N1.out (by simp)
      clear g2
      refine hK _ _ ?_
      try simp only [Act.put, List.setIfInBounds_toArray, List.set_cons_zero, List.set_cons_succ]
      refine wpAny_take (i := 4) (v := .bool false) rfl (by kernel_rfl) (by kernel_rfl) (by kernel_rfl) (fun _ _ _ h => h) (Or.inl ⟨by rfl, fun w' => by go_simp⟩) ?_
      try simp only [Act.put, List.setIfInBounds_toArray, List.set_cons_zero, List.set_cons_succ]
      refine wpAny_ready (rs := [5]) (by kernel_rfl) (by simp) ?_
      refine AllReady.cons rfl (fun K hK => ?_) AllReady.nil
      refine step_need (.tmp 8) (.tmp 12) rfl rfl rfl rfl (need_no (l := l ++ [2]) (S1.out.grew G2.out)) ?_
      rintro en w3 ⟨⟨p, rfl⟩, h3⟩
      refine Or.inr ⟨_, rfl, ?_⟩
      obtain rfl := h3.symm
      exact ⟨rfl, ⟨p, rfl⟩, T1.out.trans (WT.of_grew G2.out)⟩
    · refine step_load_row 35 (.tmp 3) rfl rfl w.heap.size rfl es (run_loadVar_row _ _ 35 35 es (0, 0) _ N1.out Tryz.underlying35 rfl hsz) ?_
      refine hK _ _ ?_
      try simp only [Act.put, List.setIfInBounds_toArray, List.set_cons_zero, List.set_cons_succ]
      refine wpAny_ready (rs := [1, 3]) (by kernel_rfl) (by simp) ?_
      refine AllReady.cons rfl (fun K hK => ?_) (AllReady.cons rfl (fun K hK => ?_) AllReady.nil)
      · refine step_load_row 35 (.tmp 3) rfl rfl w.heap.size rfl es (run_loadVar_row _ _ 35 35 es (0, 0) _ N1.out Tryz.underlying35 rfl hsz) ?_
        refine hK _ _ ?_
        try simp only [Act.put, List.setIfInBounds_toArray, List.set_cons_zero, List.set_cons_succ]
        refine wpAny_ready (rs := [3]) (by kernel_rfl) (by simp) ?_
        refine AllReady.cons rfl (fun K hK => ?_) AllReady.nil
        refine step_told (.tmp 10) rfl rfl rfl (CT.out _) ?_
        rintro en w2 ⟨rfl, g2⟩
        refine ⟨_, rfl, ?_⟩
        have G2 : Hid (Grew w1 w2) := ((Grew.refl _).drew).trans g2
        have N2 : Hid (w2.heap[w.heap.size]? = some (.cells es 35 (0, 0))) := (G2.out.turn []).other N1.out (by simp)
        clear g2
        refine hK _ _ ?_
        try simp only [Act.put, List.setIfInBounds_toArray, List.set_cons_zero, List.set_cons_succ]
        refine wpAny_take (i := 4) (v := .bool false) rfl (by kernel_rfl) (by kernel_rfl) (by kernel_rfl) (fun _ _ _ h => h) (Or.inl ⟨by rfl, fun w' => by go_simp⟩) ?_
        try simp only [Act.put, List.setIfInBounds_toArray, List.set_cons_zero, List.set_cons_succ]
        refine wpAny_ready (rs := [5]) (by kernel_rfl) (by simp) ?_
        refine AllReady.cons rfl (fun K hK => ?_) AllReady.nil
        refine step_need (.tmp 8) (.tmp 12) rfl rfl rfl rfl (need_no (l := l ++ [2]) (S1.out.grew G2.out)) ?_
        rintro en w3 ⟨⟨p, rfl⟩, h3⟩
        refine Or.inr ⟨_, rfl, ?_⟩
        obtain rfl := h3.symm
        exact ⟨rfl, ⟨p, rfl⟩, T1.out.trans (WT.of_grew G2.out)⟩
      · refine step_told (.tmp 10) rfl rfl rfl (CT.out _) ?_
        rintro en w2 ⟨rfl, g2⟩
        refine ⟨_, rfl, ?_⟩
        have G2 : Hid (Grew w1 w2) := ((Grew.refl _).drew).trans g2
        have N2 : Hid (w2.heap[w.heap.size]? = some (.cells es 35 (0, 0))) := (G2.out.turn []).other N1.out (by simp)
        clear g2
        refine hK _ _ ?_
        try simp only [Act.put, List.setIfInBounds_toArray, List.set_cons_zero, List.set_cons_succ]
        refine wpAny_ready (rs := [1]) (by kernel_rfl) (by simp) ?_
        refine AllReady.cons rfl (fun K hK => ?_) AllReady.nil
        refine step_load_row 35 (.tmp 3) rfl rfl w.heap.size rfl es (run_loadVar_row _ _ 35 35 es (0, 0) _ N2.out Tryz.underlying35 rfl hsz) ?_
        refine hK _ _ ?_
        try simp only [Act.put, List.setIfInBounds_toArray, List.set_cons_zero, List.set_cons_succ]
        refine wpAny_take (i := 4) (v := .bool false) rfl (by kernel_rfl) (by kernel_rfl) (by kernel_rfl) (fun _ _ _ h => h) (Or.inl ⟨by rfl, fun w' => by go_simp⟩) ?_
        try simp only [Act.put, List.setIfInBounds_toArray, List.set_cons_zero, List.set_cons_succ]
        refine wpAny_ready (rs := [5]) (by kernel_rfl) (by simp) ?_
        refine AllReady.cons rfl (fun K hK => ?_) AllReady.nil
        refine step_need (.tmp 8) (.tmp 12) rfl rfl rfl rfl (need_no (l := l ++ [2]) (S1.out.grew G2.out)) ?_
        rintro en w3 ⟨⟨p, rfl⟩, h3⟩
        refine Or.inr ⟨_, rfl, ?_⟩
        obtain rfl := h3.symm
        exact ⟨rfl, ⟨p, rfl⟩, T1.out.trans (WT.of_grew G2.out)⟩
  | true =>
    unfold extP
    rw [if_pos rfl]
    cases R with
    | error e =>
      go_enter Tryz.func32, Tryz.ntmps32
      go_wp2_with fail
      refine (W2.okc (CK.out _ S0.out) rfl).mono ?_
      rintro en w1 ⟨rfl, t1, s1⟩
      have T1 : Hid (WT b B w w1) := T0.out.trans t1
      have S1 : Hid (WS b B w1 (l ++ [2])) := s1
      have N1 : Hid (w1.heap[w.heap.size]? = some (.cells es 35 (0, 0))) := t1.other N0.out (by omega) (NoT.of N0.out (by decide))
      have k0 := (cell_of N1.out 0).trans e0
      clear t1 s1 T0 S0 N0 c0
      go_wp2_with fail
      refine wp_region_any (by kernel_rfl) ?_
      refine wpAny_take (i := 0) (v := .pointer (some ⟨b, 0, none⟩)) rfl (by kernel_rfl) (by kernel_rfl) (by kernel_rfl) (fun _ _ _ h => h) (Or.inl ⟨by rfl, fun w' => by go_simp⟩) ?_
      try simp only [Act.put, List.setIfInBounds_toArray, List.set_cons_zero, List.set_cons_succ]
      refine wpAny_ready (rs := [1, 2]) (by kernel_rfl) (by simp) ?_
      refine AllReady.cons rfl (fun K hK => ?_) (AllReady.cons rfl (fun K hK => ?_) AllReady.nil)
      · refine step_load_row 35 (.tmp 3) rfl rfl w.heap.size rfl es (run_loadVar_row _ _ 35 35 es (0, 0) _ N1.out Tryz.underlying35 rfl hsz) ?_
        refine hK _ _ ?_
        try simp only [Act.put, List.setIfInBounds_toArray, List.set_cons_zero, List.set_cons_succ]
        refine wpAny_ready (rs := [2]) (by kernel_rfl) (by simp) ?_
        refine AllReady.cons rfl (fun K hK => ?_) AllReady.nil
        refine step_load_row 35 (.tmp 3) rfl rfl w.heap.size rfl es (run_loadVar_row _ _ 35 35 es (0, 0) _ N1.out Tryz.underlying35 rfl hsz) ?_
        refine hK _ _ ?_
        try simp only [Act.put, List.setIfInBounds_toArray, List.set_cons_zero, List.set_cons_succ]
        refine wpAny_ready (rs := [3]) (by kernel_rfl) (by simp) ?_
        refine AllReady.cons rfl (fun K hK => ?_) AllReady.nil
        refine step_told (.tmp 10) rfl rfl rfl (CT.out _) ?_
        rintro en w2 ⟨rfl, g2⟩
        refine ⟨_, rfl, ?_⟩
        have G2 : Hid (Grew w1 w2) := ((Grew.refl _).drew).trans g2
        have N2 : Hid (w2.heap[w.heap.size]? = some (.cells es 35 (0, 0))) := (G2.out.turn []).other N1.out (by simp)
        clear g2
        refine hK _ _ ?_
        try simp only [Act.put, List.setIfInBounds_toArray, List.set_cons_zero, List.set_cons_succ]
        refine wpAny_take (i := 4) (v := .bool true) rfl (by kernel_rfl) (by kernel_rfl) (by kernel_rfl) (fun _ _ _ h => h) (Or.inl ⟨by rfl, fun w' => by go_simp⟩) ?_
        try simp only [Act.put, List.setIfInBounds_toArray, List.set_cons_zero, List.set_cons_succ]
        refine wpAny_ready (rs := [5]) (by kernel_rfl) (by simp) ?_
        refine AllReady.cons rfl (fun K hK => ?_) AllReady.nil
        refine step_need (.tmp 8) (.tmp 12) rfl rfl rfl rfl (need_yes (l := l ++ [2]) (S1.out.grew G2.out)) ?_
        rintro en w3 ⟨rfl, h3⟩
        refine Or.inl ⟨_, rfl, ?_⟩
        obtain rfl := h3.symm
        clear h3
        refine hK _ _ ?_
        try simp only [Act.put, List.setIfInBounds_toArray, List.set_cons_zero, List.set_cons_succ]
        refine wpAny_done (by kernel_rfl) ?_ _
        obtain ⟨T3, S3, N3⟩ : Hid (WT b B w w2) ∧ Hid (WS b B w2 (l ++ [2])) ∧ Hid (w2.heap[w.heap.size]? = some (.cells es 35 (0, 0))) := ⟨T1.out.trans (WT.of_grew G2.out), S1.out.grew G2.out, N2.out⟩
        have n0 := (cell_of N3.out 0).trans e0
        have n9 := (cell_of N3.out 9).trans e9
        have n10 := (cell_of N3.out 10).trans e10
        have n11 := (cell_of N3.out 11).trans e11
        have n12 := (cell_of N3.out 12).trans e12
        go_wp2_with fail
        refine (W2.erc (CP.out _ S3.out) rfl).mono ?_
        rintro en w4 ⟨⟨p, rfl⟩, t4⟩
        have T4 : Hid (WT b B w w4) := T3.out.trans t4
        clear t4
        go_wp2_with fail
        exact ⟨rfl, ⟨p, rfl⟩, T4.out⟩
      · refine step_load_row 35 (.tmp 3) rfl rfl w.heap.size rfl es (run_loadVar_row _ _ 35 35 es (0, 0) _ N1.out Tryz.underlying35 rfl hsz) ?_
        refine hK _ _ ?_
        try simp only [Act.put, List.setIfInBounds_toArray, List.set_cons_zero, List.set_cons_succ]
        refine wpAny_ready (rs := [1, 3]) (by kernel_rfl) (by simp) ?_
        refine AllReady.cons rfl (fun K hK => ?_) (AllReady.cons rfl (fun K hK => ?_) AllReady.nil)
        · refine step_load_row 35 (.tmp 3) rfl rfl w.heap.size rfl es (run_loadVar_row _ _ 35 35 es (0, 0) _ N1.out Tryz.underlying35 rfl hsz) ?_
          refine hK _ _ ?_
          try simp only [Act.put, List.setIfInBounds_toArray, List.set_cons_zero, List.set_cons_succ]
          refine wpAny_ready (rs := [3]) (by kernel_rfl) (by simp) ?_
          refine AllReady.cons rfl (fun K hK => ?_) AllReady.nil
          refine step_told (.tmp 10) rfl rfl rfl (CT.out _) ?_
          rintro en w2 ⟨rfl, g2⟩
          refine ⟨_, rfl, ?_⟩
          have G2 : Hid (Grew w1 w2) := ((Grew.refl _).drew).trans g2
          have N2 : Hid (w2.heap[w.heap.size]? = some (.cells es 35 (0, 0))) := (G2.out.turn []).other N1.out (by simp)
          clear g2
          refine hK _ _ ?_
          try simp only [Act.put, List.setIfInBounds_toArray, List.set_cons_zero, List.set_cons_succ]
          refine wpAny_take (i := 4) (v := .bool true) rfl (by kernel_rfl) (by kernel_rfl) (by kernel_rfl) (fun _ _ _ h => h) (Or.inl ⟨by rfl, fun w' => by go_simp⟩) ?_
          try simp only [Act.put, List.setIfInBounds_toArray, List.set_cons_zero, List.set_cons_succ]
          refine wpAny_ready (rs := [5]) (by kernel_rfl) (by simp) ?_
          refine AllReady.cons rfl (fun K hK => ?_) AllReady.nil
          refine step_need (.tmp 8) (.tmp 12) rfl rfl rfl rfl (need_yes (l := l ++ [2]) (S1.out.grew G2.out)) ?_
          rintro en w3 ⟨rfl, h3⟩
          refine Or.inl ⟨_, rfl, ?_⟩
          obtain rfl := h3.symm
          clear h3
          refine hK _ _ ?_
          try simp only [Act.put, List.setIfInBounds_toArray, List.set_cons_zero, List.set_cons_succ]
          refine wpAny_done (by kernel_rfl) ?_ _
          obtain ⟨T3, S3, N3⟩ : Hid (WT b B w w2) ∧ Hid (WS b B w2 (l ++ [2])) ∧ Hid (w2.heap[w.heap.size]? = some (.cells es 35 (0, 0))) := ⟨T1.out.trans (WT.of_grew G2.out), S1.out.grew G2.out, N2.out⟩
          have n0 := (cell_of N3.out 0).trans e0
          have n9 := (cell_of N3.out 9).trans e9
          have n10 := (cell_of N3.out 10).trans e10
          have n11 := (cell_of N3.out 11).trans e11
          have n12 := (cell_of N3.out 12).trans e12
          go_wp2_with fail
          refine (W2.erc (CP.out _ S3.out) rfl).mono ?_
          rintro en w4 ⟨⟨p, rfl⟩, t4⟩
          have T4 : Hid (WT b B w w4) := T3.out.trans t4
          clear t4
          go_wp2_with fail
          exact ⟨rfl, ⟨p, rfl⟩, T4.out⟩
        · refine step_told (.tmp 10) rfl rfl rfl (CT.out _) ?_
          rintro en w2 ⟨rfl, g2⟩
          refine ⟨_, rfl, ?_⟩
          have G2 : Hid (Grew w1 w2) := ((Grew.refl _).drew).trans g2
          have N2 : Hid (w2.heap[w.heap.size]? = some (.cells es 35 (0, 0))) := (G2.out.turn []).other N1.out (by simp)
          clear g2
          refine hK _ _ ?_
          try simp only [Act.put, List.setIfInBounds_toArray, List.set_cons_zero, List.set_cons_succ]
          refine wpAny_ready (rs := [1]) (by kernel_rfl) (by simp) ?_
          refine AllReady.cons rfl (fun K hK => ?_) AllReady.nil
          refine step_load_row 35 (.tmp 3) rfl rfl w.heap.size rfl es (run_loadVar_row _ _ 35 35 es (0, 0) _ N2.out Tryz.underlying35 rfl hsz) ?_
          refine hK _ _ ?_
          try simp only [Act.put, List.setIfInBounds_toArray, List.set_cons_zero, List.set_cons_succ]
          refine wpAny_take (i := 4) (v := .bool true) rfl (by kernel_rfl) (by kernel_rfl) (by kernel_rfl) (fun _ _ _ h => h) (Or.inl ⟨by rfl, fun w' => by go_simp⟩) ?_
          try simp only [Act.put, List.setIfInBounds_toArray, List.set_cons_zero, List.set_cons_succ]
          refine wpAny_ready (rs := [5]) (by kernel_rfl) (by simp) ?_
          refine AllReady.cons rfl (fun K hK => ?_) AllReady.nil
          refine step_need (.tmp 8) (.tmp 12) rfl rfl rfl rfl (need_yes (l := l ++ [2]) (S1.out.grew G2.out)) ?_
          rintro en w3 ⟨rfl, h3⟩
          refine Or.inl ⟨_, rfl, ?_⟩
          obtain rfl := h3.symm
          clear h3
          refine hK _ _ ?_
          try simp only [Act.put, List.setIfInBounds_toArray, List.set_cons_zero, List.set_cons_succ]
          refine wpAny_done (by kernel_rfl) ?_ _
          obtain ⟨T3, S3, N3⟩ : Hid (WT b B w w2) ∧ Hid (WS b B w2 (l ++ [2])) ∧ Hid (w2.heap[w.heap.size]? = some (.cells es 35 (0, 0))) := ⟨T1.out.trans (WT.of_grew G2.out), S1.out.grew G2.out, N2.out⟩
          have n0 := (cell_of N3.out 0).trans e0
          have n9 := (cell_of N3.out 9).trans e9
          have n10 := (cell_of N3.out 10).trans e10
          have n11 := (cell_of N3.out 11).trans e11
          have n12 := (cell_of N3.out 12).trans e12
          go_wp2_with fail
          refine (W2.erc (CP.out _ S3.out) rfl).mono ?_
          rintro en w4 ⟨⟨p, rfl⟩, t4⟩
          have T4 : Hid (WT b B w w4) := T3.out.trans t4
          clear t4
          go_wp2_with fail
          exact ⟨rfl, ⟨p, rfl⟩, T4.out⟩
    | ok m =>
      go_enter Tryz.func32, Tryz.ntmps32
      go_wp2_with fail
      refine (W2.okc (CK.out _ S0.out) rfl).mono ?_
      rintro en w1 ⟨rfl, t1, s1⟩
      have T1 : Hid (WT b B w w1) := T0.out.trans t1
      have S1 : Hid (WS b B w1 (l ++ [2])) := s1
      have N1 : Hid (w1.heap[w.heap.size]? = some (.cells es 35 (0, 0))) := t1.other N0.out (by omega) (NoT.of N0.out (by decide))
      have k0 := (cell_of N1.out 0).trans e0
      clear t1 s1 T0 S0 N0 c0
      go_wp2_with fail
      refine wp_region_any (by kernel_rfl) ?_
      refine wpAny_take (i := 0) (v := .pointer (some ⟨b, 0, none⟩)) rfl (by kernel_rfl) (by kernel_rfl) (by kernel_rfl) (fun _ _ _ h => h) (Or.inl ⟨by rfl, fun w' => by go_simp⟩) ?_
      try simp only [Act.put, List.setIfInBounds_toArray, List.set_cons_zero, List.set_cons_succ]
      refine wpAny_ready (rs := [1, 2]) (by kernel_rfl) (by simp) ?_
      refine AllReady.cons rfl (fun K hK => ?_) (AllReady.cons rfl (fun K hK => ?_) AllReady.nil)
      · refine step_load_row 35 (.tmp 3) rfl rfl w.heap.size rfl es (run_loadVar_row _ _ 35 35 es (0, 0) _ N1.out Tryz.underlying35 rfl hsz) ?_
        refine hK _ _ ?_
        try simp only [Act.put, List.setIfInBounds_toArray, List.set_cons_zero, List.set_cons_succ]
        refine wpAny_ready (rs := [2]) (by kernel_rfl) (by simp) ?_
        refine AllReady.cons rfl (fun K hK => ?_) AllReady.nil
        refine step_load_row 35 (.tmp 3) rfl rfl w.heap.size rfl es (run_loadVar_row _ _ 35 35 es (0, 0) _ N1.out Tryz.underlying35 rfl hsz) ?_
        refine hK _ _ ?_
        try simp only [Act.put, List.setIfInBounds_toArray, List.set_cons_zero, List.set_cons_succ]
        refine wpAny_ready (rs := [3]) (by kernel_rfl) (by simp) ?_
        refine AllReady.cons rfl (fun K hK => ?_) AllReady.nil
        refine step_told (.tmp 10) rfl rfl rfl (CT.out _) ?_
        rintro en w2 ⟨rfl, g2⟩
        refine ⟨_, rfl, ?_⟩
        have G2 : Hid (Grew w1 w2) := ((Grew.refl _).drew).trans g2
        have N2 : Hid (w2.heap[w.heap.size]? = some (.cells es 35 (0, 0))) := (G2.out.turn []).other N1.out (by simp)
        clear g2
        refine hK _ _ ?_
        try simp only [Act.put, List.setIfInBounds_toArray, List.set_cons_zero, List.set_cons_succ]
        refine wpAny_take (i := 4) (v := .bool true) rfl (by kernel_rfl) (by kernel_rfl) (by kernel_rfl) (fun _ _ _ h => h) (Or.inl ⟨by rfl, fun w' => by go_simp⟩) ?_
        try simp only [Act.put, List.setIfInBounds_toArray, List.set_cons_zero, List.set_cons_succ]
        refine wpAny_ready (rs := [5]) (by kernel_rfl) (by simp) ?_
        refine AllReady.cons rfl (fun K hK => ?_) AllReady.nil
        refine step_need (.tmp 8) (.tmp 12) rfl rfl rfl rfl (need_yes (l := l ++ [2]) (S1.out.grew G2.out)) ?_
        rintro en w3 ⟨rfl, h3⟩
        refine Or.inl ⟨_, rfl, ?_⟩
        obtain rfl := h3.symm
        clear h3
        refine hK _ _ ?_
        try simp only [Act.put, List.setIfInBounds_toArray, List.set_cons_zero, List.set_cons_succ]
        refine wpAny_done (by kernel_rfl) ?_ _
        obtain ⟨T3, S3, N3⟩ : Hid (WT b B w w2) ∧ Hid (WS b B w2 (l ++ [2])) ∧ Hid (w2.heap[w.heap.size]? = some (.cells es 35 (0, 0))) := ⟨T1.out.trans (WT.of_grew G2.out), S1.out.grew G2.out, N2.out⟩
        have n0 := (cell_of N3.out 0).trans e0
        have n9 := (cell_of N3.out 9).trans e9
        have n10 := (cell_of N3.out 10).trans e10
        have n11 := (cell_of N3.out 11).trans e11
        have n12 := (cell_of N3.out 12).trans e12
        go_wp2_with fail
        refine (W2.okc (CP.out _ S3.out) rfl).mono ?_
        rintro en w4 ⟨rfl, t4, s4⟩
        have T4 : Hid (WT b B w w4) := T3.out.trans t4
        have S4 : Hid (WS b B w4 ((l ++ [2]) ++ m)) := s4
        clear t4 s4
        go_wp2_with fail
        go_end0
        exact ⟨rfl, T4.out, by have := S4.out; simpa [List.append_assoc] using this⟩
      · refine step_load_row 35 (.tmp 3) rfl rfl w.heap.size rfl es (run_loadVar_row _ _ 35 35 es (0, 0) _ N1.out Tryz.underlying35 rfl hsz) ?_
        refine hK _ _ ?_
        try simp only [Act.put, List.setIfInBounds_toArray, List.set_cons_zero, List.set_cons_succ]
        refine wpAny_ready (rs := [1, 3]) (by kernel_rfl) (by simp) ?_
        refine AllReady.cons rfl (fun K hK => ?_) (AllReady.cons rfl (fun K hK => ?_) AllReady.nil)
        · refine step_load_row 35 (.tmp 3) rfl rfl w.heap.size rfl es (run_loadVar_row _ _ 35 35 es (0, 0) _ N1.out Tryz.underlying35 rfl hsz) ?_
          refine hK _ _ ?_
          try simp only [Act.put, List.setIfInBounds_toArray, List.set_cons_zero, List.set_cons_succ]
          refine wpAny_ready (rs := [3]) (by kernel_rfl) (by simp) ?_
          refine AllReady.cons rfl (fun K hK => ?_) AllReady.nil
          refine step_told (.tmp 10) rfl rfl rfl (CT.out _) ?_
          rintro en w2 ⟨rfl, g2⟩
          refine ⟨_, rfl, ?_⟩
          have G2 : Hid (Grew w1 w2) := ((Grew.refl _).drew).trans g2
          have N2 : Hid (w2.heap[w.heap.size]? = some (.cells es 35 (0, 0))) := (G2.out.turn []).other N1.out (by simp)
          clear g2
          refine hK _ _ ?_
          try simp only [Act.put, List.setIfInBounds_toArray, List.set_cons_zero, List.set_cons_succ]
          refine wpAny_take (i := 4) (v := .bool true) rfl (by kernel_rfl) (by kernel_rfl) (by kernel_rfl) (fun _ _ _ h => h) (Or.inl ⟨by rfl, fun w' => by go_simp⟩) ?_
          try simp only [Act.put, List.setIfInBounds_toArray, List.set_cons_zero, List.set_cons_succ]
          refine wpAny_ready (rs := [5]) (by kernel_rfl) (by simp) ?_
          refine AllReady.cons rfl (fun K hK => ?_) AllReady.nil
          refine step_need (.tmp 8) (.tmp 12) rfl rfl rfl rfl (need_yes (l := l ++ [2]) (S1.out.grew G2.out)) ?_
          rintro en w3 ⟨rfl, h3⟩
          refine Or.inl ⟨_, rfl, ?_⟩
          obtain rfl := h3.symm
          clear h3
          refine hK _ _ ?_
          try simp only [Act.put, List.setIfInBounds_toArray, List.set_cons_zero, List.set_cons_succ]
          refine wpAny_done (by kernel_rfl) ?_ _
          obtain ⟨T3, S3, N3⟩ : Hid (WT b B w w2) ∧ Hid (WS b B w2 (l ++ [2])) ∧ Hid (w2.heap[w.heap.size]? = some (.cells es 35 (0, 0))) := ⟨T1.out.trans (WT.of_grew G2.out), S1.out.grew G2.out, N2.out⟩
          have n0 := (cell_of N3.out 0).trans e0
          have n9 := (cell_of N3.out 9).trans e9
          have n10 := (cell_of N3.out 10).trans e10
          have n11 := (cell_of N3.out 11).trans e11
          have n12 := (cell_of N3.out 12).trans e12
          go_wp2_with fail
          refine (W2.okc (CP.out _ S3.out) rfl).mono ?_
          rintro en w4 ⟨rfl, t4, s4⟩
          have T4 : Hid (WT b B w w4) := T3.out.trans t4
          have S4 : Hid (WS b B w4 ((l ++ [2]) ++ m)) := s4
          clear t4 s4
          go_wp2_with fail
          go_end0
          exact ⟨rfl, T4.out, by have := S4.out; simpa [List.append_assoc] using this⟩
        · refine step_told (.tmp 10) rfl rfl rfl (CT.out _) ?_
          rintro en w2 ⟨rfl, g2⟩
          refine ⟨_, rfl, ?_⟩
          have G2 : Hid (Grew w1 w2) := ((Grew.refl _).drew).trans g2
          have N2 : Hid (w2.heap[w.heap.size]? = some (.cells es 35 (0, 0))) := (G2.out.turn []).other N1.out (by simp)
          clear g2
          refine hK _ _ ?_
          try simp only [Act.put, List.setIfInBounds_toArray, List.set_cons_zero, List.set_cons_succ]
          refine wpAny_ready (rs := [1]) (by kernel_rfl) (by simp) ?_
          refine AllReady.cons rfl (fun K hK => ?_) AllReady.nil
          refine step_load_row 35 (.tmp 3) rfl rfl w.heap.size rfl es (run_loadVar_row _ _ 35 35 es (0, 0) _ N2.out Tryz.underlying35 rfl hsz) ?_
          refine hK _ _ ?_
          try simp only [Act.put, List.setIfInBounds_toArray, List.set_cons_zero, List.set_cons_succ]
          refine wpAny_take (i := 4) (v := .bool true) rfl (by kernel_rfl) (by kernel_rfl) (by kernel_rfl) (fun _ _ _ h => h) (Or.inl ⟨by rfl, fun w' => by go_simp⟩) ?_
          try simp only [Act.put, List.setIfInBounds_toArray, List.set_cons_zero, List.set_cons_succ]
          refine wpAny_ready (rs := [5]) (by kernel_rfl) (by simp) ?_
          refine AllReady.cons rfl (fun K hK => ?_) AllReady.nil
          refine step_need (.tmp 8) (.tmp 12) rfl rfl rfl rfl (need_yes (l := l ++ [2]) (S1.out.grew G2.out)) ?_
          rintro en w3 ⟨rfl, h3⟩
          refine Or.inl ⟨_, rfl, ?_⟩
          obtain rfl := h3.symm
          clear h3
          refine hK _ _ ?_
          try simp only [Act.put, List.setIfInBounds_toArray, List.set_cons_zero, List.set_cons_succ]
          refine wpAny_done (by kernel_rfl) ?_ _
          obtain ⟨T3, S3, N3⟩ : Hid (WT b B w w2) ∧ Hid (WS b B w2 (l ++ [2])) ∧ Hid (w2.heap[w.heap.size]? = some (.cells es 35 (0, 0))) := ⟨T1.out.trans (WT.of_grew G2.out), S1.out.grew G2.out, N2.out⟩
          have n0 := (cell_of N3.out 0).trans e0
          have n9 := (cell_of N3.out 9).trans e9
          have n10 := (cell_of N3.out 10).trans e10
          have n11 := (cell_of N3.out 11).trans e11
          have n12 := (cell_of N3.out 12).trans e12
          go_wp2_with fail
          refine (W2.okc (CP.out _ S3.out) rfl).mono ?_
          rintro en w4 ⟨rfl, t4, s4⟩
          have T4 : Hid (WT b B w w4) := T3.out.trans t4
          have S4 : Hid (WS b B w4 ((l ++ [2]) ++ m)) := s4
          clear t4 s4
          go_wp2_with fail
          go_end0
          exact ⟨rfl, T4.out, by have := S4.out; simpa [List.append_assoc] using this⟩
set_option maxRecDepth 100000 in
set_option maxHeartbeats 2000000 in
theorem extern2_3 {b B : Nat} {w : World} {l : List Int} (h : WS b B w l) (k ty tn th tp tq mp mq gn gh : Int) (tz tw tm mw mm gz gm : Bool) (hl : l.length ≤ 17592186030000) :
    Calls Tryz.prog 32 #[.pointer (some ⟨b, 0, none⟩), .agg #[.int .i64 3, .int .i64 ty, .int .i64 tn, .bool tz, .int .i64 th, .bool tw, .int .u64 tp, .int .u64 tq, .bool tm, .bool mw, .int .u64 mp, .int .u64 mq, .bool mm, .int .i64 gn, .bool gz, .int .i64 gh, .bool gm]] w (W2 b B w l (extP 3 ((ty == 0) && ((zT tn tz th tw tp tq tm) && (zM mw mp mq mm))) (gloW ⟨gn, gz, gh⟩ gm))) := by
  have CT : Hid (∀ W : World, Calls Tryz.prog 51 #[.agg #[.int .i64 3, .int .i64 ty, .int .i64 tn, .bool tz, .int .i64 th, .bool tw, .int .u64 tp, .int .u64 tq, .bool tm, .bool mw, .int .u64 mp, .int .u64 mq, .bool mm, .int .i64 gn, .bool gz, .int .i64 gh, .bool gm]] W fun en w' => en = .returned (.agg #[.int .i64 3, .int .i64 0, .int .i64 0, .bool false, .int .i64 0, .bool false, .int .u64 0, .int .u64 0, .bool false, .bool false, .int .u64 0, .int .u64 0, .bool false, .int .i64 gn, .bool gz, .int .i64 gh, .bool gm]) ∧ Grew W w') := fun W => told3_any k ty tn th tp tq mp mq gn gh tz tw tm mw mm gz gm W
  have HQ := eqE3 k ty tn th tp tq mp mq gn gh tz tw tm mw mm gz gm
  have CK : Hid (∀ W : World, WS b B W l → Calls Tryz.prog 49 #[.pointer (some ⟨b, 0, none⟩), .int .i64 3] W (W2 b B W l (.ok [3]))) := fun W u => kind2 u 3 (by omega)
  have CP : Hid (∀ W : World, WS b B W (l ++ [3]) → Calls Tryz.prog 55 #[.pointer (some ⟨b, 0, none⟩), .agg #[.int .i64 gn, .bool gz, .int .i64 gh, .bool gm]] W (W2 b B W (l ++ [3]) (gloW ⟨gn, gz, gh⟩ gm))) := fun W u => globalType2 u gn gh gz gm (by simp; omega)
  obtain ⟨es, hes⟩ : ∃ es : Array Value, es = #[.int .i64 3, .int .i64 ty, .int .i64 tn, .bool tz, .int .i64 th, .bool tw, .int .u64 tp, .int .u64 tq, .bool tm, .bool mw, .int .u64 mp, .int .u64 mq, .bool mm, .int .i64 gn, .bool gz, .int .i64 gh, .bool gm] := ⟨_, rfl⟩
  obtain ⟨ts, hts⟩ : ∃ ts : Array Value, ts = #[.int .i64 3, .int .i64 0, .int .i64 0, .bool false, .int .i64 0, .bool false, .int .u64 0, .int .u64 0, .bool false, .bool false, .int .u64 0, .int .u64 0, .bool false, .int .i64 gn, .bool gz, .int .i64 gh, .bool gm] := ⟨_, rfl⟩
  rw [← hes, ← hts] at CT HQ
  rw [← hes]
  have hsz : (Tryz.prog.info? 35).map (·.size) = some es.size := by rw [hes]; kernel_rfl
  have e0 : es[0]? = some (.int .i64 3) := by rw [hes]; rfl
  have e13 : es[13]? = some (.int .i64 gn) := by rw [hes]; rfl
  have e14 : es[14]? = some (.bool gz) := by rw [hes]; rfl
  have e15 : es[15]? = some (.int .i64 gh) := by rw [hes]; rfl
  have e16 : es[16]? = some (.bool gm) := by rw [hes]; rfl
  generalize ((ty == 0) && ((zT tn tz th tw tp tq tm) && (zM mw mp mq mm))) = bk at *
  generalize hR : gloW ⟨gn, gz, gh⟩ gm = R at *
  have S0 : Hid (WS b B (w.alloc (.cells es 35)) l) := h.grew ((Grew.refl w).alloc _)
  have T0 : Hid (WT b B w (w.alloc (.cells es 35))) := WT.of_grew ((Grew.refl w).alloc _)
  have N0 : Hid ((w.alloc (.cells es 35)).heap[w.heap.size]? = some (.cells es 35 (0, 0))) := heap_alloc_last _ _
  have c0 := (cell_of N0.out 0).trans e0
  have hb : b < w.heap.size := h.blt
  clear h hes hts hR
  cases bk with
  | false =>
    unfold extP
    rw [if_neg (by simp)]
    go_enter Tryz.func32, Tryz.ntmps32
    go_wp2_with fail
    refine (W2.okc (CK.out _ S0.out) rfl).mono ?_
    rintro en w1 ⟨rfl, t1, s1⟩
    have T1 : Hid (WT b B w w1) := T0.out.trans t1
    have S1 : Hid (WS b B w1 (l ++ [3])) := s1
    have N1 : Hid (w1.heap[w.heap.size]? = some (.cells es 35 (0, 0))) := t1.other N0.out (by omega) (NoT.of N0.out (by decide))
    have k0 := (cell_of N1.out 0).trans e0
    clear t1 s1 T0 S0 N0 c0
    go_wp2_with fail
    refine wp_region_any (by kernel_rfl) ?_
    refine wpAny_take (i := 0) (v := .pointer (some ⟨b, 0, none⟩)) rfl (by kernel_rfl) (by kernel_rfl) (by kernel_rfl) (fun _ _ _ h => h) (Or.inl ⟨by rfl, fun w' => by go_simp⟩) ?_
    try simp only [Act.put, List.setIfInBounds_toArray, List.set_cons_zero, List.set_cons_succ]
    refine wpAny_ready (rs := [1, 2]) (by kernel_rfl) (by simp) ?_
    refine AllReady.cons rfl (fun K hK => ?_) (AllReady.cons rfl (fun K hK => ?_) AllReady.nil)
    · refine step_load_row 35 (.tmp 3) rfl rfl w.heap.size rfl es (run_loadVar_row _ _ 35 35 es (0, 0) _ N1.out Tryz.underlying35 rfl hsz) ?_
      refine hK _ _ ?_
      try simp only [Act.put, List.setIfInBounds_toArray, List.set_cons_zero, List.set_cons_succ]
      refine wpAny_ready (rs := [2]) (by kernel_rfl) (by simp) ?_
      refine AllReady.cons rfl (fun K hK => ?_) AllReady.nil
      refine step_load_row 35 (.tmp 3) rfl rfl w.heap.size rfl es (run_loadVar_row _ _ 35 35 es (0, 0) _ N1.out Tryz.underlying35 rfl hsz) ?_
      refine hK _ _ ?_
      try simp only [Act.put, List.setIfInBounds_toArray, List.set_cons_zero, List.set_cons_succ]
      refine wpAny_ready (rs := [3]) (by kernel_rfl) (by simp) ?_
      refine AllReady.cons rfl (fun K hK => ?_) AllReady.nil
      refine step_told (.tmp 10) rfl rfl rfl (CT.out _) ?_
      rintro en w2 ⟨rfl, g2⟩
      refine ⟨_, rfl, ?_⟩
      have G2 : Hid (Grew w1 w2) := ((Grew.refl _).drew).trans g2
      have N2 : Hid (w2.heap[w.heap.size]? = some (.cells es 35 (0, 0))) := (G2.out.turn []).other N1.out (by simp)
      clear g2
      refine hK _ _ ?_
      try simp only [Act.put, List.setIfInBounds_toArray, List.set_cons_zero, List.set_cons_succ]
      refine wpAny_take (i := 4) (v := .bool false) rfl (by kernel_rfl) (by kernel_rfl) (by kernel_rfl) (fun _ _ _ h => h) (Or.inl ⟨by rfl, fun w' => by go_simp⟩) ?_
      try simp only [Act.put, List.setIfInBounds_toArray, List.set_cons_zero, List.set_cons_succ]
      refine wpAny_ready (rs := [5]) (by kernel_rfl) (by simp) ?_
      refine AllReady.cons rfl (fun K hK => ?_) AllReady.nil
      refine step_need (.tmp 8) (.tmp 12) rfl rfl rfl rfl (need_no (l := l ++ [3]) (S1.out.grew G2.out)) ?_
      rintro en w3 ⟨⟨p, rfl⟩, h3⟩
      refine Or.inr ⟨_, rfl, ?_⟩
      obtain rfl := h3.symm
      exact ⟨rfl, ⟨p, rfl⟩, T1.out.trans (WT.of_grew G2.out)⟩
    · refine step_load_row 35 (.tmp 3) rfl rfl w.heap.size rfl es (run_loadVar_row _ _ 35 35 es (0, 0) _ N1.out Tryz.underlying35 rfl hsz) ?_
      refine hK _ _ ?_
      try simp only [Act.put, List.setIfInBounds_toArray, List.set_cons_zero, List.set_cons_succ]
      refine wpAny_ready (rs := [1, 3]) (by kernel_rfl) (by simp) ?_
      refine AllReady.cons rfl (fun K hK => ?_) (AllReady.cons rfl (fun K hK => ?_) AllReady.nil)
      · refine step_load_row 35 (.tmp 3) rfl rfl w.heap.size rfl es (run_loadVar_row _ _ 35 35 es (0, 0) _ N1.out Tryz.underlying35 rfl hsz) ?_
        refine hK _ _ ?_
        try simp only [Act.put, List.setIfInBounds_toArray, List.set_cons_zero, List.set_cons_succ]
        refine wpAny_ready (rs := [3]) (by kernel_rfl) (by simp) ?_
        refine AllReady.cons rfl (fun K hK => ?_) AllReady.nil
        refine step_told (.tmp 10) rfl rfl rfl (CT.out _) ?_
        rintro en w2 ⟨rfl, g2⟩
        refine ⟨_, rfl, ?_⟩
        have G2 : Hid (Grew w1 w2) := ((Grew.refl _).drew).trans g2
        have N2 : Hid (w2.heap[w.heap.size]? = some (.cells es 35 (0, 0))) := (G2.out.turn []).other N1.out (by simp)
        clear g2
        refine hK _ _ ?_
        try simp only [Act.put, List.setIfInBounds_toArray, List.set_cons_zero, List.set_cons_succ]
        refine wpAny_take (i := 4) (v := .bool false) rfl (by kernel_rfl) (by kernel_rfl) (by kernel_rfl) (fun _ _ _ h => h) (Or.inl ⟨by rfl, fun w' => by go_simp⟩) ?_
        try simp only [Act.put, List.setIfInBounds_toArray, List.set_cons_zero, List.set_cons_succ]
        refine wpAny_ready (rs := [5]) (by kernel_rfl) (by simp) ?_
        refine AllReady.cons rfl (fun K hK => ?_) AllReady.nil
        refine step_need (.tmp 8) (.tmp 12) rfl rfl rfl rfl (need_no (l := l ++ [3]) (S1.out.grew G2.out)) ?_
        rintro en w3 ⟨⟨p, rfl⟩, h3⟩
        refine Or.inr ⟨_, rfl, ?_⟩
        obtain rfl := h3.symm
        exact ⟨rfl, ⟨p, rfl⟩, T1.out.trans (WT.of_grew G2.out)⟩
      · refine step_told (.tmp 10) rfl rfl rfl (CT.out _) ?_
        rintro en w2 ⟨rfl, g2⟩
        refine ⟨_, rfl, ?_⟩
        have G2 : Hid (Grew w1 w2) := ((Grew.refl _).drew).trans g2
        have N2 : Hid (w2.heap[w.heap.size]? = some (.cells es 35 (0, 0))) := (G2.out.turn []).other N1.out (by simp)
        clear g2
        refine hK _ _ ?_
        try simp only [Act.put, List.setIfInBounds_toArray, List.set_cons_zero, List.set_cons_succ]
        refine wpAny_ready (rs := [1]) (by kernel_rfl) (by simp) ?_
        refine AllReady.cons rfl (fun K hK => ?_) AllReady.nil
        refine step_load_row 35 (.tmp 3) rfl rfl w.heap.size rfl es (run_loadVar_row _ _ 35 35 es (0, 0) _ N2.out Tryz.underlying35 rfl hsz) ?_
        refine hK _ _ ?_
        try simp only [Act.put, List.setIfInBounds_toArray, List.set_cons_zero, List.set_cons_succ]
        refine wpAny_take (i := 4) (v := .bool false) rfl (by kernel_rfl) (by kernel_rfl) (by kernel_rfl) (fun _ _ _ h => h) (Or.inl ⟨by rfl, fun w' => by go_simp⟩) ?_
        try simp only [Act.put, List.setIfInBounds_toArray, List.set_cons_zero, List.set_cons_succ]
        refine wpAny_ready (rs := [5]) (by kernel_rfl) (by simp) ?_
        refine AllReady.cons rfl (fun K hK => ?_) AllReady.nil
        refine step_need (.tmp 8) (.tmp 12) rfl rfl rfl rfl (need_no (l := l ++ [3]) (S1.out.grew G2.out)) ?_
        rintro en w3 ⟨⟨p, rfl⟩, h3⟩
        refine Or.inr ⟨_, rfl, ?_⟩
        obtain rfl := h3.symm
        exact ⟨rfl, ⟨p, rfl⟩, T1.out.trans (WT.of_grew G2.out)⟩
  | true =>
    unfold extP
    rw [if_pos rfl]
    cases R with
    | error e =>
      go_enter Tryz.func32, Tryz.ntmps32
      go_wp2_with fail
      refine (W2.okc (CK.out _ S0.out) rfl).mono ?_
      rintro en w1 ⟨rfl, t1, s1⟩
      have T1 : Hid (WT b B w w1) := T0.out.trans t1
      have S1 : Hid (WS b B w1 (l ++ [3])) := s1
      have N1 : Hid (w1.heap[w.heap.size]? = some (.cells es 35 (0, 0))) := t1.other N0.out (by omega) (NoT.of N0.out (by decide))
      have k0 := (cell_of N1.out 0).trans e0
      clear t1 s1 T0 S0 N0 c0
      go_wp2_with fail
      refine wp_region_any (by kernel_rfl) ?_
      refine wpAny_take (i := 0) (v := .pointer (some ⟨b, 0, none⟩)) rfl (by kernel_rfl) (by kernel_rfl) (by kernel_rfl) (fun _ _ _ h => h) (Or.inl ⟨by rfl, fun w' => by go_simp⟩) ?_
      try simp only [Act.put, List.setIfInBounds_toArray, List.set_cons_zero, List.set_cons_succ]
      refine wpAny_ready (rs := [1, 2]) (by kernel_rfl) (by simp) ?_
      refine AllReady.cons rfl (fun K hK => ?_) (AllReady.cons rfl (fun K hK => ?_) AllReady.nil)
      · refine step_load_row 35 (.tmp 3) rfl rfl w.heap.size rfl es (run_loadVar_row _ _ 35 35 es (0, 0) _ N1.out Tryz.underlying35 rfl hsz) ?_
        refine hK _ _ ?_
        try simp only [Act.put, List.setIfInBounds_toArray, List.set_cons_zero, List.set_cons_succ]
        refine wpAny_ready (rs := [2]) (by kernel_rfl) (by simp) ?_
        refine AllReady.cons rfl (fun K hK => ?_) AllReady.nil
        refine step_load_row 35 (.tmp 3) rfl rfl w.heap.size rfl es (run_loadVar_row _ _ 35 35 es (0, 0) _ N1.out Tryz.underlying35 rfl hsz) ?_
        refine hK _ _ ?_
        try simp only [Act.put, List.setIfInBounds_toArray, List.set_cons_zero, List.set_cons_succ]
        refine wpAny_ready (rs := [3]) (by kernel_rfl) (by simp) ?_
        refine AllReady.cons rfl (fun K hK => ?_) AllReady.nil
        refine step_told (.tmp 10) rfl rfl rfl (CT.out _) ?_
        rintro en w2 ⟨rfl, g2⟩
        refine ⟨_, rfl, ?_⟩
        have G2 : Hid (Grew w1 w2) := ((Grew.refl _).drew).trans g2
        have N2 : Hid (w2.heap[w.heap.size]? = some (.cells es 35 (0, 0))) := (G2.out.turn []).other N1.out (by simp)
        clear g2
        refine hK _ _ ?_
        try simp only [Act.put, List.setIfInBounds_toArray, List.set_cons_zero, List.set_cons_succ]
        refine wpAny_take (i := 4) (v := .bool true) rfl (by kernel_rfl) (by kernel_rfl) (by kernel_rfl) (fun _ _ _ h => h) (Or.inl ⟨by rfl, fun w' => by go_simp⟩) ?_
        try simp only [Act.put, List.setIfInBounds_toArray, List.set_cons_zero, List.set_cons_succ]
        refine wpAny_ready (rs := [5]) (by kernel_rfl) (by simp) ?_
        refine AllReady.cons rfl (fun K hK => ?_) AllReady.nil
        refine step_need (.tmp 8) (.tmp 12) rfl rfl rfl rfl (need_yes (l := l ++ [3]) (S1.out.grew G2.out)) ?_
        rintro en w3 ⟨rfl, h3⟩
        refine Or.inl ⟨_, rfl, ?_⟩
        obtain rfl := h3.symm
        clear h3
        refine hK _ _ ?_
        try simp only [Act.put, List.setIfInBounds_toArray, List.set_cons_zero, List.set_cons_succ]
        refine wpAny_done (by kernel_rfl) ?_ _
        obtain ⟨T3, S3, N3⟩ : Hid (WT b B w w2) ∧ Hid (WS b B w2 (l ++ [3])) ∧ Hid (w2.heap[w.heap.size]? = some (.cells es 35 (0, 0))) := ⟨T1.out.trans (WT.of_grew G2.out), S1.out.grew G2.out, N2.out⟩
        have n0 := (cell_of N3.out 0).trans e0
        have n13 := (cell_of N3.out 13).trans e13
        have n14 := (cell_of N3.out 14).trans e14
        have n15 := (cell_of N3.out 15).trans e15
        have n16 := (cell_of N3.out 16).trans e16
        go_wp2_with fail
        refine (W2.erc (CP.out _ S3.out) rfl).mono ?_
        rintro en w4 ⟨⟨p, rfl⟩, t4⟩
        have T4 : Hid (WT b B w w4) := T3.out.trans t4
        clear t4
        go_wp2_with fail
        exact ⟨rfl, ⟨p, rfl⟩, T4.out⟩
      · refine step_load_row 35 (.tmp 3) rfl rfl w.heap.size rfl es (run_loadVar_row _ _ 35 35 es (0, 0) _ N1.out Tryz.underlying35 rfl hsz) ?_
        refine hK _ _ ?_
        try simp only [Act.put, List.setIfInBounds_toArray, List.set_cons_zero, List.set_cons_succ]
        refine wpAny_ready (rs := [1, 3]) (by kernel_rfl) (by simp) ?_
        refine AllReady.cons rfl (fun K hK => ?_) (AllReady.cons rfl (fun K hK => ?_) AllReady.nil)
        · refine step_load_row 35 (.tmp 3) rfl rfl w.heap.size rfl es (run_loadVar_row _ _ 35 35 es (0, 0) _ N1.out Tryz.underlying35 rfl hsz) ?_
          refine hK _ _ ?_
          try simp only [Act.put, List.setIfInBounds_toArray, List.set_cons_zero, List.set_cons_succ]
          refine wpAny_ready (rs := [3]) (by kernel_rfl) (by simp) ?_
          refine AllReady.cons rfl (fun K hK => ?_) AllReady.nil
          refine step_told (.tmp 10) rfl rfl rfl (CT.out _) ?_
          rintro en w2 ⟨rfl, g2⟩
          refine ⟨_, rfl, ?_⟩
          have G2 : Hid (Grew w1 w2) := ((Grew.refl _).drew).trans g2
          have N2 : Hid (w2.heap[w.heap.size]? = some (.cells es 35 (0, 0))) := (G2.out.turn []).other N1.out (by simp)
          clear g2
          refine hK _ _ ?_
          try simp only [Act.put, List.setIfInBounds_toArray, List.set_cons_zero, List.set_cons_succ]
          refine wpAny_take (i := 4) (v := .bool true) rfl (by kernel_rfl) (by kernel_rfl) (by kernel_rfl) (fun _ _ _ h => h) (Or.inl ⟨by rfl, fun w' => by go_simp⟩) ?_
          try simp only [Act.put, List.setIfInBounds_toArray, List.set_cons_zero, List.set_cons_succ]
          refine wpAny_ready (rs := [5]) (by kernel_rfl) (by simp) ?_
          refine AllReady.cons rfl (fun K hK => ?_) AllReady.nil
          refine step_need (.tmp 8) (.tmp 12) rfl rfl rfl rfl (need_yes (l := l ++ [3]) (S1.out.grew G2.out)) ?_
          rintro en w3 ⟨rfl, h3⟩
          refine Or.inl ⟨_, rfl, ?_⟩
          obtain rfl := h3.symm
          clear h3
          refine hK _ _ ?_
          try simp only [Act.put, List.setIfInBounds_toArray, List.set_cons_zero, List.set_cons_succ]
          refine wpAny_done (by kernel_rfl) ?_ _
          obtain ⟨T3, S3, N3⟩ : Hid (WT b B w w2) ∧ Hid (WS b B w2 (l ++ [3])) ∧ Hid (w2.heap[w.heap.size]? = some (.cells es 35 (0, 0))) := ⟨T1.out.trans (WT.of_grew G2.out), S1.out.grew G2.out, N2.out⟩
          have n0 := (cell_of N3.out 0).trans e0
          have n13 := (cell_of N3.out 13).trans e13
          have n14 := (cell_of N3.out 14).trans e14
          have n15 := (cell_of N3.out 15).trans e15
          have n16 := (cell_of N3.out 16).trans e16
          go_wp2_with fail
          refine (W2.erc (CP.out _ S3.out) rfl).mono ?_
          rintro en w4 ⟨⟨p, rfl⟩, t4⟩
          have T4 : Hid (WT b B w w4) := T3.out.trans t4
          clear t4
          go_wp2_with fail
          exact ⟨rfl, ⟨p, rfl⟩, T4.out⟩
        · refine step_told (.tmp 10) rfl rfl rfl (CT.out _) ?_
          rintro en w2 ⟨rfl, g2⟩
          refine ⟨_, rfl, ?_⟩
          have G2 : Hid (Grew w1 w2) := ((Grew.refl _).drew).trans g2
          have N2 : Hid (w2.heap[w.heap.size]? = some (.cells es 35 (0, 0))) := (G2.out.turn []).other N1.out (by simp)
          clear g2
          refine hK _ _ ?_
          try simp only [Act.put, List.setIfInBounds_toArray, List.set_cons_zero, List.set_cons_succ]
          refine wpAny_ready (rs := [1]) (by kernel_rfl) (by simp) ?_
          refine AllReady.cons rfl (fun K hK => ?_) AllReady.nil
          refine step_load_row 35 (.tmp 3) rfl rfl w.heap.size rfl es (run_loadVar_row _ _ 35 35 es (0, 0) _ N2.out Tryz.underlying35 rfl hsz) ?_
          refine hK _ _ ?_
          try simp only [Act.put, List.setIfInBounds_toArray, List.set_cons_zero, List.set_cons_succ]
          refine wpAny_take (i := 4) (v := .bool true) rfl (by kernel_rfl) (by kernel_rfl) (by kernel_rfl) (fun _ _ _ h => h) (Or.inl ⟨by rfl, fun w' => by go_simp⟩) ?_
          try simp only [Act.put, List.setIfInBounds_toArray, List.set_cons_zero, List.set_cons_succ]
          refine wpAny_ready (rs := [5]) (by kernel_rfl) (by simp) ?_
          refine AllReady.cons rfl (fun K hK => ?_) AllReady.nil
          refine step_need (.tmp 8) (.tmp 12) rfl rfl rfl rfl (need_yes (l := l ++ [3]) (S1.out.grew G2.out)) ?_
          rintro en w3 ⟨rfl, h3⟩
          refine Or.inl ⟨_, rfl, ?_⟩
          obtain rfl := h3.symm
          clear h3
          refine hK _ _ ?_
          try simp only [Act.put, List.setIfInBounds_toArray, List.set_cons_zero, List.set_cons_succ]
          refine wpAny_done (by kernel_rfl) ?_ _
          obtain ⟨T3, S3, N3⟩ : Hid (WT b B w w2) ∧ Hid (WS b B w2 (l ++ [3])) ∧ Hid (w2.heap[w.heap.size]? = some (.cells es 35 (0, 0))) := ⟨T1.out.trans (WT.of_grew G2.out), S1.out.grew G2.out, N2.out⟩
          have n0 := (cell_of N3.out 0).trans e0
          have n13 := (cell_of N3.out 13).trans e13
          have n14 := (cell_of N3.out 14).trans e14
          have n15 := (cell_of N3.out 15).trans e15
          have n16 := (cell_of N3.out 16).trans e16
          go_wp2_with fail
          refine (W2.erc (CP.out _ S3.out) rfl).mono ?_
          rintro en w4 ⟨⟨p, rfl⟩, t4⟩
          have T4 : Hid (WT b B w w4) := T3.out.trans t4
          clear t4
          go_wp2_with fail
          exact ⟨rfl, ⟨p, rfl⟩, T4.out⟩
    | ok m =>
      go_enter Tryz.func32, Tryz.ntmps32
      go_wp2_with fail
      refine (W2.okc (CK.out _ S0.out) rfl).mono ?_
      rintro en w1 ⟨rfl, t1, s1⟩
      have T1 : Hid (WT b B w w1) := T0.out.trans t1
      have S1 : Hid (WS b B w1 (l ++ [3])) := s1
      have N1 : Hid (w1.heap[w.heap.size]? = some (.cells es 35 (0, 0))) := t1.other N0.out (by omega) (NoT.of N0.out (by decide))
      have k0 := (cell_of N1.out 0).trans e0
      clear t1 s1 T0 S0 N0 c0
      go_wp2_with fail
      refine wp_region_any (by kernel_rfl) ?_
      refine wpAny_take (i := 0) (v := .pointer (some ⟨b, 0, none⟩)) rfl (by kernel_rfl) (by kernel_rfl) (by kernel_rfl) (fun _ _ _ h => h) (Or.inl ⟨by rfl, fun w' => by go_simp⟩) ?_
      try simp only [Act.put, List.setIfInBounds_toArray, List.set_cons_zero, List.set_cons_succ]
      refine wpAny_ready (rs := [1, 2]) (by kernel_rfl) (by simp) ?_
      refine AllReady.cons rfl (fun K hK => ?_) (AllReady.cons rfl (fun K hK => ?_) AllReady.nil)
      · refine step_load_row 35 (.tmp 3) rfl rfl w.heap.size rfl es (run_loadVar_row _ _ 35 35 es (0, 0) _ N1.out Tryz.underlying35 rfl hsz) ?_
        refine hK _ _ ?_
        try simp only [Act.put, List.setIfInBounds_toArray, List.set_cons_zero, List.set_cons_succ]
        refine wpAny_ready (rs := [2]) (by kernel_rfl) (by simp) ?_
        refine AllReady.cons rfl (fun K hK => ?_) AllReady.nil
        refine step_load_row 35 (.tmp 3) rfl rfl w.heap.size rfl es (run_loadVar_row _ _ 35 35 es (0, 0) _ N1.out Tryz.underlying35 rfl hsz) ?_
        refine hK _ _ ?_
        try simp only [Act.put, List.setIfInBounds_toArray, List.set_cons_zero, List.set_cons_succ]
        refine wpAny_ready (rs := [3]) (by kernel_rfl) (by simp) ?_
        refine AllReady.cons rfl (fun K hK => ?_) AllReady.nil
        refine step_told (.tmp 10) rfl rfl rfl (CT.out _) ?_
        rintro en w2 ⟨rfl, g2⟩
        refine ⟨_, rfl, ?_⟩
        have G2 : Hid (Grew w1 w2) := ((Grew.refl _).drew).trans g2
        have N2 : Hid (w2.heap[w.heap.size]? = some (.cells es 35 (0, 0))) := (G2.out.turn []).other N1.out (by simp)
        clear g2
        refine hK _ _ ?_
        try simp only [Act.put, List.setIfInBounds_toArray, List.set_cons_zero, List.set_cons_succ]
        refine wpAny_take (i := 4) (v := .bool true) rfl (by kernel_rfl) (by kernel_rfl) (by kernel_rfl) (fun _ _ _ h => h) (Or.inl ⟨by rfl, fun w' => by go_simp⟩) ?_
        try simp only [Act.put, List.setIfInBounds_toArray, List.set_cons_zero, List.set_cons_succ]
        refine wpAny_ready (rs := [5]) (by kernel_rfl) (by simp) ?_
        refine AllReady.cons rfl (fun K hK => ?_) AllReady.nil
        refine step_need (.tmp 8) (.tmp 12) rfl rfl rfl rfl (need_yes (l := l ++ [3]) (S1.out.grew G2.out)) ?_
        rintro en w3 ⟨rfl, h3⟩
        refine Or.inl ⟨_, rfl, ?_⟩
        obtain rfl := h3.symm
        clear h3
        refine hK _ _ ?_
        try simp only [Act.put, List.setIfInBounds_toArray, List.set_cons_zero, List.set_cons_succ]
        refine wpAny_done (by kernel_rfl) ?_ _
        obtain ⟨T3, S3, N3⟩ : Hid (WT b B w w2) ∧ Hid (WS b B w2 (l ++ [3])) ∧ Hid (w2.heap[w.heap.size]? = some (.cells es 35 (0, 0))) := ⟨T1.out.trans (WT.of_grew G2.out), S1.out.grew G2.out, N2.out⟩
        have n0 := (cell_of N3.out 0).trans e0
        have n13 := (cell_of N3.out 13).trans e13
        have n14 := (cell_of N3.out 14).trans e14
        have n15 := (cell_of N3.out 15).trans e15
        have n16 := (cell_of N3.out 16).trans e16
        go_wp2_with fail
        refine (W2.okc (CP.out _ S3.out) rfl).mono ?_
        rintro en w4 ⟨rfl, t4, s4⟩
        have T4 : Hid (WT b B w w4) := T3.out.trans t4
        have S4 : Hid (WS b B w4 ((l ++ [3]) ++ m)) := s4
        clear t4 s4
        go_wp2_with fail
        go_end0
        exact ⟨rfl, T4.out, by have := S4.out; simpa [List.append_assoc] using this⟩
      · refine step_load_row 35 (.tmp 3) rfl rfl w.heap.size rfl es (run_loadVar_row _ _ 35 35 es (0, 0) _ N1.out Tryz.underlying35 rfl hsz) ?_
        refine hK _ _ ?_
        try simp only [Act.put, List.setIfInBounds_toArray, List.set_cons_zero, List.set_cons_succ]
        refine wpAny_ready (rs := [1, 3]) (by kernel_rfl) (by simp) ?_
        refine AllReady.cons rfl (fun K hK => ?_) (AllReady.cons rfl (fun K hK => ?_) AllReady.nil)
        · refine step_load_row 35 (.tmp 3) rfl rfl w.heap.size rfl es (run_loadVar_row _ _ 35 35 es (0, 0) _ N1.out Tryz.underlying35 rfl hsz) ?_
          refine hK _ _ ?_
          try simp only [Act.put, List.setIfInBounds_toArray, List.set_cons_zero, List.set_cons_succ]
          refine wpAny_ready (rs := [3]) (by kernel_rfl) (by simp) ?_
          refine AllReady.cons rfl (fun K hK => ?_) AllReady.nil
          refine step_told (.tmp 10) rfl rfl rfl (CT.out _) ?_
          rintro en w2 ⟨rfl, g2⟩
          refine ⟨_, rfl, ?_⟩
          have G2 : Hid (Grew w1 w2) := ((Grew.refl _).drew).trans g2
          have N2 : Hid (w2.heap[w.heap.size]? = some (.cells es 35 (0, 0))) := (G2.out.turn []).other N1.out (by simp)
          clear g2
          refine hK _ _ ?_
          try simp only [Act.put, List.setIfInBounds_toArray, List.set_cons_zero, List.set_cons_succ]
          refine wpAny_take (i := 4) (v := .bool true) rfl (by kernel_rfl) (by kernel_rfl) (by kernel_rfl) (fun _ _ _ h => h) (Or.inl ⟨by rfl, fun w' => by go_simp⟩) ?_
          try simp only [Act.put, List.setIfInBounds_toArray, List.set_cons_zero, List.set_cons_succ]
          refine wpAny_ready (rs := [5]) (by kernel_rfl) (by simp) ?_
          refine AllReady.cons rfl (fun K hK => ?_) AllReady.nil
          refine step_need (.tmp 8) (.tmp 12) rfl rfl rfl rfl (need_yes (l := l ++ [3]) (S1.out.grew G2.out)) ?_
          rintro en w3 ⟨rfl, h3⟩
          refine Or.inl ⟨_, rfl, ?_⟩
          obtain rfl := h3.symm
          clear h3
          refine hK _ _ ?_
          try simp only [Act.put, List.setIfInBounds_toArray, List.set_cons_zero, List.set_cons_succ]
          refine wpAny_done (by kernel_rfl) ?_ _
          obtain ⟨T3, S3, N3⟩ : Hid (WT b B w w2) ∧ Hid (WS b B w2 (l ++ [3])) ∧ Hid (w2.heap[w.heap.size]? = some (.cells es 35 (0, 0))) := ⟨T1.out.trans (WT.of_grew G2.out), S1.out.grew G2.out, N2.out⟩
          have n0 := (cell_of N3.out 0).trans e0
          have n13 := (cell_of N3.out 13).trans e13
          have n14 := (cell_of N3.out 14).trans e14
          have n15 := (cell_of N3.out 15).trans e15
          have n16 := (cell_of N3.out 16).trans e16
          go_wp2_with fail
          refine (W2.okc (CP.out _ S3.out) rfl).mono ?_
          rintro en w4 ⟨rfl, t4, s4⟩
          have T4 : Hid (WT b B w w4) := T3.out.trans t4
          have S4 : Hid (WS b B w4 ((l ++ [3]) ++ m)) := s4
          clear t4 s4
          go_wp2_with fail
          go_end0
          exact ⟨rfl, T4.out, by have := S4.out; simpa [List.append_assoc] using this⟩
        · refine step_told (.tmp 10) rfl rfl rfl (CT.out _) ?_
          rintro en w2 ⟨rfl, g2⟩
          refine ⟨_, rfl, ?_⟩
          have G2 : Hid (Grew w1 w2) := ((Grew.refl _).drew).trans g2
          have N2 : Hid (w2.heap[w.heap.size]? = some (.cells es 35 (0, 0))) := (G2.out.turn []).other N1.out (by simp)
          clear g2
          refine hK _ _ ?_
          try simp only [Act.put, List.setIfInBounds_toArray, List.set_cons_zero, List.set_cons_succ]
          refine wpAny_ready (rs := [1]) (by kernel_rfl) (by simp) ?_
          refine AllReady.cons rfl (fun K hK => ?_) AllReady.nil
          refine step_load_row 35 (.tmp 3) rfl rfl w.heap.size rfl es (run_loadVar_row _ _ 35 35 es (0, 0) _ N2.out Tryz.underlying35 rfl hsz) ?_
          refine hK _ _ ?_
          try simp only [Act.put, List.setIfInBounds_toArray, List.set_cons_zero, List.set_cons_succ]
          refine wpAny_take (i := 4) (v := .bool true) rfl (by kernel_rfl) (by kernel_rfl) (by kernel_rfl) (fun _ _ _ h => h) (Or.inl ⟨by rfl, fun w' => by go_simp⟩) ?_
          try simp only [Act.put, List.setIfInBounds_toArray, List.set_cons_zero, List.set_cons_succ]
          refine wpAny_ready (rs := [5]) (by kernel_rfl) (by simp) ?_
          refine AllReady.cons rfl (fun K hK => ?_) AllReady.nil
          refine step_need (.tmp 8) (.tmp 12) rfl rfl rfl rfl (need_yes (l := l ++ [3]) (S1.out.grew G2.out)) ?_
          rintro en w3 ⟨rfl, h3⟩
          refine Or.inl ⟨_, rfl, ?_⟩
          obtain rfl := h3.symm
          clear h3
          refine hK _ _ ?_
          try simp only [Act.put, List.setIfInBounds_toArray, List.set_cons_zero, List.set_cons_succ]
          refine wpAny_done (by kernel_rfl) ?_ _
          obtain ⟨T3, S3, N3⟩ : Hid (WT b B w w2) ∧ Hid (WS b B w2 (l ++ [3])) ∧ Hid (w2.heap[w.heap.size]? = some (.cells es 35 (0, 0))) := ⟨T1.out.trans (WT.of_grew G2.out), S1.out.grew G2.out, N2.out⟩
          have n0 := (cell_of N3.out 0).trans e0
          have n13 := (cell_of N3.out 13).trans e13
          have n14 := (cell_of N3.out 14).trans e14
          have n15 := (cell_of N3.out 15).trans e15
          have n16 := (cell_of N3.out 16).trans e16
          go_wp2_with fail
          refine (W2.okc (CP.out _ S3.out) rfl).mono ?_
          rintro en w4 ⟨rfl, t4, s4⟩
          have T4 : Hid (WT b B w w4) := T3.out.trans t4
          have S4 : Hid (WS b B w4 ((l ++ [3]) ++ m)) := s4
          clear t4 s4
          go_wp2_with fail
          go_end0
          exact ⟨rfl, T4.out, by have := S4.out; simpa [List.append_assoc] using this⟩
set_option maxRecDepth 100000 in
set_option maxHeartbeats 2000000 in
theorem extern2_4 {b B : Nat} {w : World} {l : List Int} (h : WS b B w l) (k ty tn th tp tq mp mq gn gh : Int) (tz tw tm mw mm gz gm : Bool) (hl : l.length ≤ 17592186030000) :
    Calls Tryz.prog 32 #[.pointer (some ⟨b, 0, none⟩), .agg #[.int .i64 4, .int .i64 ty, .int .i64 tn, .bool tz, .int .i64 th, .bool tw, .int .u64 tp, .int .u64 tq, .bool tm, .bool mw, .int .u64 mp, .int .u64 mq, .bool mm, .int .i64 gn, .bool gz, .int .i64 gh, .bool gm]] w (W2 b B w l (extP 4 ((zT tn tz th tw tp tq tm) && ((zM mw mp mq mm) && (zG gn gz gh gm))) (tagW ty))) := by
  have CT : Hid (∀ W : World, Calls Tryz.prog 51 #[.agg #[.int .i64 4, .int .i64 ty, .int .i64 tn, .bool tz, .int .i64 th, .bool tw, .int .u64 tp, .int .u64 tq, .bool tm, .bool mw, .int .u64 mp, .int .u64 mq, .bool mm, .int .i64 gn, .bool gz, .int .i64 gh, .bool gm]] W fun en w' => en = .returned (.agg #[.int .i64 4, .int .i64 ty, .int .i64 0, .bool false, .int .i64 0, .bool false, .int .u64 0, .int .u64 0, .bool false, .bool false, .int .u64 0, .int .u64 0, .bool false, .int .i64 0, .bool false, .int .i64 0, .bool false]) ∧ Grew W w') := fun W => told4_any k ty tn th tp tq mp mq gn gh tz tw tm mw mm gz gm W
  have HQ := eqE4 k ty tn th tp tq mp mq gn gh tz tw tm mw mm gz gm
  have CK : Hid (∀ W : World, WS b B W l → Calls Tryz.prog 49 #[.pointer (some ⟨b, 0, none⟩), .int .i64 4] W (W2 b B W l (.ok [4]))) := fun W u => kind2 u 4 (by omega)
  have CP : Hid (∀ W : World, WS b B W (l ++ [4]) → Calls Tryz.prog 56 #[.pointer (some ⟨b, 0, none⟩), .int .i64 ty] W (W2 b B W (l ++ [4]) (tagW ty))) := fun W u => tag2 u ty (by simp; omega)
  obtain ⟨es, hes⟩ : ∃ es : Array Value, es = #[.int .i64 4, .int .i64 ty, .int .i64 tn, .bool tz, .int .i64 th, .bool tw, .int .u64 tp, .int .u64 tq, .bool tm, .bool mw, .int .u64 mp, .int .u64 mq, .bool mm, .int .i64 gn, .bool gz, .int .i64 gh, .bool gm] := ⟨_, rfl⟩
  obtain ⟨ts, hts⟩ : ∃ ts : Array Value, ts = #[.int .i64 4, .int .i64 ty, .int .i64 0, .bool false, .int .i64 0, .bool false, .int .u64 0, .int .u64 0, .bool false, .bool false, .int .u64 0, .int .u64 0, .bool false, .int .i64 0, .bool false, .int .i64 0, .bool false] := ⟨_, rfl⟩
  rw [← hes, ← hts] at CT HQ
  rw [← hes]
  have hsz : (Tryz.prog.info? 35).map (·.size) = some es.size := by rw [hes]; kernel_rfl
  have e0 : es[0]? = some (.int .i64 4) := by rw [hes]; rfl
  have e1 : es[1]? = some (.int .i64 ty) := by rw [hes]; rfl
  generalize ((zT tn tz th tw tp tq tm) && ((zM mw mp mq mm) && (zG gn gz gh gm))) = bk at *
  generalize hR : tagW ty = R at *
  have S0 : Hid (WS b B (w.alloc (.cells es 35)) l) := h.grew ((Grew.refl w).alloc _)
  have T0 : Hid (WT b B w (w.alloc (.cells es 35))) := WT.of_grew ((Grew.refl w).alloc _)
  have N0 : Hid ((w.alloc (.cells es 35)).heap[w.heap.size]? = some (.cells es 35 (0, 0))) := heap_alloc_last _ _
  have c0 := (cell_of N0.out 0).trans e0
  have hb : b < w.heap.size := h.blt
  clear h hes hts hR
  cases bk with
  | false =>
    unfold extP
    rw [if_neg (by simp)]
    go_enter Tryz.func32, Tryz.ntmps32
    go_wp2_with fail
    refine (W2.okc (CK.out _ S0.out) rfl).mono ?_
    rintro en w1 ⟨rfl, t1, s1⟩
    have T1 : Hid (WT b B w w1) := T0.out.trans t1
    have S1 : Hid (WS b B w1 (l ++ [4])) := s1
    have N1 : Hid (w1.heap[w.heap.size]? = some (.cells es 35 (0, 0))) := t1.other N0.out (by omega) (NoT.of N0.out (by decide))
    have k0 := (cell_of N1.out 0).trans e0
    clear t1 s1 T0 S0 N0 c0
    go_wp2_with fail
    refine wp_region_any (by kernel_rfl) ?_
    refine wpAny_take (i := 0) (v := .pointer (some ⟨b, 0, none⟩)) rfl (by kernel_rfl) (by kernel_rfl) (by kernel_rfl) (fun _ _ _ h => h) (Or.inl ⟨by rfl, fun w' => by go_simp⟩) ?_
    try simp only [Act.put, List.setIfInBounds_toArray, List.set_cons_zero, List.set_cons_succ]
    refine wpAny_ready (rs := [1, 2]) (by kernel_rfl) (by simp) ?_
    refine AllReady.cons rfl (fun K hK => ?_) (AllReady.cons rfl (fun K hK => ?_) AllReady.nil)
    · refine step_load_row 35 (.tmp 3) rfl rfl w.heap.size rfl es (run_loadVar_row _ _ 35 35 es (0, 0) _ N1.out Tryz.underlying35 rfl hsz) ?_
      refine hK _ _ ?_
      try simp only [Act.put, List.setIfInBounds_toArray, List.set_cons_zero, List.set_cons_succ]
      refine wpAny_ready (rs := [2]) (by kernel_rfl) (by simp) ?_
      refine AllReady.cons rfl (fun K hK => ?_) AllReady.nil
      refine step_load_row 35 (.tmp 3) rfl rfl w.heap.size rfl es (run_loadVar_row _ _ 35 35 es (0, 0) _ N1.out Tryz.underlying35 rfl hsz) ?_
      refine hK _ _ ?_
      try simp only [Act.put, List.setIfInBounds_toArray, List.set_cons_zero, List.set_cons_succ]
      refine wpAny_ready (rs := [3]) (by kernel_rfl) (by simp) ?_
      refine AllReady.cons rfl (fun K hK => ?_) AllReady.nil
      refine step_told (.tmp 10) rfl rfl rfl (CT.out _) ?_
      rintro en w2 ⟨rfl, g2⟩
      refine ⟨_, rfl, ?_⟩
      have G2 : Hid (Grew w1 w2) := ((Grew.refl _).drew).trans g2
      have N2 : Hid (w2.heap[w.heap.size]? = some (.cells es 35 (0, 0))) := (G2.out.turn []).other N1.out (by simp)
      clear g2
      refine hK _ _ ?_
      try simp only [Act.put, List.setIfInBounds_toArray, List.set_cons_zero, List.set_cons_succ]
      refine wpAny_take (i := 4) (v := .bool false) rfl (by kernel_rfl) (by kernel_rfl) (by kernel_rfl) (fun _ _ _ h => h) (Or.inl ⟨by rfl, fun w' => by go_simp⟩) ?_
      try simp only [Act.put, List.setIfInBounds_toArray, List.set_cons_zero, List.set_cons_succ]
      refine wpAny_ready (rs := [5]) (by kernel_rfl) (by simp) ?_
      refine AllReady.cons rfl (fun K hK => ?_) AllReady.nil
      refine step_need (.tmp 8) (.tmp 12) rfl rfl rfl rfl (need_no (l := l ++ [4]) (S1.out.grew G2.out)) ?_
      rintro en w3 ⟨⟨p, rfl⟩, h3⟩
      refine Or.inr ⟨_, rfl, ?_⟩
      obtain rfl := h3.symm
      exact ⟨rfl, ⟨p, rfl⟩, T1.out.trans (WT.of_grew G2.out)⟩
    · refine step_load_row 35 (.tmp 3) rfl rfl w.heap.size rfl es (run_loadVar_row _ _ 35 35 es (0, 0) _ N1.out Tryz.underlying35 rfl hsz) ?_
      refine hK _ _ ?_
      try simp only [Act.put, List.setIfInBounds_toArray, List.set_cons_zero, List.set_cons_succ]
      refine wpAny_ready (rs := [1, 3]) (by kernel_rfl) (by simp) ?_
      refine AllReady.cons rfl (fun K hK => ?_) (AllReady.cons rfl (fun K hK => ?_) AllReady.nil)
      · refine step_load_row 35 (.tmp 3) rfl rfl w.heap.size rfl es (run_loadVar_row _ _ 35 35 es (0, 0) _ N1.out Tryz.underlying35 rfl hsz) ?_
        refine hK _ _ ?_
        try simp only [Act.put, List.setIfInBounds_toArray, List.set_cons_zero, List.set_cons_succ]
        refine wpAny_ready (rs := [3]) (by kernel_rfl) (by simp) ?_
        refine AllReady.cons rfl (fun K hK => ?_) AllReady.nil
        refine step_told (.tmp 10) rfl rfl rfl (CT.out _) ?_
        rintro en w2 ⟨rfl, g2⟩
        refine ⟨_, rfl, ?_⟩
        have G2 : Hid (Grew w1 w2) := ((Grew.refl _).drew).trans g2
        have N2 : Hid (w2.heap[w.heap.size]? = some (.cells es 35 (0, 0))) := (G2.out.turn []).other N1.out (by simp)
        clear g2
        refine hK _ _ ?_
        try simp only [Act.put, List.setIfInBounds_toArray, List.set_cons_zero, List.set_cons_succ]
        refine wpAny_take (i := 4) (v := .bool false) rfl (by kernel_rfl) (by kernel_rfl) (by kernel_rfl) (fun _ _ _ h => h) (Or.inl ⟨by rfl, fun w' => by go_simp⟩) ?_
        try simp only [Act.put, List.setIfInBounds_toArray, List.set_cons_zero, List.set_cons_succ]
        refine wpAny_ready (rs := [5]) (by kernel_rfl) (by simp) ?_
        refine AllReady.cons rfl (fun K hK => ?_) AllReady.nil
        refine step_need (.tmp 8) (.tmp 12) rfl rfl rfl rfl (need_no (l := l ++ [4]) (S1.out.grew G2.out)) ?_
        rintro en w3 ⟨⟨p, rfl⟩, h3⟩
        refine Or.inr ⟨_, rfl, ?_⟩
        obtain rfl := h3.symm
        exact ⟨rfl, ⟨p, rfl⟩, T1.out.trans (WT.of_grew G2.out)⟩
      · refine step_told (.tmp 10) rfl rfl rfl (CT.out _) ?_
        rintro en w2 ⟨rfl, g2⟩
        refine ⟨_, rfl, ?_⟩
        have G2 : Hid (Grew w1 w2) := ((Grew.refl _).drew).trans g2
        have N2 : Hid (w2.heap[w.heap.size]? = some (.cells es 35 (0, 0))) := (G2.out.turn []).other N1.out (by simp)
        clear g2
        refine hK _ _ ?_
        try simp only [Act.put, List.setIfInBounds_toArray, List.set_cons_zero, List.set_cons_succ]
        refine wpAny_ready (rs := [1]) (by kernel_rfl) (by simp) ?_
        refine AllReady.cons rfl (fun K hK => ?_) AllReady.nil
        refine step_load_row 35 (.tmp 3) rfl rfl w.heap.size rfl es (run_loadVar_row _ _ 35 35 es (0, 0) _ N2.out Tryz.underlying35 rfl hsz) ?_
        refine hK _ _ ?_
        try simp only [Act.put, List.setIfInBounds_toArray, List.set_cons_zero, List.set_cons_succ]
        refine wpAny_take (i := 4) (v := .bool false) rfl (by kernel_rfl) (by kernel_rfl) (by kernel_rfl) (fun _ _ _ h => h) (Or.inl ⟨by rfl, fun w' => by go_simp⟩) ?_
        try simp only [Act.put, List.setIfInBounds_toArray, List.set_cons_zero, List.set_cons_succ]
        refine wpAny_ready (rs := [5]) (by kernel_rfl) (by simp) ?_
        refine AllReady.cons rfl (fun K hK => ?_) AllReady.nil
        refine step_need (.tmp 8) (.tmp 12) rfl rfl rfl rfl (need_no (l := l ++ [4]) (S1.out.grew G2.out)) ?_
        rintro en w3 ⟨⟨p, rfl⟩, h3⟩
        refine Or.inr ⟨_, rfl, ?_⟩
        obtain rfl := h3.symm
        exact ⟨rfl, ⟨p, rfl⟩, T1.out.trans (WT.of_grew G2.out)⟩
  | true =>
    unfold extP
    rw [if_pos rfl]
    cases R with
    | error e =>
      go_enter Tryz.func32, Tryz.ntmps32
      go_wp2_with fail
      refine (W2.okc (CK.out _ S0.out) rfl).mono ?_
      rintro en w1 ⟨rfl, t1, s1⟩
      have T1 : Hid (WT b B w w1) := T0.out.trans t1
      have S1 : Hid (WS b B w1 (l ++ [4])) := s1
      have N1 : Hid (w1.heap[w.heap.size]? = some (.cells es 35 (0, 0))) := t1.other N0.out (by omega) (NoT.of N0.out (by decide))
      have k0 := (cell_of N1.out 0).trans e0
      clear t1 s1 T0 S0 N0 c0
      go_wp2_with fail
      refine wp_region_any (by kernel_rfl) ?_
      refine wpAny_take (i := 0) (v := .pointer (some ⟨b, 0, none⟩)) rfl (by kernel_rfl) (by kernel_rfl) (by kernel_rfl) (fun _ _ _ h => h) (Or.inl ⟨by rfl, fun w' => by go_simp⟩) ?_
      try simp only [Act.put, List.setIfInBounds_toArray, List.set_cons_zero, List.set_cons_succ]
      refine wpAny_ready (rs := [1, 2]) (by kernel_rfl) (by simp) ?_
      refine AllReady.cons rfl (fun K hK => ?_) (AllReady.cons rfl (fun K hK => ?_) AllReady.nil)
      · refine step_load_row 35 (.tmp 3) rfl rfl w.heap.size rfl es (run_loadVar_row _ _ 35 35 es (0, 0) _ N1.out Tryz.underlying35 rfl hsz) ?_
        refine hK _ _ ?_
        try simp only [Act.put, List.setIfInBounds_toArray, List.set_cons_zero, List.set_cons_succ]
        refine wpAny_ready (rs := [2]) (by kernel_rfl) (by simp) ?_
        refine AllReady.cons rfl (fun K hK => ?_) AllReady.nil
        refine step_load_row 35 (.tmp 3) rfl rfl w.heap.size rfl es (run_loadVar_row _ _ 35 35 es (0, 0) _ N1.out Tryz.underlying35 rfl hsz) ?_
        refine hK _ _ ?_
        try simp only [Act.put, List.setIfInBounds_toArray, List.set_cons_zero, List.set_cons_succ]
        refine wpAny_ready (rs := [3]) (by kernel_rfl) (by simp) ?_
        refine AllReady.cons rfl (fun K hK => ?_) AllReady.nil
        refine step_told (.tmp 10) rfl rfl rfl (CT.out _) ?_
        rintro en w2 ⟨rfl, g2⟩
        refine ⟨_, rfl, ?_⟩
        have G2 : Hid (Grew w1 w2) := ((Grew.refl _).drew).trans g2
        have N2 : Hid (w2.heap[w.heap.size]? = some (.cells es 35 (0, 0))) := (G2.out.turn []).other N1.out (by simp)
        clear g2
        refine hK _ _ ?_
        try simp only [Act.put, List.setIfInBounds_toArray, List.set_cons_zero, List.set_cons_succ]
        refine wpAny_take (i := 4) (v := .bool true) rfl (by kernel_rfl) (by kernel_rfl) (by kernel_rfl) (fun _ _ _ h => h) (Or.inl ⟨by rfl, fun w' => by go_simp⟩) ?_
        try simp only [Act.put, List.setIfInBounds_toArray, List.set_cons_zero, List.set_cons_succ]
        refine wpAny_ready (rs := [5]) (by kernel_rfl) (by simp) ?_
        refine AllReady.cons rfl (fun K hK => ?_) AllReady.nil
        refine step_need (.tmp 8) (.tmp 12) rfl rfl rfl rfl (need_yes (l := l ++ [4]) (S1.out.grew G2.out)) ?_
        rintro en w3 ⟨rfl, h3⟩
        refine Or.inl ⟨_, rfl, ?_⟩
        obtain rfl := h3.symm
        clear h3
        refine hK _ _ ?_
        try simp only [Act.put, List.setIfInBounds_toArray, List.set_cons_zero, List.set_cons_succ]
        refine wpAny_done (by kernel_rfl) ?_ _
        obtain ⟨T3, S3, N3⟩ : Hid (WT b B w w2) ∧ Hid (WS b B w2 (l ++ [4])) ∧ Hid (w2.heap[w.heap.size]? = some (.cells es 35 (0, 0))) := ⟨T1.out.trans (WT.of_grew G2.out), S1.out.grew G2.out, N2.out⟩
        have n0 := (cell_of N3.out 0).trans e0
        have n1 := (cell_of N3.out 1).trans e1
        go_wp2_with fail
        refine (W2.erc (CP.out _ S3.out) rfl).mono ?_
        rintro en w4 ⟨⟨p, rfl⟩, t4⟩
        have T4 : Hid (WT b B w w4) := T3.out.trans t4
        clear t4
        go_wp2_with fail
        exact ⟨rfl, ⟨p, rfl⟩, T4.out⟩
      · refine step_load_row 35 (.tmp 3) rfl rfl w.heap.size rfl es (run_loadVar_row _ _ 35 35 es (0, 0) _ N1.out Tryz.underlying35 rfl hsz) ?_
        refine hK _ _ ?_
        try simp only [Act.put, List.setIfInBounds_toArray, List.set_cons_zero, List.set_cons_succ]
        refine wpAny_ready (rs := [1, 3]) (by kernel_rfl) (by simp) ?_
        refine AllReady.cons rfl (fun K hK => ?_) (AllReady.cons rfl (fun K hK => ?_) AllReady.nil)
        · refine step_load_row 35 (.tmp 3) rfl rfl w.heap.size rfl es (run_loadVar_row _ _ 35 35 es (0, 0) _ N1.out Tryz.underlying35 rfl hsz) ?_
          refine hK _ _ ?_
          try simp only [Act.put, List.setIfInBounds_toArray, List.set_cons_zero, List.set_cons_succ]
          refine wpAny_ready (rs := [3]) (by kernel_rfl) (by simp) ?_
          refine AllReady.cons rfl (fun K hK => ?_) AllReady.nil
          refine step_told (.tmp 10) rfl rfl rfl (CT.out _) ?_
          rintro en w2 ⟨rfl, g2⟩
          refine ⟨_, rfl, ?_⟩
          have G2 : Hid (Grew w1 w2) := ((Grew.refl _).drew).trans g2
          have N2 : Hid (w2.heap[w.heap.size]? = some (.cells es 35 (0, 0))) := (G2.out.turn []).other N1.out (by simp)
          clear g2
          refine hK _ _ ?_
          try simp only [Act.put, List.setIfInBounds_toArray, List.set_cons_zero, List.set_cons_succ]
          refine wpAny_take (i := 4) (v := .bool true) rfl (by kernel_rfl) (by kernel_rfl) (by kernel_rfl) (fun _ _ _ h => h) (Or.inl ⟨by rfl, fun w' => by go_simp⟩) ?_
          try simp only [Act.put, List.setIfInBounds_toArray, List.set_cons_zero, List.set_cons_succ]
          refine wpAny_ready (rs := [5]) (by kernel_rfl) (by simp) ?_
          refine AllReady.cons rfl (fun K hK => ?_) AllReady.nil
          refine step_need (.tmp 8) (.tmp 12) rfl rfl rfl rfl (need_yes (l := l ++ [4]) (S1.out.grew G2.out)) ?_
          rintro en w3 ⟨rfl, h3⟩
          refine Or.inl ⟨_, rfl, ?_⟩
          obtain rfl := h3.symm
          clear h3
          refine hK _ _ ?_
          try simp only [Act.put, List.setIfInBounds_toArray, List.set_cons_zero, List.set_cons_succ]
          refine wpAny_done (by kernel_rfl) ?_ _
          obtain ⟨T3, S3, N3⟩ : Hid (WT b B w w2) ∧ Hid (WS b B w2 (l ++ [4])) ∧ Hid (w2.heap[w.heap.size]? = some (.cells es 35 (0, 0))) := ⟨T1.out.trans (WT.of_grew G2.out), S1.out.grew G2.out, N2.out⟩
          have n0 := (cell_of N3.out 0).trans e0
          have n1 := (cell_of N3.out 1).trans e1
          go_wp2_with fail
          refine (W2.erc (CP.out _ S3.out) rfl).mono ?_
          rintro en w4 ⟨⟨p, rfl⟩, t4⟩
          have T4 : Hid (WT b B w w4) := T3.out.trans t4
          clear t4
          go_wp2_with fail
          exact ⟨rfl, ⟨p, rfl⟩, T4.out⟩
        · refine step_told (.tmp 10) rfl rfl rfl (CT.out _) ?_
          rintro en w2 ⟨rfl, g2⟩
          refine ⟨_, rfl, ?_⟩
          have G2 : Hid (Grew w1 w2) := ((Grew.refl _).drew).trans g2
          have N2 : Hid (w2.heap[w.heap.size]? = some (.cells es 35 (0, 0))) := (G2.out.turn []).other N1.out (by simp)
          clear g2
          refine hK _ _ ?_
          try simp only [Act.put, List.setIfInBounds_toArray, List.set_cons_zero, List.set_cons_succ]
          refine wpAny_ready (rs := [1]) (by kernel_rfl) (by simp) ?_
          refine AllReady.cons rfl (fun K hK => ?_) AllReady.nil
          refine step_load_row 35 (.tmp 3) rfl rfl w.heap.size rfl es (run_loadVar_row _ _ 35 35 es (0, 0) _ N2.out Tryz.underlying35 rfl hsz) ?_
          refine hK _ _ ?_
          try simp only [Act.put, List.setIfInBounds_toArray, List.set_cons_zero, List.set_cons_succ]
          refine wpAny_take (i := 4) (v := .bool true) rfl (by kernel_rfl) (by kernel_rfl) (by kernel_rfl) (fun _ _ _ h => h) (Or.inl ⟨by rfl, fun w' => by go_simp⟩) ?_
          try simp only [Act.put, List.setIfInBounds_toArray, List.set_cons_zero, List.set_cons_succ]
          refine wpAny_ready (rs := [5]) (by kernel_rfl) (by simp) ?_
          refine AllReady.cons rfl (fun K hK => ?_) AllReady.nil
          refine step_need (.tmp 8) (.tmp 12) rfl rfl rfl rfl (need_yes (l := l ++ [4]) (S1.out.grew G2.out)) ?_
          rintro en w3 ⟨rfl, h3⟩
          refine Or.inl ⟨_, rfl, ?_⟩
          obtain rfl := h3.symm
          clear h3
          refine hK _ _ ?_
          try simp only [Act.put, List.setIfInBounds_toArray, List.set_cons_zero, List.set_cons_succ]
          refine wpAny_done (by kernel_rfl) ?_ _
          obtain ⟨T3, S3, N3⟩ : Hid (WT b B w w2) ∧ Hid (WS b B w2 (l ++ [4])) ∧ Hid (w2.heap[w.heap.size]? = some (.cells es 35 (0, 0))) := ⟨T1.out.trans (WT.of_grew G2.out), S1.out.grew G2.out, N2.out⟩
          have n0 := (cell_of N3.out 0).trans e0
          have n1 := (cell_of N3.out 1).trans e1
          go_wp2_with fail
          refine (W2.erc (CP.out _ S3.out) rfl).mono ?_
          rintro en w4 ⟨⟨p, rfl⟩, t4⟩
          have T4 : Hid (WT b B w w4) := T3.out.trans t4
          clear t4
          go_wp2_with fail
          exact ⟨rfl, ⟨p, rfl⟩, T4.out⟩
    | ok m =>
      go_enter Tryz.func32, Tryz.ntmps32
      go_wp2_with fail
      refine (W2.okc (CK.out _ S0.out) rfl).mono ?_
      rintro en w1 ⟨rfl, t1, s1⟩
      have T1 : Hid (WT b B w w1) := T0.out.trans t1
      have S1 : Hid (WS b B w1 (l ++ [4])) := s1
      have N1 : Hid (w1.heap[w.heap.size]? = some (.cells es 35 (0, 0))) := t1.other N0.out (by omega) (NoT.of N0.out (by decide))
      have k0 := (cell_of N1.out 0).trans e0
      clear t1 s1 T0 S0 N0 c0
      go_wp2_with fail
      refine wp_region_any (by kernel_rfl) ?_
      refine wpAny_take (i := 0) (v := .pointer (some ⟨b, 0, none⟩)) rfl (by kernel_rfl) (by kernel_rfl) (by kernel_rfl) (fun _ _ _ h => h) (Or.inl ⟨by rfl, fun w' => by go_simp⟩) ?_
      try simp only [Act.put, List.setIfInBounds_toArray, List.set_cons_zero, List.set_cons_succ]
      refine wpAny_ready (rs := [1, 2]) (by kernel_rfl) (by simp) ?_
      refine AllReady.cons rfl (fun K hK => ?_) (AllReady.cons rfl (fun K hK => ?_) AllReady.nil)
      · refine step_load_row 35 (.tmp 3) rfl rfl w.heap.size rfl es (run_loadVar_row _ _ 35 35 es (0, 0) _ N1.out Tryz.underlying35 rfl hsz) ?_
        refine hK _ _ ?_
        try simp only [Act.put, List.setIfInBounds_toArray, List.set_cons_zero, List.set_cons_succ]
        refine wpAny_ready (rs := [2]) (by kernel_rfl) (by simp) ?_
        refine AllReady.cons rfl (fun K hK => ?_) AllReady.nil
        refine step_load_row 35 (.tmp 3) rfl rfl w.heap.size rfl es (run_loadVar_row _ _ 35 35 es (0, 0) _ N1.out Tryz.underlying35 rfl hsz) ?_
        refine hK _ _ ?_
        try simp only [Act.put, List.setIfInBounds_toArray, List.set_cons_zero, List.set_cons_succ]
        refine wpAny_ready (rs := [3]) (by kernel_rfl) (by simp) ?_
        refine AllReady.cons rfl (fun K hK => ?_) AllReady.nil
        refine step_told (.tmp 10) rfl rfl rfl (CT.out _) ?_
        rintro en w2 ⟨rfl, g2⟩
        refine ⟨_, rfl, ?_⟩
        have G2 : Hid (Grew w1 w2) := ((Grew.refl _).drew).trans g2
        have N2 : Hid (w2.heap[w.heap.size]? = some (.cells es 35 (0, 0))) := (G2.out.turn []).other N1.out (by simp)
        clear g2
        refine hK _ _ ?_
        try simp only [Act.put, List.setIfInBounds_toArray, List.set_cons_zero, List.set_cons_succ]
        refine wpAny_take (i := 4) (v := .bool true) rfl (by kernel_rfl) (by kernel_rfl) (by kernel_rfl) (fun _ _ _ h => h) (Or.inl ⟨by rfl, fun w' => by go_simp⟩) ?_
        try simp only [Act.put, List.setIfInBounds_toArray, List.set_cons_zero, List.set_cons_succ]
        refine wpAny_ready (rs := [5]) (by kernel_rfl) (by simp) ?_
        refine AllReady.cons rfl (fun K hK => ?_) AllReady.nil
        refine step_need (.tmp 8) (.tmp 12) rfl rfl rfl rfl (need_yes (l := l ++ [4]) (S1.out.grew G2.out)) ?_
        rintro en w3 ⟨rfl, h3⟩
        refine Or.inl ⟨_, rfl, ?_⟩
        obtain rfl := h3.symm
        clear h3
        refine hK _ _ ?_
        try simp only [Act.put, List.setIfInBounds_toArray, List.set_cons_zero, List.set_cons_succ]
        refine wpAny_done (by kernel_rfl) ?_ _
        obtain ⟨T3, S3, N3⟩ : Hid (WT b B w w2) ∧ Hid (WS b B w2 (l ++ [4])) ∧ Hid (w2.heap[w.heap.size]? = some (.cells es 35 (0, 0))) := ⟨T1.out.trans (WT.of_grew G2.out), S1.out.grew G2.out, N2.out⟩
        have n0 := (cell_of N3.out 0).trans e0
        have n1 := (cell_of N3.out 1).trans e1
        go_wp2_with fail
        refine (W2.okc (CP.out _ S3.out) rfl).mono ?_
        rintro en w4 ⟨rfl, t4, s4⟩
        have T4 : Hid (WT b B w w4) := T3.out.trans t4
        have S4 : Hid (WS b B w4 ((l ++ [4]) ++ m)) := s4
        clear t4 s4
        go_wp2_with fail
        go_end0
        exact ⟨rfl, T4.out, by have := S4.out; simpa [List.append_assoc] using this⟩
      · refine step_load_row 35 (.tmp 3) rfl rfl w.heap.size rfl es (run_loadVar_row _ _ 35 35 es (0, 0) _ N1.out Tryz.underlying35 rfl hsz) ?_
        refine hK _ _ ?_
        try simp only [Act.put, List.setIfInBounds_toArray, List.set_cons_zero, List.set_cons_succ]
        refine wpAny_ready (rs := [1, 3]) (by kernel_rfl) (by simp) ?_
        refine AllReady.cons rfl (fun K hK => ?_) (AllReady.cons rfl (fun K hK => ?_) AllReady.nil)
        · refine step_load_row 35 (.tmp 3) rfl rfl w.heap.size rfl es (run_loadVar_row _ _ 35 35 es (0, 0) _ N1.out Tryz.underlying35 rfl hsz) ?_
          refine hK _ _ ?_
          try simp only [Act.put, List.setIfInBounds_toArray, List.set_cons_zero, List.set_cons_succ]
          refine wpAny_ready (rs := [3]) (by kernel_rfl) (by simp) ?_
          refine AllReady.cons rfl (fun K hK => ?_) AllReady.nil
          refine step_told (.tmp 10) rfl rfl rfl (CT.out _) ?_
          rintro en w2 ⟨rfl, g2⟩
          refine ⟨_, rfl, ?_⟩
          have G2 : Hid (Grew w1 w2) := ((Grew.refl _).drew).trans g2
          have N2 : Hid (w2.heap[w.heap.size]? = some (.cells es 35 (0, 0))) := (G2.out.turn []).other N1.out (by simp)
          clear g2
          refine hK _ _ ?_
          try simp only [Act.put, List.setIfInBounds_toArray, List.set_cons_zero, List.set_cons_succ]
          refine wpAny_take (i := 4) (v := .bool true) rfl (by kernel_rfl) (by kernel_rfl) (by kernel_rfl) (fun _ _ _ h => h) (Or.inl ⟨by rfl, fun w' => by go_simp⟩) ?_
          try simp only [Act.put, List.setIfInBounds_toArray, List.set_cons_zero, List.set_cons_succ]
          refine wpAny_ready (rs := [5]) (by kernel_rfl) (by simp) ?_
          refine AllReady.cons rfl (fun K hK => ?_) AllReady.nil
          refine step_need (.tmp 8) (.tmp 12) rfl rfl rfl rfl (need_yes (l := l ++ [4]) (S1.out.grew G2.out)) ?_
          rintro en w3 ⟨rfl, h3⟩
          refine Or.inl ⟨_, rfl, ?_⟩
          obtain rfl := h3.symm
          clear h3
          refine hK _ _ ?_
          try simp only [Act.put, List.setIfInBounds_toArray, List.set_cons_zero, List.set_cons_succ]
          refine wpAny_done (by kernel_rfl) ?_ _
          obtain ⟨T3, S3, N3⟩ : Hid (WT b B w w2) ∧ Hid (WS b B w2 (l ++ [4])) ∧ Hid (w2.heap[w.heap.size]? = some (.cells es 35 (0, 0))) := ⟨T1.out.trans (WT.of_grew G2.out), S1.out.grew G2.out, N2.out⟩
          have n0 := (cell_of N3.out 0).trans e0
          have n1 := (cell_of N3.out 1).trans e1
          go_wp2_with fail
          refine (W2.okc (CP.out _ S3.out) rfl).mono ?_
          rintro en w4 ⟨rfl, t4, s4⟩
          have T4 : Hid (WT b B w w4) := T3.out.trans t4
          have S4 : Hid (WS b B w4 ((l ++ [4]) ++ m)) := s4
          clear t4 s4
          go_wp2_with fail
          go_end0
          exact ⟨rfl, T4.out, by have := S4.out; simpa [List.append_assoc] using this⟩
        · refine step_told (.tmp 10) rfl rfl rfl (CT.out _) ?_
          rintro en w2 ⟨rfl, g2⟩
          refine ⟨_, rfl, ?_⟩
          have G2 : Hid (Grew w1 w2) := ((Grew.refl _).drew).trans g2
          have N2 : Hid (w2.heap[w.heap.size]? = some (.cells es 35 (0, 0))) := (G2.out.turn []).other N1.out (by simp)
          clear g2
          refine hK _ _ ?_
          try simp only [Act.put, List.setIfInBounds_toArray, List.set_cons_zero, List.set_cons_succ]
          refine wpAny_ready (rs := [1]) (by kernel_rfl) (by simp) ?_
          refine AllReady.cons rfl (fun K hK => ?_) AllReady.nil
          refine step_load_row 35 (.tmp 3) rfl rfl w.heap.size rfl es (run_loadVar_row _ _ 35 35 es (0, 0) _ N2.out Tryz.underlying35 rfl hsz) ?_
          refine hK _ _ ?_
          try simp only [Act.put, List.setIfInBounds_toArray, List.set_cons_zero, List.set_cons_succ]
          refine wpAny_take (i := 4) (v := .bool true) rfl (by kernel_rfl) (by kernel_rfl) (by kernel_rfl) (fun _ _ _ h => h) (Or.inl ⟨by rfl, fun w' => by go_simp⟩) ?_
          try simp only [Act.put, List.setIfInBounds_toArray, List.set_cons_zero, List.set_cons_succ]
          refine wpAny_ready (rs := [5]) (by kernel_rfl) (by simp) ?_
          refine AllReady.cons rfl (fun K hK => ?_) AllReady.nil
          refine step_need (.tmp 8) (.tmp 12) rfl rfl rfl rfl (need_yes (l := l ++ [4]) (S1.out.grew G2.out)) ?_
          rintro en w3 ⟨rfl, h3⟩
          refine Or.inl ⟨_, rfl, ?_⟩
          obtain rfl := h3.symm
          clear h3
          refine hK _ _ ?_
          try simp only [Act.put, List.setIfInBounds_toArray, List.set_cons_zero, List.set_cons_succ]
          refine wpAny_done (by kernel_rfl) ?_ _
          obtain ⟨T3, S3, N3⟩ : Hid (WT b B w w2) ∧ Hid (WS b B w2 (l ++ [4])) ∧ Hid (w2.heap[w.heap.size]? = some (.cells es 35 (0, 0))) := ⟨T1.out.trans (WT.of_grew G2.out), S1.out.grew G2.out, N2.out⟩
          have n0 := (cell_of N3.out 0).trans e0
          have n1 := (cell_of N3.out 1).trans e1
          go_wp2_with fail
          refine (W2.okc (CP.out _ S3.out) rfl).mono ?_
          rintro en w4 ⟨rfl, t4, s4⟩
          have T4 : Hid (WT b B w w4) := T3.out.trans t4
          have S4 : Hid (WS b B w4 ((l ++ [4]) ++ m)) := s4
          clear t4 s4
          go_wp2_with fail
          go_end0
          exact ⟨rfl, T4.out, by have := S4.out; simpa [List.append_assoc] using this⟩
set_option maxRecDepth 100000 in
set_option maxHeartbeats 2000000 in
theorem extern2_no {b B : Nat} {w : World} {l : List Int} (h : WS b B w l) (k : Int) (es : Array Value) (e0 : es[0]? = some (.int .i64 k)) (hk : ¬ (0 ≤ k ∧ k ≤ 4)) (hl : l.length ≤ 17592186030000) :
    Calls Tryz.prog 32 #[.pointer (some ⟨b, 0, none⟩), .agg es] w (W2 b B w l (.error 4)) := by
  have CK : Hid (∀ W : World, WS b B W l → Calls Tryz.prog 49 #[.pointer (some ⟨b, 0, none⟩), .int .i64 k] W (W2 b B W l (.error 4))) := fun W u => by
    have := kind2 u k (by omega)
    unfold kindW at this
    rwa [if_neg hk] at this
  have S0 : Hid (WS b B (w.alloc (.cells es 35)) l) := h.grew ((Grew.refl w).alloc _)
  have T0 : Hid (WT b B w (w.alloc (.cells es 35))) := WT.of_grew ((Grew.refl w).alloc _)
  have c0 := (cell_of (heap_alloc_last w (.cells es 35)) 0).trans e0
  clear h hk
  go_enter Tryz.func32, Tryz.ntmps32
  go_wp2_with fail
  refine (W2.erc (CK.out _ S0.out) rfl).mono ?_
  rintro en w1 ⟨⟨p, rfl⟩, t1⟩
  have T1 : Hid (WT b B w w1) := T0.out.trans t1
  clear t1
  go_wp2_with fail
  exact ⟨rfl, ⟨p, rfl⟩, T1.out⟩
def extW (k ty tn th tp tq mp mq gn gh : Int) (tz tw tm mw mm gz gm : Bool) : Except Nat (List Int) := if k = 0 then extP 0 ((zT tn tz th tw tp tq tm) && ((zM mw mp mq mm) && (zG gn gz gh gm))) (uidxW ty) else if k = 1 then extP 1 ((ty == 0) && ((zM mw mp mq mm) && (zG gn gz gh gm))) (tabW ⟨tn, tz, th⟩ tw tp tq tm) else if k = 2 then extP 2 ((ty == 0) && ((zT tn tz th tw tp tq tm) && (zG gn gz gh gm))) (limW mw mp mq mm) else if k = 3 then extP 3 ((ty == 0) && ((zT tn tz th tw tp tq tm) && (zM mw mp mq mm))) (gloW ⟨gn, gz, gh⟩ gm) else if k = 4 then extP 4 ((zT tn tz th tw tp tq tm) && ((zM mw mp mq mm) && (zG gn gz gh gm))) (tagW ty) else .error 4
theorem extern2 {b B : Nat} {w : World} {l : List Int} (h : WS b B w l) (k ty tn th tp tq mp mq gn gh : Int) (tz tw tm mw mm gz gm : Bool) (htp0 : 0 ≤ tp) (htp1 : tp ≤ 18446744073709551615) (htq0 : 0 ≤ tq) (htq1 : tq ≤ 18446744073709551615) (hmp0 : 0 ≤ mp) (hmp1 : mp ≤ 18446744073709551615) (hmq0 : 0 ≤ mq) (hmq1 : mq ≤ 18446744073709551615) (hl : l.length ≤ 17592186030000) :
    Calls Tryz.prog 32 #[.pointer (some ⟨b, 0, none⟩), .agg #[.int .i64 k, .int .i64 ty, .int .i64 tn, .bool tz, .int .i64 th, .bool tw, .int .u64 tp, .int .u64 tq, .bool tm, .bool mw, .int .u64 mp, .int .u64 mq, .bool mm, .int .i64 gn, .bool gz, .int .i64 gh, .bool gm]] w (W2 b B w l (extW k ty tn th tp tq mp mq gn gh tz tw tm mw mm gz gm)) := by
  unfold extW
  by_cases h0 : k = 0
  · rw [if_pos h0]
    subst h0
    exact extern2_0 h 0 ty tn th tp tq mp mq gn gh tz tw tm mw mm gz gm hl
  rw [if_neg h0]
  by_cases h1 : k = 1
  · rw [if_pos h1]
    subst h1
    exact extern2_1 h 1 ty tn th tp tq mp mq gn gh tz tw tm mw mm gz gm htp0 htp1 htq0 htq1 hl
  rw [if_neg h1]
  by_cases h2 : k = 2
  · rw [if_pos h2]
    subst h2
    exact extern2_2 h 2 ty tn th tp tq mp mq gn gh tz tw tm mw mm gz gm hmp0 hmp1 hmq0 hmq1 hl
  rw [if_neg h2]
  by_cases h3 : k = 3
  · rw [if_pos h3]
    subst h3
    exact extern2_3 h 3 ty tn th tp tq mp mq gn gh tz tw tm mw mm gz gm hl
  rw [if_neg h3]
  by_cases h4 : k = 4
  · rw [if_pos h4]
    subst h4
    exact extern2_4 h 4 ty tn th tp tq mp mq gn gh tz tw tm mw mm gz gm hl
  rw [if_neg h4]
  exact extern2_no h k _ rfl (by omega) hl
end Go.Proofs.YtchehejjdinifaaGreatDoor
