/-
  The walks of written at value types, of the writer's valType at numbers, and of awake; no statement is proved here.
-/
import Derived.Test.YtemaeigfhmnapaaGreatDoorWrB
namespace Go.Proofs.YtemaeigfhmnapaaGreatDoor
open Go.RowKit
set_option linter.unusedVariables false
set_option linter.unusedSimpArgs false
set_option linter.constructorNameAsVariable false

theorem fieldE (p e : Int) (w : World) : (Instr.field 99 (.agg #[.int .i64 p, .int .i64 e]) 1).run Tryz.prog w = .ok (.int .i64 e) w := by kernel_rfl
/- What a call that writes answers. -/
def PAns (w : World) (R : Except Nat (List Int)) (en : Ending) (w' : World) : Prop := match R with
  | .ok m => ∃ rv, en = .returned (.tuple #[rv, .int .i64 0]) ∧ w'.ownsRow w.heap.size 5 1 rv m.length (U8 m) ∧ Grew w w'
  | .error e => en = .returned (.tuple #[.slice none 0 0, .int .i64 e]) ∧ Grew w w'
set_option maxRecDepth 100000 in
set_option maxHeartbeats 1000000 in
theorem wcaughtV (bE : Nat) (p e y : Int) (older : List PanicEntry) (w : World) (hE : w.heap[bE]? = some (ic y 26)) :
    CallsD Tryz.prog 79 #[.pointer (some ⟨bE, 0, none⟩)] (.panicking ({ v := .iface 99 (.agg #[.int .i64 p, .int .i64 e]), recovered := false } :: older)) w fun en u' w' =>
      en = .returned (.tuple #[]) ∧ u' = .panicking ({ v := .iface 99 (.agg #[.int .i64 p, .int .i64 e]), recovered := true } :: older) ∧ w' = w.setCell ⟨bE, 0, none⟩ (.int .i64 e) := by
  have c1 := cell_of hE 0
  have z1 := free_of hE 0
  simp at c1
  clear hE
  refine callsD_of_wpS Tryz.func79 rfl fun c₀ cs hu => ?_
  apply wpS_seq
  apply wpS_region
  simp [wpOpsS, go_sem, recoverD, hu, Tryz.ntmps79, Exit.thenS]
  refine wpS_of_wp ?_
  rw [show (#[Value.pointer (some { block := bE, off := 0 })] ++
          ((Array.replicate 7 undef).setIfInBounds 1 (Value.iface 99 (Value.agg #[Value.int IntKind.i64 p, Value.int IntKind.i64 e]))).setIfInBounds 0 (Value.iface 99 (Value.agg #[Value.int IntKind.i64 p, Value.int IntKind.i64 e])) : Array Value) = #[Value.pointer (some { block := bE, off := 0 }), Value.iface 99 (Value.agg #[Value.int IntKind.i64 p, Value.int IntKind.i64 e]), Value.iface 99 (Value.agg #[Value.int IntKind.i64 p, Value.int IntKind.i64 e]), undef, undef, undef, undef, undef] from rfl]
  clear hu
  have ha := assertF
  have hf := fieldE
  go_wp2
  simp [bodyPostS, results, Tryz.results79]
theorem widleV (bE : Nat) (w : World) :
    CallsD Tryz.prog 79 #[.pointer (some ⟨bE, 0, none⟩)] .returning w fun en u' w' => en = .returned (.tuple #[]) ∧ u' = .returning ∧ w' = w := by
  refine callsD_of_wpS Tryz.func79 rfl fun c₀ cs hu => ?_
  apply wpS_seq
  apply wpS_region
  simp [wpOpsS, go_sem, recoverD, hu, Tryz.ntmps79, Exit.thenS]
  refine wpS_of_wp ?_
  rw [show (#[Value.pointer (some { block := bE, off := 0 })] ++
          ((Array.replicate 7 undef).setIfInBounds 1 Value.nilIface).setIfInBounds 0 Value.nilIface : Array Value) = #[Value.pointer (some { block := bE, off := 0 }), .nilIface, .nilIface, undef, undef, undef, undef, undef] from rfl]
  go_wp2
  cases c₀
  simp_all [bodyPostS, results, Tryz.results79]
set_option maxRecDepth 100000 in
set_option maxHeartbeats 1000000 in
theorem writtenV_any (n hp : Int) (nul : Bool) (w : World) (hT : Tab w) (R : Except Nat (List Int))
    (HC : ∀ (W : World) (b B : Nat), WS b B W [] → Grew w W → Calls Tryz.prog 66 #[.pointer (some ⟨b, 0, none⟩), .agg #[.int .i64 n, .bool nul, .int .i64 hp]] W (WAns b B W [] R)) :
    Calls Tryz.prog 65 #[.agg #[.int .i64 n, .bool nul, .int .i64 hp], .func (.func 66) #[] #[]] w (PAns w R) := by
  have hmf : ∀ (fn : Fn) (first cap : Array Value) (w : World), (Instr.makeFunc fn first cap).run Tryz.prog w = .ok (.func fn first cap) w := fun _ _ _ _ => rfl
  have HT : Hid (Tab w) := hT
  have hpos := hT.pos
  have HCC : Hid (∀ (W : World) (b B : Nat), WS b B W [] → Grew w W → Calls Tryz.prog 66 #[.pointer (some ⟨b, 0, none⟩), .agg #[.int .i64 n, .bool nul, .int .i64 hp]] W (WAns b B W [] R)) := HC
  clear hT HC
  go_enter_defers Tryz.func65, Tryz.ntmps65
  go_wp2_with fail
  generalize hW : ((w.alloc (Obj.cells #[Value.int IntKind.i64 n, Value.bool nul, Value.int IntKind.i64 hp] 32)).alloc (Obj.cells #[Value.int IntKind.i64 0] 26)).alloc (Obj.cells #[Value.slice none 0 0] 134) = W
  have G0 : Hid (Grew w W) := by rw [← hW]; exact (((Grew.refl w).alloc _).alloc _).alloc _
  obtain ⟨X0, E0, o0⟩ : Hid (W.heap[w.heap.size]? = some (.cells #[.int .i64 n, .bool nul, .int .i64 hp] 32 (0, 0))) ∧ Hid (W.heap[w.heap.size + 1]? = some (ic 0 26)) ∧ W.heap[w.heap.size + 1 + 1]? = some (wob (.slice none 0 0)) := by
    rw [← hW]
    exact heap_three _ _ _ _
  have hsz : W.heap.size = w.heap.size + 1 + 1 + 1 := by rw [← hW]; simp
  have S0 : Hid (WS (w.heap.size + 1 + 1) (w.heap.size + 1 + 1 + 1) W []) := ⟨⟨_, o0, World.ownsRow_nil _ _ _ _⟩, by omega, by omega, HT.out.grew G0.out, by omega, by omega⟩
  clear hW o0
  have V := HCC.out W _ _ S0.out G0.out
  cases R with
  | error e =>
    refine V.mono ?_
    rintro en w2 ⟨⟨p, rfl⟩, t2⟩
    have g2 : Grew w w2 := (t2.turn (G0.out.turn _) (by omega)).grew (Grew.refl w) (by intro y hy; simp at hy; omega)
    have E3 := t2.other E0.out (by omega) (by omega)
    have c0 := cell_of E3 0
    simp [ic] at c0
    clear V t2
    unfold flt
    go_wp2_with fail
    refine leaves_cons (f := 79) (args := #[.pointer (some ⟨w.heap.size + 1, 0, none⟩)]) (by simp) (by simp [go_sem]) ?_
    refine (wcaughtV _ p e 0 [] _ E3).mono ?_
    rintro en u' w4 ⟨rfl, rfl, rfl⟩
    simp [Leaves, settle, results, Tryz.results65, go_sem, c0]
    exact ⟨rfl, g2.set (p := ⟨w.heap.size + 1, 0, none⟩) (by simp) _⟩
  | ok m =>
    refine V.mono ?_
    rintro en w2 ⟨rfl, t2, s2⟩
    have G2 : Hid (Grew w w2) := (t2.turn (G0.out.turn _) (by omega)).grew (Grew.refl w) (by intro y hy; simp at hy; omega)
    have E3 : Hid (w2.heap[w.heap.size + 1]? = some (ic 0 26)) := t2.other E0.out (by omega) (by omega)
    obtain ⟨o, ho, hw⟩ := s2.ex
    obtain ⟨oa, oc, rfl⟩ := row_one hw
    have q0 := cell_of ho 0
    have c0 := cell_of E3.out 0
    have y4 := free_of E3.out 0
    simp [ic] at c0
    simp at q0
    have rw1 : w2.ownsRow (w.heap.size + 1 + 1 + 1) 5 1 (.slice oa m.length oc) m.length (U8 m) := by simpa using hw
    have RW : Hid (w2.ownsRow (w.heap.size + 1 + 1 + 1) 5 1 (.slice oa m.length oc) m.length (U8 m)) := rw1
    clear rw1
    clear V t2 s2 ho hw
    go_wp2_with fail
    refine leaves_cons (f := 79) (args := #[.pointer (some ⟨w.heap.size + 1, 0, none⟩)]) (by simp) (by simp [go_sem]) ?_
    refine (widleV _ _).mono ?_
    rintro en u' w5 ⟨rfl, rfl, rfl⟩
    simp [Leaves, settle, results, Tryz.results65, go_sem, c0]
    exact ⟨_, rfl, row_low (row_set RW.out (NoT.of (t := 26) E3.out (by decide)) _) (by omega), G2.out.set (p := ⟨w.heap.size + 1, 0, none⟩) (by simp) _⟩
set_option maxRecDepth 100000 in
set_option maxHeartbeats 1000000 in
theorem wval_num {b B : Nat} {w : World} {l : List Int} (h : WS b B w l) (t : VT) (hn : t.num ≠ 5) (hl : l.length ≤ 70368744177664) :
    Calls Tryz.prog 66 #[.pointer (some ⟨b, 0, none⟩), t.v] w (WAns b B w l (plainW 1 t)) := by
  have H : Hid (WS b B w l) := h
  have G0 : Hid (Grew w (w.alloc (.cells #[.int .i64 t.num, .bool t.null, .int .i64 t.heap] 32))) := (Grew.refl w).alloc _
  have C := plain_any (h.grew G0.out) 1 t hl
  clear h
  obtain ⟨R, hR⟩ : ∃ R, R = plainW 1 t := ⟨_, rfl⟩
  rw [← hR] at C ⊢
  clear hR
  obtain ⟨n, nul, hp⟩ := t
  unfold VT.v vt at *
  simp only at *
  have d : (n == 5) = false := by simpa using hn
  go_enter Tryz.func66, Tryz.ntmps66
  go_wp2_with fail
  refine C.mono ?_
  intro en w2 ha
  clear C
  cases R with
  | error e =>
    obtain ⟨⟨p, rfl⟩, t2⟩ := ha
    have T2 : Hid (TB b B w w2) := (TB.of_grew G0.out).trans t2
    clear t2
    go_wp2_with fail
    exact ⟨rfl, ⟨p, rfl⟩, T2.out⟩
  | ok m =>
    obtain ⟨rfl, t2, s2⟩ := ha
    have F2 : Hid (TB b B w w2 ∧ WS b B w2 (l ++ m)) := ⟨(TB.of_grew G0.out).trans t2, s2⟩
    clear t2 s2
    go_wp2_with fail
    go_end0
    exact ⟨rfl, F2.out⟩
set_option maxRecDepth 100000 in
set_option maxHeartbeats 1000000 in
theorem put1_any (w : World) (hT : Tab w) :
    Calls Tryz.prog 39 #[.agg #[.int .i64 1, .bool false, .int .i64 0]] w fun en w' => ∃ rv, en = .returned (.tuple #[rv, .int .i64 0]) ∧ Reads w' rv [127] ∧ Grew w w' := by
  have C := writtenV_any 1 0 false (w.alloc (.cells #[.int .i64 1, .bool false, .int .i64 0] 32)) (hT.grew ((Grew.refl w).alloc _)) (.ok [127]) (fun W b B hS _ => by
    have := wval_num hS ⟨1, false, 0⟩ (by decide) (by simp)
    rw [show plainW 1 ⟨1, false, 0⟩ = .ok [127] from rfl] at this
    exact this)
  clear hT
  go_enter Tryz.func39, Tryz.ntmps39
  go_wp2_with fail
  refine C.mono ?_
  rintro en w1 ⟨rv, rfl, r1, g1⟩
  have F1 : Hid (Reads w1 rv [127] ∧ Grew w w1) := ⟨Has.reads (base := _) (w0 := w1) ⟨r1, Below.refl _ _, g1.2⟩, ((Grew.refl w).alloc _).trans g1⟩
  obtain ⟨ra, rc, rfl⟩ := row_one r1
  clear C r1 g1
  go_wp2_with fail
  go_ret2
  exact ⟨_, rfl, F1.out⟩
set_option maxRecDepth 100000 in
set_option maxHeartbeats 1000000 in
theorem awake_any (w : World) (hT : Tab w) :
    Calls Tryz.prog 16 #[] w fun en w' => en = .returned (.bool true) ∧ Grew w w' := by
  have C := put1_any w hT
  clear hT
  go_enter Tryz.func16, Tryz.ntmps16
  go_wp2_with fail
  refine C.mono ?_
  rintro en w1 ⟨rv, rfl, r1, g1⟩
  have G1 : Hid (Grew w w1) := g1
  have st := r1.str
  rw [show strOfNums [127] = ⟨#[127]⟩ from by decide +kernel] at st
  obtain ⟨ra, rc, rfl⟩ := r1.len
  have st2 : (convert 22 9 (.slice ra 1 rc)).run Tryz.prog w1 = .ok (.string ⟨#[127]⟩) w1 := st
  clear C r1 g1 st
  go_wp2_with fail
  go_ret
  exact ⟨rfl, G1.out⟩
end Go.Proofs.YtemaeigfhmnapaaGreatDoor
