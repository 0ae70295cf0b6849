/-
  The walks of written at groups, and of PutRecType; no statement is proved here.
-/
import Derived.Test.YtbhbogfdnaadeaaDoorWr8
namespace Go.Proofs.YtbhbogfdnaadeaaDoor
open Go.RowKit
set_option linter.unusedVariables false
set_option linter.unusedSimpArgs false
set_option linter.constructorNameAsVariable false

theorem WT.tb {b B : Nat} {w w' : World} (h : WT b B w w') : TB b B w w' := ⟨h.os, h.tape, h.output, h.size, fun k hk h1 h2 => h.block k hk h1 (Or.inl h2)⟩
theorem W2.wans {b B : Nat} {w : World} {l : List Int} {r : Except Nat (List Int)} {n : FuncId} {args : Array Value} (h : Calls Tryd.prog n args w (W2 b B w l r)) : Calls Tryd.prog n args w (WAns b B w l r) := by
  refine h.mono fun en w' hh => ?_
  cases r with
  | ok m => exact ⟨hh.1, hh.2.1.tb, hh.2.2⟩
  | error e => exact ⟨hh.1, hh.2.tb⟩
set_option maxRecDepth 100000 in
set_option maxHeartbeats 1000000 in
theorem wcaughtG (bE : Nat) (p e y : Int) (older : List PanicEntry) (w : World) (hE : w.heap[bE]? = some (ic y 33)) :
    CallsD Tryd.prog 76 #[.pointer (some ⟨bE, 0, none⟩)] (.panicking ({ v := .iface 126 (.agg #[.int .i64 p, .int .i64 e]), recovered := false } :: older)) w fun en u' w' =>
      en = .returned (.tuple #[]) ∧ u' = .panicking ({ v := .iface 126 (.agg #[.int .i64 p, .int .i64 e]), recovered := true } :: older) ∧ w' = w.setCell ⟨bE, 0, none⟩ (.int .i64 e) := by
  have c1 := cell_of hE 0
  have z1 := free_of hE 0
  simp at c1
  clear hE
  refine callsD_of_wpS Tryd.func76 rfl fun c₀ cs hu => ?_
  apply wpS_seq
  apply wpS_region
  simp [wpOpsS, go_sem, recoverD, hu, Tryd.ntmps76, Exit.thenS]
  refine wpS_of_wp ?_
  rw [show (#[Value.pointer (some { block := bE, off := 0 })] ++
          ((Array.replicate 7 undef).setIfInBounds 1 (Value.iface 126 (Value.agg #[Value.int IntKind.i64 p, Value.int IntKind.i64 e]))).setIfInBounds 0 (Value.iface 126 (Value.agg #[Value.int IntKind.i64 p, Value.int IntKind.i64 e])) : Array Value) = #[Value.pointer (some { block := bE, off := 0 }), Value.iface 126 (Value.agg #[Value.int IntKind.i64 p, Value.int IntKind.i64 e]), Value.iface 126 (Value.agg #[Value.int IntKind.i64 p, Value.int IntKind.i64 e]), undef, undef, undef, undef, undef] from rfl]
  clear hu
  have ha := assertF
  have hf := fieldE
  go_wp2
  simp [bodyPostS, results, Tryd.results76]
theorem widleG (bE : Nat) (w : World) :
    CallsD Tryd.prog 76 #[.pointer (some ⟨bE, 0, none⟩)] .returning w fun en u' w' => en = .returned (.tuple #[]) ∧ u' = .returning ∧ w' = w := by
  refine callsD_of_wpS Tryd.func76 rfl fun c₀ cs hu => ?_
  apply wpS_seq
  apply wpS_region
  simp [wpOpsS, go_sem, recoverD, hu, Tryd.ntmps76, Exit.thenS]
  refine wpS_of_wp ?_
  rw [show (#[Value.pointer (some { block := bE, off := 0 })] ++
          ((Array.replicate 7 undef).setIfInBounds 1 Value.nilIface).setIfInBounds 0 Value.nilIface : Array Value) = #[Value.pointer (some { block := bE, off := 0 }), .nilIface, .nilIface, undef, undef, undef, undef, undef] from rfl]
  go_wp2
  cases c₀
  simp_all [bodyPostS, results, Tryd.results76]
set_option maxRecDepth 100000 in
set_option maxHeartbeats 1000000 in
theorem writtenG_any (ta : Option Addr) (n tc : Nat) (ex : Bool) (w : World) (hT : Tab w) (R : Except Nat (List Int))
    (HC : ∀ (W : World) (b B : Nat), WS b B W [] → Grew w W → w.heap.size ≤ b → Calls Tryd.prog 42 #[.pointer (some ⟨b, 0, none⟩), .agg #[.slice ta n tc, .bool ex]] W (WAns b B W [] R)) :
    Calls Tryd.prog 41 #[.agg #[.slice ta n tc, .bool ex], .func (.func 42) #[] #[]] w (PAns w R) := by
  have hmf : ∀ (fn : Fn) (first cap : Array Value) (w : World), (Instr.makeFunc fn first cap).run Tryd.prog w = .ok (.func fn first cap) w := fun _ _ _ _ => rfl
  have HT : Hid (Tab w) := hT
  have hpos := hT.pos
  have HCC : Hid (∀ (W : World) (b B : Nat), WS b B W [] → Grew w W → w.heap.size ≤ b → Calls Tryd.prog 42 #[.pointer (some ⟨b, 0, none⟩), .agg #[.slice ta n tc, .bool ex]] W (WAns b B W [] R)) := HC
  clear hT HC
  go_enter_defers Tryd.func41, Tryd.ntmps41
  go_wp2_with fail
  generalize hW : ((w.alloc (Obj.cells #[Value.slice ta n tc, Value.bool ex] 28)).alloc (Obj.cells #[Value.int IntKind.i64 0] 33)).alloc (Obj.cells #[Value.slice none 0 0] 128) = W
  have G0 : Hid (Grew w W) := by rw [← hW]; exact (((Grew.refl w).alloc _).alloc _).alloc _
  obtain ⟨X0, E0, o0⟩ : Hid (W.heap[w.heap.size]? = some (.cells #[.slice ta n tc, .bool ex] 28 (0, 0))) ∧ Hid (W.heap[w.heap.size + 1]? = some (ic 0 33)) ∧ W.heap[w.heap.size + 1 + 1]? = some (wob (.slice none 0 0)) := by
    rw [← hW]
    exact heap_three _ _ _ _
  have hsz : W.heap.size = w.heap.size + 1 + 1 + 1 := by rw [← hW]; simp
  have S0 : Hid (WS (w.heap.size + 1 + 1) (w.heap.size + 1 + 1 + 1) W []) := ⟨⟨_, o0, World.ownsRow_nil _ _ _ _⟩, by omega, by omega, HT.out.grew G0.out, by omega, by omega⟩
  clear hW o0
  have V := HCC.out W _ _ S0.out G0.out (by omega)
  cases R with
  | error e =>
    refine V.mono ?_
    rintro en w2 ⟨⟨p, rfl⟩, t2⟩
    have g2 : Grew w w2 := (t2.turn (G0.out.turn _) (by omega)).grew (Grew.refl w) (by intro y hy; simp at hy; omega)
    have E3 := t2.other E0.out (by omega) (by omega)
    have c0 := cell_of E3 0
    simp [ic] at c0
    clear V t2
    unfold flt
    go_wp2_with fail
    refine leaves_cons (f := 76) (args := #[.pointer (some ⟨w.heap.size + 1, 0, none⟩)]) (by simp) (by simp [go_sem]) ?_
    refine (wcaughtG _ p e 0 [] _ E3).mono ?_
    rintro en u' w4 ⟨rfl, rfl, rfl⟩
    simp [Leaves, settle, results, Tryd.results41, go_sem, c0]
    exact ⟨rfl, g2.set (p := ⟨w.heap.size + 1, 0, none⟩) (by simp) _⟩
  | ok m =>
    refine V.mono ?_
    rintro en w2 ⟨rfl, t2, s2⟩
    have G2 : Hid (Grew w w2) := (t2.turn (G0.out.turn _) (by omega)).grew (Grew.refl w) (by intro y hy; simp at hy; omega)
    have E3 : Hid (w2.heap[w.heap.size + 1]? = some (ic 0 33)) := t2.other E0.out (by omega) (by omega)
    obtain ⟨o, ho, hw⟩ := s2.ex
    obtain ⟨oa, oc, rfl⟩ := row_one hw
    have q0 := cell_of ho 0
    have c0 := cell_of E3.out 0
    have y4 := free_of E3.out 0
    simp [ic] at c0
    simp at q0
    have rw1 : w2.ownsRow (w.heap.size + 1 + 1 + 1) 5 1 (.slice oa m.length oc) m.length (U8 m) := by simpa using hw
    have RW : Hid (w2.ownsRow (w.heap.size + 1 + 1 + 1) 5 1 (.slice oa m.length oc) m.length (U8 m)) := rw1
    clear rw1
    clear V t2 s2 ho hw
    go_wp2_with fail
    refine leaves_cons (f := 76) (args := #[.pointer (some ⟨w.heap.size + 1, 0, none⟩)]) (by simp) (by simp [go_sem]) ?_
    refine (widleG _ _).mono ?_
    rintro en u' w5 ⟨rfl, rfl, rfl⟩
    simp [Leaves, settle, results, Tryd.results41, go_sem, c0]
    exact ⟨_, rfl, row_low (row_set RW.out (NoT.of (t := 33) E3.out (by decide)) _) (by omega), G2.out.set (p := ⟨w.heap.size + 1, 0, none⟩) (by simp) _⟩
set_option maxRecDepth 100000 in
set_option maxHeartbeats 1000000 in
theorem putRec_any (w : World) (hT : Tab w) (tv : Value) (ts : List SB) (ex : Bool) (hv : LS w tv ts) (hsm : ∀ x ∈ ts, smallS x) :
    Calls Tryd.prog 13 #[.agg #[tv, .bool ex]] w (PAns w (recW ⟨ts, ex⟩)) := by
  obtain ⟨ta, tc, rfl, _, _⟩ := hv.one
  have C := writtenG_any ta ts.length tc ex (w.alloc (.cells #[.slice ta ts.length tc, .bool ex] 28)) (hT.grew ((Grew.refl w).alloc _)) (recW ⟨ts, ex⟩) (fun W b B hS g hb => W2.wans (recType2 hS (((Grew.refl w).alloc _).trans g) (by rw [alloc_size] at hb; omega) _ ts ex hv hsm (by simp)))
  clear hT hv hsm
  generalize recW ⟨ts, ex⟩ = R at *
  go_enter Tryd.func13, Tryd.ntmps13
  go_wp2_with fail
  refine C.mono ?_
  intro en w1 ha
  clear C
  cases R with
  | error e =>
    obtain ⟨rfl, g1⟩ := ha
    have G1 : Hid (Grew w w1) := ((Grew.refl w).alloc _).trans g1
    clear g1
    go_wp2_with fail
    go_ret2
    exact ⟨rfl, G1.out⟩
  | ok m =>
    obtain ⟨rv, rfl, r1, g1⟩ := ha
    have G1 : Hid (Grew w w1) := ((Grew.refl w).alloc _).trans g1
    have R1 : Hid (w1.ownsRow w.heap.size 5 1 rv m.length (U8 m)) := row_low r1 (by rw [alloc_size]; omega)
    obtain ⟨ra, rc, rfl⟩ := row_one r1
    clear g1 r1
    go_wp2_with fail
    go_ret2
    exact ⟨_, rfl, R1.out, G1.out⟩
end Go.Proofs.YtbhbogfdnaadeaaDoor
