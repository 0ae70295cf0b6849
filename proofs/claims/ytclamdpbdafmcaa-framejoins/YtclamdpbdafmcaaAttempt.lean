/-
  The walks of attempt at its two kinds of answers, and of the deferred functions that recover; no statement is proved here.
-/
import Derived.Test.YtclamdpbdafmcaaMem
import Derived.Defers
import Derived.Recover
namespace Go.Proofs.Ytclamdpbdafmcaa
open Go.RowKit
set_option linter.unusedVariables false

theorem assert65 (v : Value) (w : World) : (Instr.typeAssert (.iface 65 v) 20 65 false).run Try.prog w = .ok v w := by kernel_rfl

set_option maxRecDepth 100000 in
theorem caught51 (b : Nat) (p e x y : Int) (older : List PanicEntry) (w : World) (h : w.heap[b]? = some (.cells #[.int .i64 x, .int .i64 y] 65 (0, 0))) :
    CallsD Try.prog 51 #[.pointer (some ⟨b, 0, none⟩)] (.panicking ({ v := .iface 65 (.agg #[.int .i64 p, .int .i64 e]), recovered := false } :: older)) w fun en u' w' =>
      en = .returned (.tuple #[]) ∧ u' = .panicking ({ v := .iface 65 (.agg #[.int .i64 p, .int .i64 e]), recovered := true } :: older) ∧ w' = (w.setCell ⟨b, 0, none⟩ (.int .i64 p)).setCell ⟨b, 1, none⟩ (.int .i64 e) := by
  have c0 := cell_of h 0
  have c1 := cell_of h 1
  have z0 := free_of h 0
  have z1 := free_of h 1
  simp at c0 c1
  clear h
  refine callsD_of_wpS Try.func51 rfl fun c₀ cs hu => ?_
  apply wpS_seq
  apply wpS_region
  simp [wpOpsS, go_sem, recoverD, hu, Try.ntmps51, Exit.thenS]
  refine wpS_of_wp ?_
  rw [show (#[Value.pointer (some { block := b, off := 0 })] ++
          ((Array.replicate 6 undef).setIfInBounds 1
                (Value.iface 65 (Value.agg #[Value.int IntKind.i64 p, Value.int IntKind.i64 e]))).setIfInBounds
            0 (Value.iface 65 (Value.agg #[Value.int IntKind.i64 p, Value.int IntKind.i64 e])) : Array Value) = #[Value.pointer (some { block := b, off := 0 }), Value.iface 65 (Value.agg #[Value.int IntKind.i64 p, Value.int IntKind.i64 e]), Value.iface 65 (Value.agg #[Value.int IntKind.i64 p, Value.int IntKind.i64 e]), undef, undef, undef, undef] from rfl]
  clear hu
  have ha := assert65
  go_wp2
  simp [bodyPostS, results, Try.results51]
theorem idle51 (b : Nat) (w : World) :
    CallsD Try.prog 51 #[.pointer (some ⟨b, 0, none⟩)] .returning w fun en u' w' => en = .returned (.tuple #[]) ∧ u' = .returning ∧ w' = w := by
  refine callsD_of_wpS Try.func51 rfl fun c₀ cs hu => ?_
  apply wpS_seq
  apply wpS_region
  simp [wpOpsS, go_sem, recoverD, hu, Try.ntmps51, Exit.thenS]
  refine wpS_of_wp ?_
  rw [show (#[Value.pointer (some { block := b, off := 0 })] ++
          ((Array.replicate 6 undef).setIfInBounds 1 Value.nilIface).setIfInBounds 0 Value.nilIface : Array Value) = #[Value.pointer (some { block := b, off := 0 }), .nilIface, .nilIface, undef, undef, undef, undef] from rfl]
  go_wp2
  cases c₀
  simp_all [bodyPostS, results, Try.results51]
set_option maxRecDepth 100000 in
theorem attempt34_ok (bc : Nat) (s : ByteArray) (R : World → Prop) (w : World)
    (HC : Calls Try.prog 35 #[.pointer (some ⟨bc, 0, none⟩)] (w.alloc (.cells #[.int .i64 0, .int .i64 0] 65)) fun en w' => en = .returned (.string s) ∧ R w' ∧ w'.heap[w.heap.size]? = some (.cells #[.int .i64 0, .int .i64 0] 65 (0, 0))) :
    Calls Try.prog 34 #[.func (.func 35) #[.pointer (some ⟨bc, 0, none⟩)] #[]] w fun en w' => en = .returned (.tuple #[.string s, .agg #[.int .i64 0, .int .i64 0]]) ∧ ∃ w1, R w1 ∧ Turn [w.heap.size] w1 w' := by
  have hmf : ∀ (fn : Fn) (first cap : Array Value) (w : World), (Instr.makeFunc fn first cap).run Try.prog w = .ok (.func fn first cap) w := fun _ _ _ _ => rfl
  go_enter_defers Try.func34, Try.ntmps34
  go_wp2_with fail
  refine HC.mono ?_
  rintro en w1 ⟨rfl, hr, hh⟩
  have z0 := free_of hh 0
  have z1 := free_of hh 1
  have e0 := cell_of hh 0
  have e1 := cell_of hh 1
  simp at e0 e1
  clear hh HC
  go_wp2_with fail
  refine leaves_cons (f := 51) (args := #[.pointer (some ⟨w.heap.size, 0, none⟩)]) (by simp) (by simp [go_sem]) ?_
  refine (idle51 _ _).mono ?_
  rintro en u' w2 ⟨rfl, rfl, rfl⟩
  simp [Leaves, settle, results, Try.results34, go_sem, e0, e1]
  exact ⟨w1, hr, ((Turn.refl _ _).set (by simp) _).set (by simp) _⟩
set_option maxRecDepth 100000 in
theorem attempt34_bad (bc : Nat) (p e : Int) (R : World → Prop) (w : World)
    (HC : Calls Try.prog 35 #[.pointer (some ⟨bc, 0, none⟩)] (w.alloc (.cells #[.int .i64 0, .int .i64 0] 65)) fun en w' => en = .panicked (flt p e) ∧ R w' ∧ w'.heap[w.heap.size]? = some (.cells #[.int .i64 0, .int .i64 0] 65 (0, 0))) :
    Calls Try.prog 34 #[.func (.func 35) #[.pointer (some ⟨bc, 0, none⟩)] #[]] w fun en w' => en = .returned (.tuple #[.string ⟨#[]⟩, .agg #[.int .i64 p, .int .i64 e]]) ∧ ∃ w1, R w1 ∧ Turn [w.heap.size] w1 w' := by
  have hmf : ∀ (fn : Fn) (first cap : Array Value) (w : World), (Instr.makeFunc fn first cap).run Try.prog w = .ok (.func fn first cap) w := fun _ _ _ _ => rfl
  go_enter_defers Try.func34, Try.ntmps34
  go_wp2_with fail
  refine HC.mono ?_
  rintro en w1 ⟨rfl, hr, hh⟩
  have HH : Hid (w1.heap[w.heap.size]? = some (.cells #[.int .i64 0, .int .i64 0] 65 (0, 0))) := hh
  have e0 := cell_of hh 0
  have e1 := cell_of hh 1
  simp at e0 e1
  clear hh HC
  go_wp2_with fail
  refine leaves_cons (f := 51) (args := #[.pointer (some ⟨w.heap.size, 0, none⟩)]) (by simp) (by simp [go_sem]) ?_
  refine (caught51 _ _ _ 0 0 [] _ HH.out).mono ?_
  rintro en u' w2 ⟨rfl, rfl, rfl⟩
  simp [Leaves, settle, results, Try.results34, go_sem, e0, e1]
  exact ⟨w1, hr, ((Turn.refl _ _).set (by simp) _).set (by simp) _⟩

set_option maxRecDepth 100000 in
theorem caught57 (b : Nat) (p e x y : Int) (older : List PanicEntry) (w : World) (h : w.heap[b]? = some (.cells #[.int .i64 x, .int .i64 y] 65 (0, 0))) :
    CallsD Try.prog 57 #[.pointer (some ⟨b, 0, none⟩)] (.panicking ({ v := .iface 65 (.agg #[.int .i64 p, .int .i64 e]), recovered := false } :: older)) w fun en u' w' =>
      en = .returned (.tuple #[]) ∧ u' = .panicking ({ v := .iface 65 (.agg #[.int .i64 p, .int .i64 e]), recovered := true } :: older) ∧ w' = (w.setCell ⟨b, 0, none⟩ (.int .i64 p)).setCell ⟨b, 1, none⟩ (.int .i64 e) := by
  have c0 := cell_of h 0
  have c1 := cell_of h 1
  have z0 := free_of h 0
  have z1 := free_of h 1
  simp at c0 c1
  clear h
  refine callsD_of_wpS Try.func57 rfl fun c₀ cs hu => ?_
  apply wpS_seq
  apply wpS_region
  simp [wpOpsS, go_sem, recoverD, hu, Try.ntmps57, Exit.thenS]
  refine wpS_of_wp ?_
  rw [show (#[Value.pointer (some { block := b, off := 0 })] ++
          ((Array.replicate 6 undef).setIfInBounds 1
                (Value.iface 65 (Value.agg #[Value.int IntKind.i64 p, Value.int IntKind.i64 e]))).setIfInBounds
            0 (Value.iface 65 (Value.agg #[Value.int IntKind.i64 p, Value.int IntKind.i64 e])) : Array Value) = #[Value.pointer (some { block := b, off := 0 }), Value.iface 65 (Value.agg #[Value.int IntKind.i64 p, Value.int IntKind.i64 e]), Value.iface 65 (Value.agg #[Value.int IntKind.i64 p, Value.int IntKind.i64 e]), undef, undef, undef, undef] from rfl]
  clear hu
  have ha := assert65
  go_wp2
  simp [bodyPostS, results, Try.results57]
theorem idle57 (b : Nat) (w : World) :
    CallsD Try.prog 57 #[.pointer (some ⟨b, 0, none⟩)] .returning w fun en u' w' => en = .returned (.tuple #[]) ∧ u' = .returning ∧ w' = w := by
  refine callsD_of_wpS Try.func57 rfl fun c₀ cs hu => ?_
  apply wpS_seq
  apply wpS_region
  simp [wpOpsS, go_sem, recoverD, hu, Try.ntmps57, Exit.thenS]
  refine wpS_of_wp ?_
  rw [show (#[Value.pointer (some { block := b, off := 0 })] ++
          ((Array.replicate 6 undef).setIfInBounds 1 Value.nilIface).setIfInBounds 0 Value.nilIface : Array Value) = #[Value.pointer (some { block := b, off := 0 }), .nilIface, .nilIface, undef, undef, undef, undef] from rfl]
  go_wp2
  cases c₀
  simp_all [bodyPostS, results, Try.results57]
set_option maxRecDepth 100000 in
theorem attempt40_ok (bc : Nat) (a : Option Addr) (n c : Nat) (R : World → Prop) (w : World)
    (HC : Calls Try.prog 41 #[.pointer (some ⟨bc, 0, none⟩)] (w.alloc (.cells #[.int .i64 0, .int .i64 0] 65)) fun en w' => en = .returned (.slice a n c) ∧ R w' ∧ w'.heap[w.heap.size]? = some (.cells #[.int .i64 0, .int .i64 0] 65 (0, 0))) :
    Calls Try.prog 40 #[.func (.func 41) #[.pointer (some ⟨bc, 0, none⟩)] #[]] w fun en w' => en = .returned (.tuple #[.slice a n c, .agg #[.int .i64 0, .int .i64 0]]) ∧ ∃ w1, R w1 ∧ Turn [w.heap.size] w1 w' := by
  have hmf : ∀ (fn : Fn) (first cap : Array Value) (w : World), (Instr.makeFunc fn first cap).run Try.prog w = .ok (.func fn first cap) w := fun _ _ _ _ => rfl
  go_enter_defers Try.func40, Try.ntmps40
  go_wp2_with fail
  refine HC.mono ?_
  rintro en w1 ⟨rfl, hr, hh⟩
  have z0 := free_of hh 0
  have z1 := free_of hh 1
  have e0 := cell_of hh 0
  have e1 := cell_of hh 1
  simp at e0 e1
  clear hh HC
  go_wp2_with fail
  refine leaves_cons (f := 57) (args := #[.pointer (some ⟨w.heap.size, 0, none⟩)]) (by simp) (by simp [go_sem]) ?_
  refine (idle57 _ _).mono ?_
  rintro en u' w2 ⟨rfl, rfl, rfl⟩
  simp [Leaves, settle, results, Try.results40, go_sem, e0, e1]
  exact ⟨w1, hr, ((Turn.refl _ _).set (by simp) _).set (by simp) _⟩
set_option maxRecDepth 100000 in
theorem attempt40_bad (bc : Nat) (p e : Int) (R : World → Prop) (w : World)
    (HC : Calls Try.prog 41 #[.pointer (some ⟨bc, 0, none⟩)] (w.alloc (.cells #[.int .i64 0, .int .i64 0] 65)) fun en w' => en = .panicked (flt p e) ∧ R w' ∧ w'.heap[w.heap.size]? = some (.cells #[.int .i64 0, .int .i64 0] 65 (0, 0))) :
    Calls Try.prog 40 #[.func (.func 41) #[.pointer (some ⟨bc, 0, none⟩)] #[]] w fun en w' => en = .returned (.tuple #[.slice none 0 0, .agg #[.int .i64 p, .int .i64 e]]) ∧ ∃ w1, R w1 ∧ Turn [w.heap.size] w1 w' := by
  have hmf : ∀ (fn : Fn) (first cap : Array Value) (w : World), (Instr.makeFunc fn first cap).run Try.prog w = .ok (.func fn first cap) w := fun _ _ _ _ => rfl
  go_enter_defers Try.func40, Try.ntmps40
  go_wp2_with fail
  refine HC.mono ?_
  rintro en w1 ⟨rfl, hr, hh⟩
  have HH : Hid (w1.heap[w.heap.size]? = some (.cells #[.int .i64 0, .int .i64 0] 65 (0, 0))) := hh
  have e0 := cell_of hh 0
  have e1 := cell_of hh 1
  simp at e0 e1
  clear hh HC
  go_wp2_with fail
  refine leaves_cons (f := 57) (args := #[.pointer (some ⟨w.heap.size, 0, none⟩)]) (by simp) (by simp [go_sem]) ?_
  refine (caught57 _ _ _ 0 0 [] _ HH.out).mono ?_
  rintro en u' w2 ⟨rfl, rfl, rfl⟩
  simp [Leaves, settle, results, Try.results40, go_sem, e0, e1]
  exact ⟨w1, hr, ((Turn.refl _ _).set (by simp) _).set (by simp) _⟩
end Go.Proofs.Ytclamdpbdafmcaa
