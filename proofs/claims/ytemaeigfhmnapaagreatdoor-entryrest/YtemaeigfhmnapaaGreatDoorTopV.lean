/-
  The deferred functions that recover; no statement is proved here.
-/
import Derived.Test.YtemaeigfhmnapaaGreatDoorCurT
import Derived.Defers
import Derived.Recover
namespace Go.Proofs.YtemaeigfhmnapaaGreatDoor
open Go.RowKit
set_option linter.unusedVariables false
set_option linter.unusedSimpArgs false
set_option linter.constructorNameAsVariable false

set_option maxRecDepth 100000 in
set_option maxHeartbeats 1000000 in
theorem flag_any {w : World} {b : Nat} {v : Value} {l : List Int} {p : Nat} (h : CU w b v l p) :
    Calls Tryz.prog 51 #[.pointer (some ⟨b, 0, none⟩)] w (Ans (fun x => .bool x) b v l w (flagR l p)) := by
  have H : Hid (CU w b v l p) := h
  have hb : b < w.heap.size := h.lt
  have hl := h.len
  have hle := h.le
  clear h
  unfold flagR
  cases hx : belowR 2 l p with
  | error y =>
    obtain ⟨f, e⟩ := y
    simp only [mapR]
    have U0 : Hid (CU w b v l p) := H.out
    have T0 : Hid (Turn [b] w w) := Turn.refl [b] w
    go_enter Tryz.func51, Tryz.ntmps51
    go_wp2_with fail
    refine (Calls.er_of (below_any U0.out 2 (by decide)) hx).mono ?_
    rintro en w1 ⟨rfl, t1⟩
    have T1 : Hid (Turn [b] w w1) := T0.out.trans t1
    clear t1
    go_wp2_with fail
    exact ⟨rfl, rfl, T1.out⟩
  | ok y =>
    obtain ⟨x, q⟩ := y
    simp only [mapR]
    have U0 : Hid (CU w b v l p) := H.out
    have T0 : Hid (Turn [b] w w) := Turn.refl [b] w
    go_enter Tryz.func51, Tryz.ntmps51
    go_wp2_with fail
    refine (Calls.ok_of (below_any U0.out 2 (by decide)) hx).mono ?_
    rintro en w1 ⟨rfl, t1, u1⟩
    have T1 : Hid (Turn [b] w w1) := T0.out.trans t1
    have U1 : Hid (CU w1 b v l q) := u1
    clear t1 u1 T0 U0
    go_wp2_with fail
    go_ret
    exact ⟨by first | rfl | simp, (Fin.mk_ T1.out U1.out)⟩
end Go.Proofs.YtemaeigfhmnapaaGreatDoor

namespace Go.Proofs.YtemaeigfhmnapaaGreatDoor
open Go.RowKit
set_option linter.unusedVariables false
set_option linter.unusedSimpArgs false
set_option linter.constructorNameAsVariable false

def VT.c (x : VT) : List Value := [.int .i64 x.num, .bool x.null, .int .i64 x.heap]
theorem infoV : (Tryz.prog.info? 32).map (fun i => (i.zero, i.size, i.bytes)) = some (some (.agg #[.int .i64 0, .bool false, .int .i64 0]), 3, 24) := by kernel_rfl
/- The slice holds these elements. -/
def RowV (B : Nat) (w : World) (v : Value) (l : List VT) : Prop := w.ownsRow B 32 3 v l.length (l.flatMap VT.c)
theorem RowV.nil (B : Nat) (w : World) : RowV B w (.slice none 0 0) [] := World.ownsRow_nil _ _ _ _
theorem RowV.snoc {B : Nat} {w : World} {v : Value} {l : List VT} {a : VT} (h : w.ownsRow B 32 3 v (l.length + 1) (l.flatMap VT.c ++ VT.c a)) : RowV B w v (l ++ [a]) := by
  unfold RowV
  rw [List.length_append, List.flatMap_append]
  simpa using h
def AnsV (b : Nat) (v : Value) (l : List Int) (w : World) (r : RS (List VT)) (en : Ending) (w' : World) : Prop := match r with
  | .ok (x, q) => ∃ rv, en = .returned rv ∧ RowV w.heap.size w' rv x ∧ Turn [b] w w' ∧ CU w' b v l q
  | .error (f, e) => en = .panicked (flt f e) ∧ Turn [b] w w'
end Go.Proofs.YtemaeigfhmnapaaGreatDoor

namespace Go.Proofs.YtemaeigfhmnapaaGreatDoor
open Go.RowKit
set_option linter.unusedVariables false
set_option linter.unusedSimpArgs false
set_option linter.constructorNameAsVariable false

def ic (n : Int) (t : TypeId) : Obj := .cells #[.int .i64 n] t (0, 0)
theorem assertF (v : Value) (w : World) : (Instr.typeAssert (.iface 99 v) 20 99 false).run Tryz.prog w = .ok v w := by kernel_rfl
theorem heap_four (w : World) (o1 o2 o3 o4 : Obj) : ((((w.alloc o1).alloc o2).alloc o3).alloc o4).heap[w.heap.size]? = some o1 ∧ ((((w.alloc o1).alloc o2).alloc o3).alloc o4).heap[w.heap.size + 1]? = some o2 ∧ ((((w.alloc o1).alloc o2).alloc o3).alloc o4).heap[w.heap.size + 1 + 1]? = some o3 ∧ ((((w.alloc o1).alloc o2).alloc o3).alloc o4).heap[w.heap.size + 1 + 1 + 1]? = some o4 := by
  have h1 : (w.alloc o1).heap.size = w.heap.size + 1 := by simp
  have h2 : ((w.alloc o1).alloc o2).heap.size = w.heap.size + 1 + 1 := by simp
  have h3 : (((w.alloc o1).alloc o2).alloc o3).heap.size = w.heap.size + 1 + 1 + 1 := by simp
  refine ⟨heap_alloc (heap_alloc (heap_alloc (heap_alloc_last _ _) _) _) _, ?_, ?_, ?_⟩
  · rw [← h1]
    exact heap_alloc (heap_alloc (heap_alloc_last _ _) _) _
  · rw [← h2]
    exact heap_alloc (heap_alloc_last _ _) _
  · rw [← h3]
    exact heap_alloc_last _ _
theorem heap_three (w : World) (o1 o2 o3 : Obj) : (((w.alloc o1).alloc o2).alloc o3).heap[w.heap.size]? = some o1 ∧ (((w.alloc o1).alloc o2).alloc o3).heap[w.heap.size + 1]? = some o2 ∧ (((w.alloc o1).alloc o2).alloc o3).heap[w.heap.size + 1 + 1]? = some o3 := by
  have h1 : (w.alloc o1).heap.size = w.heap.size + 1 := by simp
  have h2 : ((w.alloc o1).alloc o2).heap.size = w.heap.size + 1 + 1 := by simp
  refine ⟨heap_alloc (heap_alloc (heap_alloc_last _ _) _) _, ?_, ?_⟩
  · rw [← h1]
    exact heap_alloc (heap_alloc_last _ _) _
  · rw [← h2]
    exact heap_alloc_last _ _
/- What a call at a place answers. -/
def topR {α : Type} (R : Nat → RS α) (z : α) (l : List Int) (x : Int) : α × Int × Int :=
  if 0 ≤ x ∧ x ≤ l.length then match R x.toNat with
    | .ok (a, q) => (a, q, 0)
    | .error (f, e) => (z, f, e)
  else (z, 0, 1)
theorem topR_in {α : Type} {R : Nat → RS α} {z : α} {l : List Int} {p : Nat} (hp : p ≤ l.length) : topR R z l p = match R p with
    | .ok (a, q) => (a, (q : Int), 0)
    | .error (f, e) => (z, (f : Int), (e : Int)) := by
  unfold topR
  rw [if_pos (by omega), Int.toNat_natCast]
theorem topR_out {α : Type} {R : Nat → RS α} {z : α} {l : List Int} {x : Int} (h : ¬ (0 ≤ x ∧ x ≤ l.length)) : topR R z l x = (z, 0, 1) := by
  unfold topR; rw [if_neg h]
def ansV (x : VT × Int × Int) : Value := .tuple #[x.1.v, .int .i64 x.2.1, .int .i64 x.2.2]
def ansR (x : VT × Int × Int) : Value := .tuple #[x.1.v, .int .i64 x.2.1, .int .i64 x.2.2]
end Go.Proofs.YtemaeigfhmnapaaGreatDoor
