/-
  The closures of the program's replaced, Roll, Unroll; no statement is proved here.
-/
import Derived.Test.YthchhehmbldmdaaDoorEach
namespace Go.Proofs.YthchhehmbldmdaaDoor
open Go.RowKit
set_option linter.unusedVariables false
set_option linter.unusedSimpArgs false

theorem row_same {w w' : World} {B : Nat} {e : TypeId} {k : Nat} {v : Value} {n : Nat} {cs : List Value} (h : w.ownsRow B e k v n cs) (hg : ∀ g, v.ownBlock = some g → w'.heap[g]? = w.heap[g]?) : w'.ownsRow B e k v n cs := by
  obtain ⟨h1, h2 | ⟨g, cap, cur, hv, hB, hgg, h3⟩⟩ := h
  · exact ⟨h1, Or.inl h2⟩
  · exact ⟨h1, Or.inr ⟨g, cap, cur, hv, hB, (hg g (by rw [hv]; rfl)).trans hgg, h3⟩⟩
def bobj (b : Bool) : Obj := .cells #[.bool b] 4 (0, 0)
def iobj (n : Int) : Obj := .cells #[.int .i64 n] 3 (0, 0)
/- What the closure leaves: the number is turned, and the flag is set still. -/
structure RepO (g j okb : Nat) (m : Int) (w w' : World) : Prop where
  turn : TurnP (fun k => k = g ∨ k = okb) w w'
  num : w'.heap[g]? = (w.setCell ⟨g, j, none⟩ (.int .i64 m)).heap[g]?
  ok : w'.heap[okb]? = some (bobj true)
set_option maxRecDepth 100000 in
theorem rollc_low {w : World} {eb fb : Nat} {n first : Int} {end_ : Int} (he : w.cell? ⟨eb, 0, none⟩ = some (.int .i64 end_)) (hf : w.cell? ⟨fb, 0, none⟩ = some (.int .i64 first)) (h0 : 0 ≤ n) (h1 : n < first) (h2 : n < end_) :
    Calls Tryd.prog 33 #[.int .i64 n, .pointer (some ⟨eb, 0, none⟩), .pointer (some ⟨fb, 0, none⟩)] w fun e w' => e = .returned (.tuple #[.int .i64 n, .bool true]) ∧ w' = w := by
  go_enter Tryd.func33, Tryd.ntmps33
  go_wp2_with fail
  go_ret2
  all_goals exact ⟨rfl, rfl⟩
set_option maxRecDepth 100000 in
theorem rollc_own {w : World} {eb fb : Nat} {n first : Int} {end_ : Int} (he : w.cell? ⟨eb, 0, none⟩ = some (.int .i64 end_)) (hf : w.cell? ⟨fb, 0, none⟩ = some (.int .i64 first)) (h0 : 0 ≤ first) (h1 : first ≤ n) (h2 : n < end_) (h3 : n ≤ 1048576) :
    Calls Tryd.prog 33 #[.int .i64 n, .pointer (some ⟨eb, 0, none⟩), .pointer (some ⟨fb, 0, none⟩)] w fun e w' => e = .returned (.tuple #[.int .i64 (-100 - (n - first)), .bool true]) ∧ w' = w := by
  go_enter Tryd.func33, Tryd.ntmps33
  go_wp2_with fail
  go_ret2
  all_goals exact ⟨rfl, rfl⟩
set_option maxRecDepth 100000 in
theorem unrollc_up {w : World} {rb fb : Nat} {n first : Int} {a : Option Addr} {k c : Nat} (hr : w.cell? ⟨rb, 0, none⟩ = some (.slice a k c)) (hf : w.cell? ⟨fb, 0, none⟩ = some (.int .i64 first)) (h0 : -100 < n) :
    Calls Tryd.prog 34 #[.int .i64 n, .pointer (some ⟨rb, 0, none⟩), .pointer (some ⟨fb, 0, none⟩)] w fun e w' => e = .returned (.tuple #[.int .i64 n, .bool true]) ∧ w' = w := by
  go_enter Tryd.func34, Tryd.ntmps34
  go_wp2_with fail
  go_ret2
  all_goals exact ⟨rfl, rfl⟩
set_option maxRecDepth 100000 in
theorem unrollc_own {w : World} {rb fb : Nat} {n first : Int} {a : Option Addr} {k c : Nat} (hr : w.cell? ⟨rb, 0, none⟩ = some (.slice a k c)) (hf : w.cell? ⟨fb, 0, none⟩ = some (.int .i64 first)) (h0 : n ≤ -100) (h1 : -100 - n < k) (h2 : k ≤ 1048576) (h3 : 0 ≤ first) (h4 : first ≤ 2147483647) :
    Calls Tryd.prog 34 #[.int .i64 n, .pointer (some ⟨rb, 0, none⟩), .pointer (some ⟨fb, 0, none⟩)] w fun e w' => e = .returned (.tuple #[.int .i64 (first + (-100 - n)), .bool true]) ∧ w' = w := by
  have h5 : -1048676 ≤ n := by omega
  go_enter Tryd.func34, Tryd.ntmps34
  go_wp2_with fail
  go_ret2
  all_goals exact ⟨rfl, rfl⟩
theorem call_roll (p q r : Value) (w : World) : (callFunc 33 #[p, q, r]).run Tryd.prog w = .ok (.enter 33 #[p, q, r]) w := by kernel_rfl
set_option maxRecDepth 100000 in
set_option maxHeartbeats 1000000 in
theorem clo_roll {w : World} {g j swb okb : Nat} {h m : Int} {k1 k2 : Value} (hc : w.cell? ⟨g, j, none⟩ = some (.int .i64 h)) (hz : w.frozen? ⟨g, j, none⟩ = false) (hsw : w.cell? ⟨swb, 0, none⟩ = some (.func (.func 33) #[] #[k1, k2])) (hok : w.heap[okb]? = some (bobj true)) (hne : g ≠ okb)
    (hswap : ∀ w' : World, Grew w w' → Calls Tryd.prog 33 #[.int .i64 h, k1, k2] w' fun e w'' => e = .returned (.tuple #[.int .i64 m, .bool true]) ∧ w'' = w') :
    Calls Tryd.prog 46 #[.pointer (some ⟨g, j, none⟩), .pointer (some ⟨swb, 0, none⟩), .pointer (some ⟨okb, 0, none⟩)] w fun e w' => e = .returned UNIT ∧ RepO g j okb m w w' := by
  unfold UNIT
  have HSW : Hid (∀ w' : World, Grew w w' → Calls Tryd.prog 33 #[.int .i64 h, k1, k2] w' fun e w'' => e = .returned (.tuple #[.int .i64 m, .bool true]) ∧ w'' = w') := hswap
  have HOK : Hid (w.heap[okb]? = some (bobj true)) := hok
  have co := cell_of hok 0
  have cf := free_of hok 0
  simp at co
  have hne' : ¬ okb = g := fun h => hne h.symm
  clear hswap hok
  go_enter Tryd.func46, Tryd.ntmps46
  go_wp2_with fail
  go_region_held3 (fun w' => w'.cell? ⟨swb, 0, none⟩ = some (.func (.func 33) #[] #[k1, k2]) ∧ w'.cell? ⟨g, j, none⟩ = some (.int .i64 h)) (go_keep)
    (first
     | (go_at_call 33; refine (HSW.out w.drew (Grew.refl w).drew).mono ?_; rintro en w1 ⟨rfl, h1⟩; obtain rfl := h1.symm))
  all_goals go_wp2_with fail
  all_goals go_region
  all_goals go_wp2_with fail
  all_goals (try go_end0)
  all_goals
    refine ⟨rfl, (((TurnP.refl (fun k => k = g ∨ k = okb) w).set (p := ⟨g, j, none⟩) (Or.inl rfl) _).set (p := ⟨okb, 0, none⟩) (Or.inr rfl) _).drew.drew, ?_, ?_⟩
    · exact Below.heap_setCell _ _ _ _ hne
    · exact heap_set (heap_other HOK.out hne' _) 0 (.bool true)
theorem call_unroll (p q r : Value) (w : World) : (callFunc 34 #[p, q, r]).run Tryd.prog w = .ok (.enter 34 #[p, q, r]) w := by kernel_rfl
set_option maxRecDepth 100000 in
set_option maxHeartbeats 1000000 in
theorem clo_unroll {w : World} {g j swb okb : Nat} {h m : Int} {k1 k2 : Value} (hc : w.cell? ⟨g, j, none⟩ = some (.int .i64 h)) (hz : w.frozen? ⟨g, j, none⟩ = false) (hsw : w.cell? ⟨swb, 0, none⟩ = some (.func (.func 34) #[] #[k1, k2])) (hok : w.heap[okb]? = some (bobj true)) (hne : g ≠ okb)
    (hswap : ∀ w' : World, Grew w w' → Calls Tryd.prog 34 #[.int .i64 h, k1, k2] w' fun e w'' => e = .returned (.tuple #[.int .i64 m, .bool true]) ∧ w'' = w') :
    Calls Tryd.prog 46 #[.pointer (some ⟨g, j, none⟩), .pointer (some ⟨swb, 0, none⟩), .pointer (some ⟨okb, 0, none⟩)] w fun e w' => e = .returned UNIT ∧ RepO g j okb m w w' := by
  unfold UNIT
  have HSW : Hid (∀ w' : World, Grew w w' → Calls Tryd.prog 34 #[.int .i64 h, k1, k2] w' fun e w'' => e = .returned (.tuple #[.int .i64 m, .bool true]) ∧ w'' = w') := hswap
  have HOK : Hid (w.heap[okb]? = some (bobj true)) := hok
  have co := cell_of hok 0
  have cf := free_of hok 0
  simp at co
  have hne' : ¬ okb = g := fun h => hne h.symm
  clear hswap hok
  go_enter Tryd.func46, Tryd.ntmps46
  go_wp2_with fail
  go_region_held3 (fun w' => w'.cell? ⟨swb, 0, none⟩ = some (.func (.func 34) #[] #[k1, k2]) ∧ w'.cell? ⟨g, j, none⟩ = some (.int .i64 h)) (go_keep)
    (first
     | (go_at_call 34; refine (HSW.out w.drew (Grew.refl w).drew).mono ?_; rintro en w1 ⟨rfl, h1⟩; obtain rfl := h1.symm))
  all_goals go_wp2_with fail
  all_goals go_region
  all_goals go_wp2_with fail
  all_goals (try go_end0)
  all_goals
    refine ⟨rfl, (((TurnP.refl (fun k => k = g ∨ k = okb) w).set (p := ⟨g, j, none⟩) (Or.inl rfl) _).set (p := ⟨okb, 0, none⟩) (Or.inr rfl) _).drew.drew, ?_, ?_⟩
    · exact Below.heap_setCell _ _ _ _ hne
    · exact heap_set (heap_other HOK.out hne' _) 0 (.bool true)
end Go.Proofs.YthchhehmbldmdaaDoor
