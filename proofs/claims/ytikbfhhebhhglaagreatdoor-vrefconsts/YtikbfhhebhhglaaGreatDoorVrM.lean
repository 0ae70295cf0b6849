/-
  Which opcodes are vref's, as plain data; no statement is proved here.
-/
import Derived.Test.YtikbfhhebhhglaaGreatDoorOpsW
import Derived.BigQuiet
namespace Go.Proofs.YtikbfhhebhhglaaGreatDoor
open Go.RowKit
set_option linter.unusedVariables false
set_option linter.unusedSimpArgs false

def inVR (op : Int) : Bool := (decide (208 ≤ op) && decide (op ≤ 212)) || (decide (64256 ≤ op) && decide (op ≤ 64286))
def VRL : List Int := OL.filter inVR
theorem VRL_len : VRL.length = 36 := by decide +kernel
theorem VRL_rise : riseB VRL = true := by decide +kernel
theorem VRL_has (op : Int) : VRL.any (fun x => decide (x = op)) = inVR op := by
  by_cases h : inVR op = true
  · rw [h]
    have hc : ∀ k : Fin 5, VRL.any (fun x => decide (x = 208 + (k.val : Int))) = true := by decide +kernel
    have hd : ∀ k : Fin 31, VRL.any (fun x => decide (x = 64256 + (k.val : Int))) = true := by decide +kernel
    unfold inVR at h
    simp only [Bool.or_eq_true, Bool.and_eq_true, decide_eq_true_eq] at h
    rcases h with ⟨h1, h2⟩ | ⟨h1, h2⟩
    · obtain ⟨k, rfl⟩ : ∃ k : Nat, op = 208 + (k : Int) := ⟨(op - 208).toNat, by omega⟩
      exact hc ⟨k, by omega⟩
    · obtain ⟨k, rfl⟩ : ∃ k : Nat, op = 64256 + (k : Int) := ⟨(op - 64256).toNat, by omega⟩
      exact hd ⟨k, by omega⟩
  · have h' : inVR op = false := by simpa using h
    rw [h']
    unfold VRL
    rw [List.any_filter, List.any_eq_false]
    intro x _ hx
    simp only [Bool.and_eq_true, decide_eq_true_eq] at hx
    rw [hx.2] at hx
    rw [h'] at hx
    exact absurd hx.1 (by simp)
def CXV (t0 t1 t2 t3 t4 t5 t6 t8 : Option Addr) (m0 m1 m2 m3 m4 m5 m6 m8 k0 k1 k2 k3 k4 k5 k6 k8 : Nat) (dt : Int) : Value := .agg #[.slice t0 m0 k0, .slice t1 m1 k1, .slice t2 m2 k2, .slice t3 m3 k3, .slice t4 m4 k4, .slice t5 m5 k5, .slice t6 m6 k6, .int .i64 dt, .slice t8 m8 k8]
end Go.Proofs.YtikbfhhebhhglaaGreatDoor
