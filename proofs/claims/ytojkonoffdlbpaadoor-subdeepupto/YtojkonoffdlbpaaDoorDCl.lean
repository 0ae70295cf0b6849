/-
  The document's Closed, Count, First; the program's Count; no statement is proved here.
-/
import Derived.Test.YtojkonoffdlbpaaDoorDHps
namespace Go.Proofs.YtojkonoffdlbpaaDoor
open Go.RowKit
set_option linter.unusedVariables false
set_option linter.unusedSimpArgs false

def okS (e h : Int) : Bool := decide (0 ≤ h) && decide (h < e)
def okA (e h : Int) : Bool := decide (h < e) && decide (-12 ≤ h)
def fineB (x : SB) (e : Int) : Bool := x.supers.all (okS e) && (allL x).all (okA e)
theorem allL_len {x : SB} (h : Sml x) : (allL x).length ≤ 4194304 := by
  obtain ⟨h1, h2, h3, h4⟩ := h
  have q1 := heapsL_len x.comp.params
  have q2 := heapsL_len x.comp.results
  have q3 := heapsL_len (x.comp.fields.map FT.ty)
  rw [List.length_map] at q3
  unfold allL
  rw [List.length_append, List.length_append, List.length_append]
  omega
theorem all_bad {α : Type} {l : List α} {P : α → Bool} {i : Nat} {x : α} (h : l[i]? = some x) (hx : P x = false) : l.all P = false := by
  have hm : x ∈ l := List.mem_of_getElem? h
  cases hb : l.all P with
  | false => rfl
  | true => have := List.all_eq_true.1 hb x hm; rw [hx] at this; cases this
theorem all_good {α : Type} {l : List α} {P : α → Bool} (h : ∀ j y, j < l.length → l[j]? = some y → P y = true) : l.all P = true := by
  rw [List.all_eq_true]
  intro y hy
  obtain ⟨j, hj⟩ := List.getElem?_of_mem hy
  exact h j y (List.getElem?_eq_some_iff.1 hj).1 hj
end Go.Proofs.YtojkonoffdlbpaaDoor

namespace Go.Proofs.YtojkonoffdlbpaaDoor
open Go.RowKit
set_option linter.unusedVariables false
set_option linter.unusedSimpArgs false

def cntT : List RT → Nat
  | [] => 0
  | r :: l => r.types.length + cntT l
def closedF : Nat → List RT → Bool
  | _, [] => true
  | n, r :: l => r.types.all (fun x => fineB x ((n + r.types.length : Nat) : Int)) && closedF (n + r.types.length) l
/- Nothing is too long. -/
def SmlL (L : List RT) : Prop := L.length ≤ 1048576 ∧ cntT L ≤ 1048576 ∧ ∀ r ∈ L, ∀ x ∈ r.types, Sml x
theorem cntT_app (a b : List RT) : cntT (a ++ b) = cntT a + cntT b := by
  induction a with
  | nil => simp [cntT]
  | cons r a ih => rw [List.cons_append, cntT, cntT, ih]; omega
theorem cntT_snoc {L : List RT} {i : Nat} {r : RT} (h : L[i]? = some r) : cntT (L.take (i + 1)) = cntT (L.take i) + r.types.length := by
  rw [take_snoc h, cntT_app]; simp [cntT]
theorem cntT_take (L : List RT) (i : Nat) : cntT (L.take i) ≤ cntT L := by
  have := cntT_app (L.take i) (L.drop i)
  rw [List.take_append_drop] at this
  omega
theorem closedF_at {L : List RT} {i : Nat} {r : RT} (h : L[i]? = some r) (n : Nat) : closedF n (L.drop i) = (r.types.all (fun x => fineB x ((n + r.types.length : Nat) : Int)) && closedF (n + r.types.length) (L.drop (i + 1))) := by
  obtain ⟨hi, hr⟩ := List.getElem?_eq_some_iff.1 h
  rw [List.drop_eq_getElem_cons hi, hr, closedF]
set_option maxRecDepth 100000 in
theorem count_any {w : World} {v : Value} {L : List RT} (h : LR w v L) (hm : L.length ≤ 1048576) (hc : cntT L ≤ 1048576) :
    Calls Tryd.prog 18 #[v] w fun en w' => en = .returned (.int .i64 (cntT L : Int)) ∧ Grew w w' := by
  obtain ⟨a, cap, hv, hcap, hmax⟩ := h.one
  subst hv
  have H : Hid (LR w (.slice a L.length cap) L) := h
  clear h
  go_enter Tryd.func18, Tryd.ntmps18
  go_wp2_with fail
  go_loopw [3, 8] (fun n_ i_ w' => ∃ (i n : Nat), i_ = .int .i64 i ∧ n_ = .int .i64 n ∧ Hid (n = cntT (L.take i)) ∧ n ≤ 1048576 ∧ i ≤ L.length ∧ Hid (Grew w w')) (fun _ i_ _ => L.length - (intOf i_).toNat)
  case atStart => exact ⟨0, 0, rfl, rfl, rfl, by omega, Nat.zero_le _, Grew.refl _⟩
  case round =>
    obtain ⟨i, n, rfl, rfl, HNN, hn, hi, G⟩ := hrel
    by_cases hlt : i < L.length
    · obtain ⟨r, hr⟩ : ∃ r, L[i]? = some r := ⟨_, List.getElem?_eq_getElem hlt⟩
      obtain ⟨b, off, ha, hc', hE⟩ := (H.out.grew G.out).get (by omega)
      subst ha
      obtain ⟨tv, ht, c0, c1⟩ := hE i r hr
      obtain ⟨ta, tc, et, _, _⟩ := ht.one
      subst et
      have d1 : decide ((i : Int) < (L.length : Int)) = true := by simp; omega
      have d2 : decide (i < L.length) = true := by simp; omega
      have HS : Hid (cntT (L.take (i + 1)) = cntT (L.take i) + r.types.length) := cntT_snoc hr
      have hb := cntT_take L (i + 1)
      rw [HS.out, ← HNN.out] at hb
      generalize r.types.length = k at *
      generalize r.explicit = ex at *
      clear hE ht hr
      go_wp2_with fail
      go_roundw
      case rel => exact ⟨i + 1, n + k, by go_num, by go_num, by rw [HS.out, ← HNN.out]; exact rfl, by omega, by omega, G.out.alloc _⟩
      case measure => simp [intOf]; omega
    · have d1 : decide ((i : Int) < (L.length : Int)) = false := by simp; omega
      have hin : L.take i = L := List.take_of_length_le (by omega)
      have e : cntT L = n := by rw [HNN.out, hin]
      go_wp2_with fail
      go_ret
      exact ⟨by rw [e]; rfl, G.out⟩
end Go.Proofs.YtojkonoffdlbpaaDoor
