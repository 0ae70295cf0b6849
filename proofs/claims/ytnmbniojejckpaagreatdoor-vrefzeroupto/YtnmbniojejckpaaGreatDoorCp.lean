/-
  The program's abstract, counted, ofKind, copiedVals, copiedFields; no statement is proved here.
-/
import Derived.Test.YtnmbniojejckpaaGreatDoorTy
import Derived.Deep.RegionHeld3
set_option maxRecDepth 100000
set_option maxHeartbeats 8000000
namespace Go.Proofs.YtnmbniojejckpaaGreatDoor
open Go.RowKit
set_option linter.unusedVariables false
set_option linter.unusedSimpArgs false
theorem take_snoc {α : Type} {l : List α} {i : Nat} {x : α} (h : l[i]? = some x) : l.take (i + 1) = l.take i ++ [x] := by
  rw [List.take_add_one, h]; rfl
/- No list is too long. -/
def Sml (x : SB) : Prop := x.supers.length ≤ 1048576 ∧ x.comp.params.length ≤ 1048576 ∧ x.comp.results.length ≤ 1048576 ∧ x.comp.fields.length ≤ 1048576
theorem RowI.app {B : Nat} {w : World} {v : Value} {l m : List Int} (h : w.ownsRow B 3 1 v (l.length + m.length) (l.flatMap ic1 ++ m.flatMap ic1)) : RowI B w v (l ++ m) := by
  unfold RowI
  rw [List.length_append, List.flatMap_append]
  exact h
def okS (e h : Int) : Bool := decide (0 ≤ h) && decide (h < e)
theorem all_bad {α : Type} {l : List α} {P : α → Bool} {i : Nat} {x : α} (h : l[i]? = some x) (hx : P x = false) : l.all P = false := by
  have hm : x ∈ l := List.mem_of_getElem? h
  cases hb : l.all P with
  | false => rfl
  | true => have := List.all_eq_true.1 hb x hm; rw [hx] at this; cases this
theorem all_good {α : Type} {l : List α} {P : α → Bool} (h : ∀ j y, j < l.length → l[j]? = some y → P y = true) : l.all P = true := by
  rw [List.all_eq_true]
  intro y hy
  obtain ⟨j, hj⟩ := List.getElem?_of_mem hy
  exact h j y (List.getElem?_eq_some_iff.1 hj).1 hj
def cntT : List RT → Nat
  | [] => 0
  | r :: l => r.types.length + cntT l
/- Nothing is too long. -/
def SmlL (L : List RT) : Prop := L.length ≤ 1048576 ∧ cntT L ≤ 1048576 ∧ ∀ r ∈ L, ∀ x ∈ r.types, Sml x
theorem cntT_app (a b : List RT) : cntT (a ++ b) = cntT a + cntT b := by
  induction a with
  | nil => simp [cntT]
  | cons r a ih => rw [List.cons_append, cntT, cntT, ih]; omega
theorem cntT_snoc {L : List RT} {i : Nat} {r : RT} (h : L[i]? = some r) : cntT (L.take (i + 1)) = cntT (L.take i) + r.types.length := by
  rw [take_snoc h, cntT_app]; simp [cntT]
theorem cntT_take (L : List RT) (i : Nat) : cntT (L.take i) ≤ cntT L := by
  have := cntT_app (L.take i) (L.drop i)
  rw [List.take_append_drop] at this
  omega
theorem count_any {w : World} {v : Value} {L : List RT} (h : LR w v L) (hm : L.length ≤ 1048576) (hc : cntT L ≤ 1048576) :
    Calls Tryz.prog 121 #[v] w fun en w' => en = .returned (.int .i64 (cntT L : Int)) ∧ Grew w w' := by
  obtain ⟨a, cap, hv, hcap, hmax⟩ := h.one
  subst hv
  have H : Hid (LR w (.slice a L.length cap) L) := h
  clear h
  go_enter Tryz.func121, Tryz.ntmps121
  go_wp2_with fail
  go_loopw [3, 8] (fun n_ i_ w' => ∃ (i n : Nat), i_ = .int .i64 i ∧ n_ = .int .i64 n ∧ Hid (n = cntT (L.take i)) ∧ n ≤ 1048576 ∧ i ≤ L.length ∧ Hid (Grew w w')) (fun _ i_ _ => L.length - (intOf i_).toNat)
  case atStart => exact ⟨0, 0, rfl, rfl, rfl, by omega, Nat.zero_le _, Grew.refl _⟩
  case round =>
    obtain ⟨i, n, rfl, rfl, HNN, hn, hi, G⟩ := hrel
    by_cases hlt : i < L.length
    · obtain ⟨r, hr⟩ : ∃ r, L[i]? = some r := ⟨_, List.getElem?_eq_getElem hlt⟩
      obtain ⟨b, off, ha, hc', hE⟩ := (H.out.grew G.out).get (by omega)
      subst ha
      obtain ⟨tv, ht, c0, c1⟩ := hE i r hr
      obtain ⟨ta, tc, et, _, _⟩ := ht.one
      subst et
      have d1 : decide ((i : Int) < (L.length : Int)) = true := by simp; omega
      have d2 : decide (i < L.length) = true := by simp; omega
      have HS : Hid (cntT (L.take (i + 1)) = cntT (L.take i) + r.types.length) := cntT_snoc hr
      have hb := cntT_take L (i + 1)
      rw [HS.out, ← HNN.out] at hb
      generalize r.types.length = k at *
      generalize r.explicit = ex at *
      clear hE ht hr
      go_wp2_with fail
      go_roundw
      case rel => exact ⟨i + 1, n + k, by go_num, by go_num, by rw [HS.out, ← HNN.out]; exact rfl, by omega, by omega, G.out.alloc _⟩
      case measure => simp [intOf]; omega
    · have d1 : decide ((i : Int) < (L.length : Int)) = false := by simp; omega
      have hin : L.take i = L := List.take_of_length_le (by omega)
      have e : cntT L = n := by rw [HNN.out, hin]
      go_wp2_with fail
      go_ret
      exact ⟨by rw [e]; rfl, G.out⟩
def absB (h : Int) : Bool := decide (-12 ≤ h) && decide (h ≤ -1)
def VT.cnt (x : VT) : VT := if x.num = 5 then x else ⟨x.num, false, 0⟩
def FT.cnt (x : FT) : FT := ⟨x.ty.cnt, x.mut_⟩
def CT.ofK (c : CT) : CT := if c.kind = 1 then ⟨c.kind, c.params, c.results, []⟩ else if c.kind = 2 ∨ c.kind = 3 then ⟨c.kind, [], [], c.fields⟩ else ⟨c.kind, [], [], []⟩
theorem abstract_any (h : Int) (w : World) : Calls Tryz.prog 152 #[.int .i64 h] w fun en w' => en = .returned (.bool (absB h)) ∧ w' = w := by
  by_cases h1 : -12 ≤ h
  · by_cases h2 : h ≤ -1
    · have e : absB h = true := by unfold absB; simp; omega
      rw [e]
      go_enter Tryz.func152, Tryz.ntmps152
      go_wp2_with fail
      go_ret
      exact ⟨rfl, rfl⟩
    · have e : absB h = false := by unfold absB; simp; omega
      rw [e]
      go_enter Tryz.func152, Tryz.ntmps152
      go_wp2_with fail
      go_ret
      exact ⟨rfl, rfl⟩
  · have e : absB h = false := by unfold absB; simp; omega
    rw [e]
    go_enter Tryz.func152, Tryz.ntmps152
    go_wp2_with fail
    go_ret
    exact ⟨rfl, rfl⟩
def KP (k : Int) (v : Value) : Value := if k = 1 then v else NILS
def KF (k : Int) (v : Value) : Value := if k = 2 ∨ k = 3 then v else NILS
theorem ofKind_any (k : Int) (pv rv fv : Value) (w : World) (hp : ∃ a n c, pv = .slice a n c) (hr : ∃ a n c, rv = .slice a n c) (hf : ∃ a n c, fv = .slice a n c) :
    Calls Tryz.prog 147 #[.agg #[.int .i64 k, pv, rv, fv]] w fun en w' => en = .returned (.agg #[.int .i64 k, KP k pv, KP k rv, KF k fv]) ∧ Grew w w' := by
  obtain ⟨pa, pn, pc, rfl⟩ := hp
  obtain ⟨ra, rn, rc, rfl⟩ := hr
  obtain ⟨fa, fn, fc, rfl⟩ := hf
  unfold KP KF
  by_cases h1 : k = 1
  · subst h1
    rw [if_pos rfl, if_pos rfl, if_neg (by decide)]
    go_enter Tryz.func147, Tryz.ntmps147
    go_wp2_with fail
    refine bodyPost_ret (v := .agg #[.int .i64 1, .slice pa pn pc, .slice ra rn rc, NILS]) (by simp [results, Tryz.results147, go_sem]) rfl ?_
    exact ⟨rfl, ((Grew.refl w).alloc _).alloc _⟩
  · rw [if_neg h1, if_neg h1]
    by_cases h2 : k = 2
    · subst h2
      rw [if_pos (Or.inl rfl)]
      go_enter Tryz.func147, Tryz.ntmps147
      go_wp2_with fail
      refine bodyPost_ret (v := .agg #[.int .i64 2, NILS, NILS, .slice fa fn fc]) (by simp [results, Tryz.results147, go_sem]) rfl ?_
      exact ⟨rfl, ((Grew.refl w).alloc _).alloc _⟩
    · by_cases h3 : k = 3
      · subst h3
        rw [if_pos (Or.inr rfl)]
        go_enter Tryz.func147, Tryz.ntmps147
        go_wp2_with fail
        refine bodyPost_ret (v := .agg #[.int .i64 3, NILS, NILS, .slice fa fn fc]) (by simp [results, Tryz.results147, go_sem]) rfl ?_
        exact ⟨rfl, ((Grew.refl w).alloc _).alloc _⟩
      · rw [if_neg (by omega)]
        have d1 : (k == 1) = false := by simpa using h1
        have d2 : (k == 2) = false := by simpa using h2
        have d3 : (k == 3) = false := by simpa using h3
        go_enter Tryz.func147, Tryz.ntmps147
        go_wp2_with fail
        refine bodyPost_ret (v := .agg #[.int .i64 k, NILS, NILS, NILS]) (by simp [results, Tryz.results147, go_sem]) rfl ?_
        exact ⟨rfl, ((Grew.refl w).alloc _).alloc _⟩
end Go.Proofs.YtnmbniojejckpaaGreatDoor
