/-
  The walk of Name; no statement is proved here.
-/
import Derived.Test.YtjfiggkjdbnjeaaDoorRunO
import Derived.Test.YtjfiggkjdbnjeaaDoorCkW
import Derived.Deep.RegionHeld3
import Derived.RegionTactic
namespace Go.Proofs.YtjfiggkjdbnjeaaDoor
open Go.RowKit
set_option linter.unusedVariables false
set_option linter.unusedSimpArgs false

theorem lastF_mem (op : Int) : ∀ (l : List (Int × List UInt8 × List UInt8)) f, (lastF op l f = f) ∨ (lastF op l f ∈ l ∧ (lastF op l f).1 ≤ op)
  | [], f => Or.inl rfl
  | r :: l, f => by
    rw [lastF]
    rcases lastF_mem op l (if r.1 ≤ op then r else f) with h | h
    · rw [h]
      by_cases hr : r.1 ≤ op
      · rw [if_pos hr]; exact Or.inr ⟨by simp, hr⟩
      · rw [if_neg hr]; exact Or.inl rfl
    · exact Or.inr ⟨by simp [h.1], h.2⟩
theorem RL_fine : ∀ r ∈ RL, 0 ≤ r.1 ∧ r.1 ≤ 64520 ∧ (r.2.2.all fun c => decide (c.toNat < 128)) = true ∧ r.2.2.length ≤ 1000 ∧ r.2.1.length ≤ 1000 ∧ ((cutW r.2.2 []).all fun x => decide (x.length ≤ 1000)) = true ∧ (cutW r.2.2 []).length ≤ 1000 := by decide +kernel
theorem last_fine (op : Int) : 0 ≤ (lastR op).1 ∧ (lastR op).1 ≤ 64520 ∧ (∀ c ∈ (lastR op).2.2, c.toNat < 128) ∧ (lastR op).2.2.length ≤ 1000 ∧ (lastR op).2.1.length ≤ 1000 ∧ (∀ x ∈ cutW (lastR op).2.2 [], x.length ≤ 1000) ∧ (cutW (lastR op).2.2 []).length ≤ 1000 ∧ ((lastR op).1 ≤ op ∨ (lastR op).1 = 0) := by
  rcases lastF_mem op RL (0, [], []) with h | ⟨h, hle⟩
  · rw [show lastR op = (0, [], []) from h]
    exact ⟨by decide, by decide, by simp, by decide, by decide, by simp [cutW], by decide, Or.inr rfl⟩
  · obtain ⟨h1, h2, h3, h4, h5, h6, h7⟩ := RL_fine _ h
    refine ⟨h1, h2, fun c hc => ?_, h4, h5, fun x hx => ?_, h7, Or.inl hle⟩
    · exact of_decide_eq_true (List.all_eq_true.1 h3 c hc)
    · exact of_decide_eq_true (List.all_eq_true.1 h6 x hx)
theorem str_add (a b : List UInt8) (ha : a.length ≤ 1000) (hb : b.length ≤ 1000) (W : World) : (Op.stringOp .add (BA a) (BA b)).run Tryd.prog W = .ok (.string (BA (a ++ b))) W := by
  rw [run_string_add_sum W _ _ (by rw [BA_size, BA_size]; omega), BA_app]
/- A row of texts at a place. -/
theorem row_at {w : World} {B : Nat} {e : TypeId} {k : Nat} {v : Value} {n : Nat} {cs : List Value} (h : w.ownsRow B e k v n cs) (hn : 0 < n) : ∃ g c, v = .slice (some ⟨g, 0, none⟩) n c ∧ n ≤ c ∧ c ≤ maxLen ∧ g < w.heap.size := by
  obtain ⟨_, ⟨_, h2⟩ | ⟨g, cap, cur, hv, _, hg, h3, h4, _⟩⟩ := h
  · omega
  · exact ⟨g, cap, hv, h3, h4, lt_of_obj hg⟩
theorem wrap_id {x : Int} (h0 : -9223372036854775808 ≤ x) (h1 : x ≤ 9223372036854775807) : IntKind.i64.wrap x = x := by
  rw [IntKind.wrap_i64]; omega
set_option maxRecDepth 100000 in
set_option maxHeartbeats 2000000 in
theorem name_any (op : Int) (h0 : -9223372036854775808 ≤ op) (h1 : op ≤ 9223372036854775807) (w : World) :
    Calls Tryd.prog 26 #[.int .i64 op] w fun e w' => e = .returned (.string (BA (nameP op))) ∧ Grew w w' := by
  have CR : Hid (Calls Tryd.prog 58 #[.int .i64 op] w fun e w' => e = .returned (R3 (lastR op)) ∧ Grew w w') := runOf_any op w
  obtain ⟨f1, f2, f3, f4, f5, f6, f7, f8⟩ := last_fine op
  have HN : Hid (nameP op = nameOf (lastR op) (op - (lastR op).1)) := rfl
  obtain ⟨N, hN⟩ : ∃ N, nameP op = N := ⟨_, rfl⟩
  rw [hN] at HN ⊢
  clear hN
  generalize lastR op = r at *
  obtain ⟨rf, ra, rw_⟩ := r
  simp only at f1 f2 f3 f4 f5 f6 f7 f8 HN
  have CC : Hid (∀ W, Calls Tryd.prog 59 #[.string (BA rw_)] W fun e w' => ∃ v, e = .returned v ∧ w'.ownsRow W.heap.size 9 1 v (cutW rw_ []).length ((cutW rw_ []).map ST) ∧ Grew W w') := fun W => cut_any rw_ f3 (by omega) W
  obtain ⟨L, hL⟩ : ∃ L, cutW rw_ [] = L := ⟨_, rfl⟩
  rw [hL] at CC f6 f7
  have HL : Hid (nameOf (rf, ra, rw_) (op - rf) = if op - rf < 0 then [] else match L[(op - rf).toNat]? with | some x => ra ++ x | none => []) := by
    show nameOf (rf, ra, rw_) (op - rf) = _
    rw [nameOf, hL]
    rfl
  clear hL f3 f4
  unfold R3 at CR
  simp only at CR
  generalize BA rw_ = SW at *
  obtain ⟨SA, hSA⟩ : ∃ SA, BA ra = SA := ⟨_, rfl⟩
  have HA : Hid (∀ (x : List UInt8) (W : World), x ∈ L → (Op.stringOp .add SA (BA x)).run Tryd.prog W = .ok (.string (BA (ra ++ x))) W) := by
    intro x W hx
    rw [← hSA]
    exact str_add ra x f5 (f6 x hx) W
  rw [hSA] at CR
  clear hSA f5 f6
  have hw1 : -9223372036854775808 ≤ op - rf := by omega
  have hw2 : op - rf ≤ 9223372036854775807 := by omega
  go_enter Tryd.func26, Tryd.ntmps26
  go_wp2_with fail
  refine CR.out.mono ?_
  rintro e w1 ⟨rfl, g1⟩
  have G1 : Hid (Grew w w1) := g1
  clear g1 CR
  go_wp2_with fail
  have c0 : (w1.alloc (.cells #[.int .i64 rf, .string SA, .string SW] 110)).cell? ⟨w1.heap.size, 0, none⟩ = some (.int .i64 rf) := by go_simp
  have c1 : (w1.alloc (.cells #[.int .i64 rf, .string SA, .string SW] 110)).cell? ⟨w1.heap.size, 1, none⟩ = some (.string SA) := by go_simp
  have c2 : (w1.alloc (.cells #[.int .i64 rf, .string SA, .string SW] 110)).cell? ⟨w1.heap.size, 2, none⟩ = some (.string SW) := by go_simp
  have G2 : Hid (Grew w (w1.alloc (.cells #[.int .i64 rf, .string SA, .string SW] 110))) := G1.out.alloc _
  have hsz : (w1.alloc (.cells #[.int .i64 rf, .string SA, .string SW] 110)).heap.size = w1.heap.size + 1 := alloc_size _ _
  generalize w1.alloc (.cells #[.int .i64 rf, .string SA, .string SW] 110) = w2 at *
  have hlt2 : w1.heap.size < w2.heap.size := by omega
  clear G1
  go_region_held3 (fun w' => w'.cell? ⟨w1.heap.size, 0, none⟩ = some (.int .i64 rf) ∧ w'.cell? ⟨w1.heap.size, 1, none⟩ = some (.string SA) ∧ w'.cell? ⟨w1.heap.size, 2, none⟩ = some (.string SW)) (go_keep)
    (first
     | (go_at_call 59
        refine (CC.out _).mono ?_
        rintro en w3 ⟨v, rfl, hv, g3⟩
        have g3' : Grew w2 w3 := (by first | exact g3 | exact ((Grew.refl _).drew).trans g3 | exact ((Grew.refl _).drewN _).trans g3)
        have hv' : w3.ownsRow 0 9 1 v L.length (L.map ST) := row_low hv (Nat.zero_le _)
        have G3 : Hid (Grew w w3) := G2.out.trans g3'
        have V3 : Hid (w3.ownsRow 0 9 1 v L.length (L.map ST)) := hv'
        obtain ⟨va, vc, rfl⟩ := row_one hv'
        obtain ⟨hb3, j0, j1, j2⟩ := g3'.c3 w1.heap.size (.int .i64 rf) (.string SA) (.string SW) hlt2 c0 c1 c2
        clear g3 g3' hv hv'))
  have hwr : IntKind.i64.wrap (op - rf) = op - rf := wrap_id hw1 hw2
  rw [hwr]
  by_cases hneg : op - rf < 0
  · have eN : Hid (N = []) := by show N = []; rw [HN.out, HL.out, if_pos hneg]
    clear HN HL HA
    go_wp2_with fail
    go_ret
    rw [eN.out]
    exact ⟨rfl, G3.out⟩
  · obtain ⟨k, hk⟩ : ∃ k : Nat, op - rf = (k : Int) := ⟨(op - rf).toNat, by omega⟩
    rw [hk] at HL HN hneg hwr ⊢
    by_cases hlen : k < L.length
    · have eN : Hid (N = ra ++ L[k]) := by
        show N = _
        rw [HN.out, HL.out, if_neg hneg]
        simp [hlen]
      have hin : L[k] ∈ L := List.getElem_mem hlen
      obtain ⟨g, c, hv, hc1, hc2, hg⟩ := row_at V3.out (by omega)
      injection hv with e1 e2 e3
      subst e1
      subst e3
      have q0 := V3.out.cellAt k (by omega)
      rw [List.getElem?_map, List.getElem?_eq_getElem hlen] at q0
      have hadd := fun W => HA.out L[k] W hin
      generalize L[k] = X at *
      simp only [Option.map_some, ST] at q0
      generalize BA X = SX at *
      have d1 : decide ((k : Int) < 0) = false := by simp
      have d2 : decide ((L.length : Int) ≤ (k : Int)) = false := by simp; omega
      have d3 : (k : Int) < L.length := by omega
      clear HN HL HA hwr hneg hk hin V3
      go_wp2_with fail
      first | go_quiet (fail) | go_region
      all_goals go_wp2_with fail
      all_goals go_ret
      all_goals exact ⟨by rw [eN.out]; rfl, by first | exact G3.out.drewN _ | exact G3.out⟩
    · have eN : Hid (N = []) := by
        show N = []
        rw [HN.out, HL.out, if_neg hneg]
        simp [List.getElem?_eq_none (Nat.not_lt.1 hlen)]
      have d1 : decide ((k : Int) < 0) = false := by simp
      have d2 : decide ((L.length : Int) ≤ (k : Int)) = true := by simp; omega
      clear HN HL HA hwr hneg hk
      go_wp2_with fail
      go_ret
      rw [eN.out]
      exact ⟨rfl, G3.out⟩
end Go.Proofs.YtjfiggkjdbnjeaaDoor
