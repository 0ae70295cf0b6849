/-
  The document's fine; no statement is proved here.
-/
import Derived.Test.YtoihkcdjfhmccaaDoorDHps
namespace Go.Proofs.YtoihkcdjfhmccaaDoor
open Go.RowKit
set_option linter.unusedVariables false
set_option linter.unusedSimpArgs false

def okS (e h : Int) : Bool := decide (0 ≤ h) && decide (h < e)
def okA (e h : Int) : Bool := decide (h < e) && decide (-12 ≤ h)
def fineB (x : SB) (e : Int) : Bool := x.supers.all (okS e) && (allL x).all (okA e)
theorem allL_len {x : SB} (h : Sml x) : (allL x).length ≤ 4194304 := by
  obtain ⟨h1, h2, h3, h4⟩ := h
  have q1 := heapsL_len x.comp.params
  have q2 := heapsL_len x.comp.results
  have q3 := heapsL_len (x.comp.fields.map FT.ty)
  rw [List.length_map] at q3
  unfold allL
  rw [List.length_append, List.length_append, List.length_append]
  omega
theorem all_bad {α : Type} {l : List α} {P : α → Bool} {i : Nat} {x : α} (h : l[i]? = some x) (hx : P x = false) : l.all P = false := by
  have hm : x ∈ l := List.mem_of_getElem? h
  cases hb : l.all P with
  | false => rfl
  | true => have := List.all_eq_true.1 hb x hm; rw [hx] at this; cases this
theorem all_good {α : Type} {l : List α} {P : α → Bool} (h : ∀ j y, j < l.length → l[j]? = some y → P y = true) : l.all P = true := by
  rw [List.all_eq_true]
  intro y hy
  obtain ⟨j, hj⟩ := List.getElem?_of_mem hy
  exact h j y (List.getElem?_eq_some_iff.1 hj).1 hj
set_option maxRecDepth 100000 in
set_option maxHeartbeats 1000000 in
theorem fine_any {w : World} {sv pv rv fv : Value} {x : SB} (h : SubR w x sv pv rv fv) (hm : Sml x) (e : Int) :
    Calls Tryd.prog 23 #[.agg #[.bool x.final_, sv, .int .i64 x.comp.kind, pv, rv, fv], .int .i64 e] w fun en w' => en = .returned (.bool (fineB x e)) ∧ Grew w w' := by
  have H1 : Hid (LI w sv x.supers) := h.1
  have HA : Hid (∀ w', Grew w w' → Calls Tryd.prog 55 #[.agg #[.bool x.final_, sv, .int .i64 x.comp.kind, pv, rv, fv]] w' fun en w'' => ∃ u, en = .returned u ∧ RowI w'.heap.size w'' u (allL x) ∧ Grew w' w'') := fun w' g => all_any (h.grew g) hm
  obtain ⟨sa, sc, e1, _, _⟩ := h.1.one
  subst e1
  have m1 := hm.1
  have m2 := allL_len hm
  obtain ⟨R, hR⟩ : ∃ R, R = fineB x e := ⟨_, rfl⟩
  rw [← hR]
  unfold fineB at hR
  generalize allL x = al at *
  generalize x.final_ = fin at *
  generalize x.comp.kind = kind at *
  generalize x.supers = sup at *
  have HR : Hid (R = (sup.all (okS e) && al.all (okA e))) := hR
  have h1 : pv.oneCell' = true := by obtain ⟨_, _, hh, _⟩ := h.2.1.one; subst hh; simp [Value.oneCell']
  have h2 : rv.oneCell' = true := by obtain ⟨_, _, hh, _⟩ := h.2.2.1.one; subst hh; simp [Value.oneCell']
  have h3 : fv.oneCell' = true := by obtain ⟨_, _, hh, _⟩ := h.2.2.2.one; subst hh; simp [Value.oneCell']
  obtain ⟨pa, pc, e2, _, _⟩ := h.2.1.one
  obtain ⟨ra, rc, e3, _, _⟩ := h.2.2.1.one
  obtain ⟨fa, fc, e4, _, _⟩ := h.2.2.2.one
  subst e2 e3 e4
  clear h hR hm h1 h2 h3
  generalize x.comp.params.length = np at *
  generalize x.comp.results.length = nr at *
  generalize x.comp.fields.length = nf at *
  have G0 : Hid (Grew w (w.alloc (.cells #[.bool fin, .slice sa sup.length sc, .int .i64 kind, .slice pa np pc, .slice ra nr rc, .slice fa nf fc] 42))) := (Grew.refl w).alloc _
  have A0 : Hid ((w.alloc (.cells #[.bool fin, .slice sa sup.length sc, .int .i64 kind, .slice pa np pc, .slice ra nr rc, .slice fa nf fc] 42)).heap[w.heap.size]? = some (sobj fin (.slice sa sup.length sc) kind (.slice pa np pc) (.slice ra nr rc) (.slice fa nf fc))) := heap_alloc_last _ _
  generalize hW : (w.alloc (.cells #[.bool fin, .slice sa sup.length sc, .int .i64 kind, .slice pa np pc, .slice ra nr rc, .slice fa nf fc] 42)) = W at *
  obtain ⟨b0, b1, b2, b3, b4, b5⟩ := box_s A0.out
  go_enter Tryd.func23, Tryd.ntmps23
  go_wp2_with fail
  go_loopw [5] (fun i_ w' => ∃ i : Nat, i_ = .int .i64 i ∧ i ≤ sup.length ∧ w' = W ∧ Hid (∀ j y, j < i → sup[j]? = some y → okS e y = true)) (fun i_ _ => sup.length - (intOf i_).toNat)
  case atStart => exact ⟨0, rfl, Nat.zero_le _, rfl, fun j y hj => by omega⟩
  case round =>
    obtain ⟨i, rfl, hi, hwr, HI⟩ := hrel
    subst hwr
    by_cases hlt : i < sup.length
    · obtain ⟨x, hx⟩ : ∃ x, sup[i]? = some x := ⟨_, List.getElem?_eq_getElem hlt⟩
      obtain ⟨sb, so, hsa, hsc, hE⟩ := (H1.out.grew G0.out).get (by omega)
      subst hsa
      have d0 := hE i x hx
      unfold EI at d0
      rw [Nat.mul_one] at d0
      clear hE
      have e1 : decide ((i : Int) < (sup.length : Int)) = true := by simp; omega
      have e2 : decide (i < sup.length) = true := by simp; omega
      by_cases h0 : x < 0
      · have hf : R = false := by rw [HR.out, all_bad hx (by simp [okS]; omega)]; rfl
        subst hf
        clear hx HR
        go_wp2_with fail
        go_ret
        exact ⟨rfl, G0.out⟩
      · by_cases h4 : e ≤ x
        · have hf : R = false := by rw [HR.out, all_bad hx (by simp [okS]; omega)]; rfl
          subst hf
          clear hx HR
          go_wp2_with fail
          go_ret
          exact ⟨rfl, G0.out⟩
        · have HI' : Hid (∀ j y, j < i + 1 → sup[j]? = some y → okS e y = true) := by
            intro j y hj hy
            by_cases hji : j = i
            · subst hji; rw [hx] at hy; cases hy; simp [okS]; omega
            · exact HI.out j y (by omega) hy
          clear hx
          go_wp2_with fail
          go_roundw
          case rel => exact ⟨i + 1, by go_num, by omega, by simp, HI'⟩
          case measure => simp [intOf]; omega
    · have e1 : decide ((i : Int) < (sup.length : Int)) = false := by simp; omega
      have hS : sup.all (okS e) = true := all_good fun j y hj hy => HI.out j y (by omega) hy
      rw [hS, Bool.true_and] at HR
      go_wp2_with fail
      refine (HA.out _ G0.out).mono ?_
      rintro en w2 ⟨u, rfl, r2, g2⟩
      have U : Hid (LI w2 u al) := r2.lst
      have G2 : Hid (Grew w w2) := G0.out.trans g2
      obtain ⟨ua, uc, eu, _, _⟩ := U.out.one
      subst eu
      clear r2 g2 HI HA
      go_wp2_with fail
      go_loopw [7] (fun i_ w' => ∃ i : Nat, i_ = .int .i64 i ∧ i ≤ al.length ∧ w' = w2 ∧ Hid (∀ j y, j < i → al[j]? = some y → okA e y = true)) (fun i_ _ => al.length - (intOf i_).toNat)
      case atStart => exact ⟨0, rfl, Nat.zero_le _, rfl, fun j y hj => by omega⟩
      case round =>
        obtain ⟨i, rfl, hi, hwr, HI⟩ := hrel
        subst hwr
        by_cases hlt : i < al.length
        · obtain ⟨x, hx⟩ : ∃ x, al[i]? = some x := ⟨_, List.getElem?_eq_getElem hlt⟩
          obtain ⟨sb, so, hsa, hsc, hE⟩ := U.out.get (by omega)
          subst hsa
          have d0 := hE i x hx
          unfold EI at d0
          rw [Nat.mul_one] at d0
          clear hE
          have e1 : decide ((i : Int) < (al.length : Int)) = true := by simp; omega
          have e2 : decide (i < al.length) = true := by simp; omega
          by_cases h0 : e ≤ x
          · have hf : R = false := by rw [HR.out, all_bad hx (by simp [okA]; omega)]
            subst hf
            clear hx HR
            go_wp2_with fail
            go_ret
            exact ⟨rfl, G2.out⟩
          · by_cases h4 : x < -12
            · have hf : R = false := by rw [HR.out, all_bad hx (by simp [okA]; omega)]
              subst hf
              clear hx HR
              go_wp2_with fail
              go_ret
              exact ⟨rfl, G2.out⟩
            · have HI' : Hid (∀ j y, j < i + 1 → al[j]? = some y → okA e y = true) := by
                intro j y hj hy
                by_cases hji : j = i
                · subst hji; rw [hx] at hy; cases hy; simp [okA]; omega
                · exact HI.out j y (by omega) hy
              clear hx
              go_wp2_with fail
              go_roundw
              case rel => exact ⟨i + 1, by go_num, by omega, by simp, HI'⟩
              case measure => simp [intOf]; omega
        · have e1 : decide ((i : Int) < (al.length : Int)) = false := by simp; omega
          have hS : al.all (okA e) = true := all_good fun j y hj hy => HI.out j y (by omega) hy
          have hf : R = true := by rw [HR.out, hS]
          subst hf
          go_wp2_with fail
          go_ret
          exact ⟨rfl, G2.out⟩
end Go.Proofs.YtoihkcdjfhmccaaDoor
