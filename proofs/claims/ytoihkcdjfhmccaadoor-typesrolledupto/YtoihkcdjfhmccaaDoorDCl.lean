/-
  The document's Closed, Count, First; the program's Count; no statement is proved here.
-/
import Derived.Test.YtoihkcdjfhmccaaDoorDFine
namespace Go.Proofs.YtoihkcdjfhmccaaDoor
open Go.RowKit
set_option linter.unusedVariables false
set_option linter.unusedSimpArgs false

def cntT : List RT → Nat
  | [] => 0
  | r :: l => r.types.length + cntT l
def closedF : Nat → List RT → Bool
  | _, [] => true
  | n, r :: l => r.types.all (fun x => fineB x ((n + r.types.length : Nat) : Int)) && closedF (n + r.types.length) l
/- Nothing is too long. -/
def SmlL (L : List RT) : Prop := L.length ≤ 1048576 ∧ cntT L ≤ 1048576 ∧ ∀ r ∈ L, ∀ x ∈ r.types, Sml x
theorem cntT_app (a b : List RT) : cntT (a ++ b) = cntT a + cntT b := by
  induction a with
  | nil => simp [cntT]
  | cons r a ih => rw [List.cons_append, cntT, cntT, ih]; omega
theorem cntT_snoc {L : List RT} {i : Nat} {r : RT} (h : L[i]? = some r) : cntT (L.take (i + 1)) = cntT (L.take i) + r.types.length := by
  rw [take_snoc h, cntT_app]; simp [cntT]
theorem cntT_take (L : List RT) (i : Nat) : cntT (L.take i) ≤ cntT L := by
  have := cntT_app (L.take i) (L.drop i)
  rw [List.take_append_drop] at this
  omega
theorem closedF_at {L : List RT} {i : Nat} {r : RT} (h : L[i]? = some r) (n : Nat) : closedF n (L.drop i) = (r.types.all (fun x => fineB x ((n + r.types.length : Nat) : Int)) && closedF (n + r.types.length) (L.drop (i + 1))) := by
  obtain ⟨hi, hr⟩ := List.getElem?_eq_some_iff.1 h
  rw [List.drop_eq_getElem_cons hi, hr, closedF]
set_option maxRecDepth 100000 in
theorem dcount_any {w : World} {v : Value} {L : List RT} (h : LR w v L) (hm : L.length ≤ 1048576) (hc : cntT L ≤ 1048576) :
    Calls Tryd.prog 25 #[v] w fun en w' => en = .returned (.int .i64 (cntT L : Int)) ∧ Grew w w' := by
  obtain ⟨a, cap, hv, hcap, hmax⟩ := h.one
  subst hv
  have H : Hid (LR w (.slice a L.length cap) L) := h
  clear h
  go_enter Tryd.func25, Tryd.ntmps25
  go_wp2_with fail
  go_loopw [3, 4] (fun n_ i_ w' => ∃ (i n : Nat), i_ = .int .i64 i ∧ n_ = .int .i64 n ∧ Hid (n = cntT (L.take i)) ∧ n ≤ 1048576 ∧ i ≤ L.length ∧ w' = w) (fun _ i_ _ => L.length - (intOf i_).toNat)
  case atStart => exact ⟨0, 0, rfl, rfl, rfl, by omega, Nat.zero_le _, rfl⟩
  case round =>
    obtain ⟨i, n, rfl, rfl, HNN, hn, hi, hwr⟩ := hrel
    subst hwr
    by_cases hlt : i < L.length
    · obtain ⟨r, hr⟩ : ∃ r, L[i]? = some r := ⟨_, List.getElem?_eq_getElem hlt⟩
      obtain ⟨b, off, ha, hc', hE⟩ := H.out.get (by omega)
      subst ha
      obtain ⟨tv, ht, c0, c1⟩ := hE i r hr
      obtain ⟨ta, tc, et, _, _⟩ := ht.one
      subst et
      have d1 : decide ((i : Int) < (L.length : Int)) = true := by simp; omega
      have d2 : decide (i < L.length) = true := by simp; omega
      have HS : Hid (cntT (L.take (i + 1)) = cntT (L.take i) + r.types.length) := cntT_snoc hr
      have hb := cntT_take L (i + 1)
      rw [HS.out, ← HNN.out] at hb
      generalize r.types.length = k at *
      clear hE ht hr
      go_wp2_with fail
      go_roundw
      case rel => exact ⟨i + 1, n + k, by go_num, by go_num, by rw [HS.out, ← HNN.out]; exact rfl, by omega, by omega, by simp⟩
      case measure => simp [intOf]; omega
    · have d1 : decide ((i : Int) < (L.length : Int)) = false := by simp; omega
      have hin : L.take i = L := List.take_of_length_le (by omega)
      have e : cntT L = n := by rw [HNN.out, hin]
      go_wp2_with fail
      go_ret
      exact ⟨by rw [e]; rfl, Grew.refl _⟩
set_option maxRecDepth 100000 in
theorem dfirst_any {w : World} {v : Value} {L : List RT} {g : Nat} (h : LR w v L) (hm : L.length ≤ 1048576) (hc : cntT L ≤ 1048576) (hg : g < L.length) :
    Calls Tryd.prog 9 #[v, .int .i64 (g : Int)] w fun en w' => en = .returned (.int .i64 (cntT (L.take g) : Int)) ∧ Grew w w' := by
  obtain ⟨a, cap, hv, hcap, hmax⟩ := h.one
  subst hv
  have ht := cntT_take L g
  have hl : (L.take g).length ≤ 1048576 := by rw [List.length_take]; omega
  have C := dcount_any (Lst.take h g (by omega)) hl (by omega)
  have hgc : g ≤ cap := by omega
  clear h
  go_enter Tryd.func9, Tryd.ntmps9
  go_wp2_with fail
  refine C.mono ?_
  rintro en w1 ⟨rfl, g1⟩
  go_wp2_with fail
  go_ret
  exact ⟨rfl, g1⟩
set_option maxRecDepth 100000 in
theorem count_any {w : World} {v : Value} {L : List RT} (h : LR w v L) (hm : L.length ≤ 1048576) (hc : cntT L ≤ 1048576) :
    Calls Tryd.prog 26 #[v] w fun en w' => en = .returned (.int .i64 (cntT L : Int)) ∧ Grew w w' := by
  obtain ⟨a, cap, hv, hcap, hmax⟩ := h.one
  subst hv
  have H : Hid (LR w (.slice a L.length cap) L) := h
  clear h
  go_enter Tryd.func26, Tryd.ntmps26
  go_wp2_with fail
  go_loopw [3, 8] (fun n_ i_ w' => ∃ (i n : Nat), i_ = .int .i64 i ∧ n_ = .int .i64 n ∧ Hid (n = cntT (L.take i)) ∧ n ≤ 1048576 ∧ i ≤ L.length ∧ Hid (Grew w w')) (fun _ i_ _ => L.length - (intOf i_).toNat)
  case atStart => exact ⟨0, 0, rfl, rfl, rfl, by omega, Nat.zero_le _, Grew.refl _⟩
  case round =>
    obtain ⟨i, n, rfl, rfl, HNN, hn, hi, G⟩ := hrel
    by_cases hlt : i < L.length
    · obtain ⟨r, hr⟩ : ∃ r, L[i]? = some r := ⟨_, List.getElem?_eq_getElem hlt⟩
      obtain ⟨b, off, ha, hc', hE⟩ := (H.out.grew G.out).get (by omega)
      subst ha
      obtain ⟨tv, ht, c0, c1⟩ := hE i r hr
      obtain ⟨ta, tc, et, _, _⟩ := ht.one
      subst et
      have d1 : decide ((i : Int) < (L.length : Int)) = true := by simp; omega
      have d2 : decide (i < L.length) = true := by simp; omega
      have HS : Hid (cntT (L.take (i + 1)) = cntT (L.take i) + r.types.length) := cntT_snoc hr
      have hb := cntT_take L (i + 1)
      rw [HS.out, ← HNN.out] at hb
      generalize r.types.length = k at *
      generalize r.explicit = ex at *
      clear hE ht hr
      go_wp2_with fail
      go_roundw
      case rel => exact ⟨i + 1, n + k, by go_num, by go_num, by rw [HS.out, ← HNN.out]; exact rfl, by omega, by omega, G.out.alloc _⟩
      case measure => simp [intOf]; omega
    · have d1 : decide ((i : Int) < (L.length : Int)) = false := by simp; omega
      have hin : L.take i = L := List.take_of_length_le (by omega)
      have e : cntT L = n := by rw [HNN.out, hin]
      go_wp2_with fail
      go_ret
      exact ⟨by rw [e]; rfl, G.out⟩
set_option maxRecDepth 100000 in
set_option maxHeartbeats 1000000 in
theorem dclosed_any {w : World} {v : Value} {L : List RT} (h : LR w v L) (hm : SmlL L) :
    Calls Tryd.prog 7 #[v] w fun en w' => ∃ p : Int, en = .returned (.tuple #[.int .i64 p, .int .i64 (if closedF 0 L then 0 else 50)]) ∧ Grew w w' := by
  obtain ⟨a, cap, hv, hcap, hmax⟩ := h.one
  subst hv
  have H : Hid (LR w (.slice a L.length cap) L) := h
  obtain ⟨hm1, hm2, hm3⟩ := hm
  have HM : Hid (∀ r ∈ L, ∀ x ∈ r.types, Sml x) := hm3
  obtain ⟨R, hR⟩ : ∃ R, R = closedF 0 L := ⟨_, rfl⟩
  rw [← hR]
  have HR : Hid (R = closedF 0 (L.drop 0)) := hR
  clear h hR hm3
  go_enter Tryd.func7, Tryd.ntmps7
  go_wp2_with fail
  go_loopw [4, 5] (fun n_ i_ w' => ∃ (i n : Nat), i_ = .int .i64 i ∧ n_ = .int .i64 n ∧ Hid (n = cntT (L.take i)) ∧ n ≤ 1048576 ∧ i ≤ L.length ∧ Hid (Grew w w') ∧ Hid (R = closedF n (L.drop i))) (fun _ i_ _ => L.length - (intOf i_).toNat)
  case atStart => exact ⟨0, 0, rfl, rfl, rfl, by omega, Nat.zero_le _, Grew.refl _, HR⟩
  case round =>
    clear HR
    obtain ⟨i, n, rfl, rfl, HNN, hn, hi, G, HR⟩ := hrel
    obtain ⟨w0, hw0⟩ : ∃ w0, w0 = wr := ⟨_, rfl⟩
    rw [← hw0] at G ⊢
    clear hw0
    by_cases hlt : i < L.length
    · obtain ⟨r, hr⟩ : ∃ r, L[i]? = some r := ⟨_, List.getElem?_eq_getElem hlt⟩
      obtain ⟨b, off, ha, hc', hE⟩ := (H.out.grew G.out).get (by omega)
      subst ha
      obtain ⟨tv, ht, c0, c1⟩ := hE i r hr
      obtain ⟨ta, tc, et, htc, _⟩ := ht.one
      subst et
      have HT : Hid (LS w0 (.slice ta r.types.length tc) r.types) := ht
      have d1 : decide ((i : Int) < (L.length : Int)) = true := by simp; omega
      have d2 : decide (i < L.length) = true := by simp; omega
      have HS : Hid (cntT (L.take (i + 1)) = cntT (L.take i) + r.types.length) := cntT_snoc hr
      have hb := cntT_take L (i + 1)
      rw [HS.out, ← HNN.out] at hb
      have HQ : Hid (R = (r.types.all (fun x => fineB x ((n + r.types.length : Nat) : Int)) && closedF (n + r.types.length) (L.drop (i + 1)))) := by rw [HR.out]; exact closedF_at hr n
      have HX : Hid (∀ x ∈ r.types, Sml x) := HM.out r (List.mem_of_getElem? hr)
      generalize r.types = ts at *
      generalize r.explicit = ex at *
      clear hE ht hr HR
      go_wp2_with fail
      go_loopw [7] (fun j_ w' => ∃ j : Nat, j_ = .int .i64 j ∧ j ≤ ts.length ∧ Hid (Grew w0 w') ∧ Hid (∀ k y, k < j → ts[k]? = some y → fineB y ((n + ts.length : Nat) : Int) = true)) (fun j_ _ => ts.length - (intOf j_).toNat)
      case atStart => exact ⟨0, rfl, Nat.zero_le _, Grew.refl _, fun k y hk => by omega⟩
      case round =>
        obtain ⟨j, rfl, hj, G1, HI⟩ := hrel
        have k0 := cell_grew c0 G1.out
        by_cases hjl : j < ts.length
        · obtain ⟨x, hx⟩ : ∃ x, ts[j]? = some x := ⟨_, List.getElem?_eq_getElem hjl⟩
          obtain ⟨tb, to, hta, _, hE⟩ := (HT.out.grew G1.out).get (by omega)
          subst hta
          obtain ⟨sv, pv, rv, fv, hsub, s0, s1, s2, s3, s4, s5⟩ := hE j x hx
          have e1 : decide ((j : Int) < (ts.length : Int)) = true := by simp; omega
          have e2 : decide (j < ts.length) = true := by simp; omega
          have C := fine_any hsub (HX.out x (List.mem_of_getElem? hx)) ((n + ts.length : Nat) : Int)
          obtain ⟨_, _, e3, _⟩ := hsub.1.one
          obtain ⟨_, _, e4, _⟩ := hsub.2.1.one
          obtain ⟨_, _, e5, _⟩ := hsub.2.2.1.one
          obtain ⟨_, _, e6, _⟩ := hsub.2.2.2.one
          subst e3 e4 e5 e6
          rw [Int.natCast_add] at C
          clear hE hsub
          cases hf : fineB x ((n : Int) + (ts.length : Int)) with
          | false =>
            have hRf : R = false := by rw [HQ.out, all_bad hx (by rw [Int.natCast_add]; exact hf)]; rfl
            rw [hf] at C
            subst hRf
            clear hx HQ hf
            go_wp2_with fail
            refine C.mono ?_
            rintro en w3 ⟨rfl, g3⟩
            have G3 : Hid (Grew w w3) := (G.out.trans G1.out).trans g3
            clear g3 C
            go_wp2_with fail
            go_ret2
            exact ⟨⟨_, rfl⟩, G3.out⟩
          | true =>
            have HI' : Hid (∀ k y, k < j + 1 → ts[k]? = some y → fineB y ((n + ts.length : Nat) : Int) = true) := by
              intro k y hk hy
              by_cases hkj : k = j
              · subst hkj; rw [hx] at hy; cases hy; rw [Int.natCast_add]; exact hf
              · exact HI.out k y (by omega) hy
            rw [hf] at C
            clear hx hf
            go_wp2_with fail
            refine C.mono ?_
            rintro en w3 ⟨rfl, g3⟩
            have G3 : Hid (Grew w0 w3) := G1.out.trans g3
            clear g3 C
            go_wp2_with fail
            go_roundw
            case rel => exact ⟨j + 1, by go_num, by omega, G3, HI'⟩
            case measure => simp [intOf]; omega
        · have e1 : decide ((j : Int) < (ts.length : Int)) = false := by simp; omega
          have HS2 : Hid (R = closedF (n + ts.length) (L.drop (i + 1))) := (by rw [HQ.out, all_good (fun k y hk hy => HI.out k y (by omega) hy), Bool.true_and] : R = closedF (n + ts.length) (L.drop (i + 1)))
          go_wp2_with fail
          go_roundw
          case rel => exact ⟨i + 1, n + ts.length, by go_num, by go_num, by rw [HS.out, ← HNN.out]; exact rfl, by omega, by omega, G.out.trans G1.out, HS2⟩
          case measure => simp [intOf]; omega
    · have d1 : decide ((i : Int) < (L.length : Int)) = false := by simp; omega
      have hin : L.drop i = [] := List.drop_eq_nil_of_le (by omega)
      have hRt : R = true := by rw [HR.out, hin]; rfl
      subst hRt
      clear HR
      go_wp2_with fail
      go_ret2
      exact ⟨⟨_, rfl⟩, G.out⟩
end Go.Proofs.YtoihkcdjfhmccaaDoor
