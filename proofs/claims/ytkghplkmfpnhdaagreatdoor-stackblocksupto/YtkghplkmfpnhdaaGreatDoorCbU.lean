/-
  unset; no statement is proved here.
-/
import Derived.Test.YtkghplkmfpnhdaaGreatDoorCbS
namespace Go.Proofs.YtkghplkmfpnhdaaGreatDoor
open Go.RowKit
set_option linter.unusedVariables false
set_option linter.unusedSimpArgs false

def un1 (lo : List LO) (n : Int) : List LO := match lo[n.toNat]? with
  | some x => lo.set n.toNat (x.to false)
  | none => lo
def unL (lo : List LO) (l : List Int) : List LO := l.foldl un1 lo
theorem un1_len (lo : List LO) (n : Int) : (un1 lo n).length = lo.length := by
  unfold un1
  split <;> simp
theorem unL_len (l : List Int) : ∀ lo : List LO, (unL lo l).length = lo.length := by
  induction l with
  | nil => intro lo; rfl
  | cons a l ih => intro lo; show (unL (un1 lo a) l).length = _; rw [ih, un1_len]
theorem unL_snoc (lo : List LO) (l : List Int) (n : Int) : unL lo (l ++ [n]) = un1 (unL lo l) n := by
  unfold unL; rw [List.foldl_append]; rfl
theorem RowU.at {B : Nat} {w : World} {v : Value} {l : List Int} (h : RowU B w v l) {i : Nat} {n : Int} (hx : l[i]? = some n) : ∃ g c, v = .slice (some ⟨g, 0, none⟩) l.length c ∧ w.cell? ⟨g, i, none⟩ = some (.int .u32 n) := by
  have h0 := h
  have hn := (List.getElem?_eq_some_iff.1 hx).1
  obtain ⟨hl, ⟨_, h3⟩ | ⟨g, cap, cur, hv', hB, hg, h3, h4, h5, h6⟩⟩ := h
  · omega
  · refine ⟨g, cap, hv', ?_⟩
    rw [hv'] at h0
    have h7 := World.ownsRow.cellAt h0 i (by omega)
    rw [h7]
    have := flat_at cu 1 (fun _ => rfl) l i n 0 hx (by decide)
    rw [Nat.mul_one, Nat.add_zero] at this
    rw [this]; rfl
set_option maxRecDepth 100000 in
set_option maxHeartbeats 2000000 in
theorem unset0 {B : Nat} {w : World} {C : Nat} {lv fv ov qv : Value} {lo : List LO} {fr : List Int} {ops : List VT} {fs : List FV} (h : CK B w C lv fv ov qv lo fr ops fs) (hm : fr.length ≤ 8388608) (hfr : ∀ n ∈ fr, 0 ≤ n ∧ n.toNat < lo.length ∧ n ≤ 4294967295) :
    Calls Tryz.prog 41 #[.pointer (some ⟨C, 0, none⟩), .int .i64 0] w fun en w' => ∃ fv', en = .returned (.tuple #[]) ∧ CK B w' C lv fv' ov qv (unL lo fr) [] ops fs ∧ KB B w w' ∧ Two C lv w w' := by
  have c4 := h.c4
  have H := Hid.mk' h
  have HFR := Hid.mk' hfr
  obtain ⟨fa, fc, hfv, hfc, hfm, hf0⟩ := row_max h.rfr
  subst hfv
  have hCl := h.lt
  have hBC := h.base
  clear h hfr
  go_enter Tryz.func41, Tryz.ntmps41
  go_wp2_with fail
  go_loopw [14] (fun i_ w' => ∃ (i : Nat), i_ = .int .i64 i ∧ i ≤ fr.length ∧ Hid (CK B w' C lv (.slice fa fr.length fc) ov qv (unL lo (fr.take i)) fr ops fs) ∧ Hid (KB B w w') ∧ Hid (Two C lv w w')) (fun i_ _ => fr.length - (intOf i_).toNat)
  case atStart => exact ⟨0, rfl, Nat.zero_le _, H, KB.refl _ _, fun x _ _ _ => rfl⟩
  case round =>
    clear H c4
    obtain ⟨i, rfl, hi, HK, HB, HT⟩ := hrel
    obtain ⟨w0, hw0⟩ : ∃ w0, w0 = wr := ⟨_, rfl⟩
    rw [← hw0] at HK HB HT ⊢
    clear hw0
    by_cases hlt : i < fr.length
    · obtain ⟨n, hn⟩ : ∃ n, fr[i]? = some n := ⟨_, List.getElem?_eq_getElem hlt⟩
      obtain ⟨h0, hnl, hnm⟩ := HFR.out n (List.mem_of_getElem? hn)
      obtain ⟨m, rfl⟩ : ∃ m : Nat, n = m := ⟨n.toNat, by omega⟩
      have hml : m < (unL lo (fr.take i)).length := by rw [unL_len]; simpa using hnl
      obtain ⟨x, hx⟩ : ∃ x, (unL lo (fr.take i))[m]? = some x := ⟨_, List.getElem?_eq_getElem hml⟩
      have hun : unL lo (fr.take (i + 1)) = (unL lo (fr.take i)).set m (x.to false) := by
        rw [List.take_add_one, hn]
        show unL lo (fr.take i ++ [(m : Int)]) = _
        rw [unL_snoc]
        unfold un1
        simp only [Int.toNat_natCast]
        rw [hx]
      obtain ⟨gu, cu', hvu, ku⟩ := HK.out.rfr.at hn
      injection hvu with eu _ _
      subst eu
      obtain ⟨gl, cl, hvl, hle, hmx, hBg, ⟨cur, hcur⟩, hcells⟩ := HK.out.rlo.at hx
      subst hvl
      have k3 := hcells 3 (by decide)
      simp [LO.c] at k3
      have c3 := HK.out.c3
      obtain ⟨z3, _, K2⟩ := HK.out.setLo hx false
      have HK2 : Hid (CK B (w0.setCell ⟨gl, m * 4 + 3, none⟩ (.bool false)) C (.slice (some ⟨gl, 0, none⟩) (unL lo (fr.take i)).length cl) (.slice (some ⟨gu, 0, none⟩) fr.length fc) ov qv (unL lo (fr.take (i + 1))) fr ops fs) := by rw [hun]; exact K2
      have HT2 : Hid (Two C (.slice (some ⟨gl, 0, none⟩) (unL lo (fr.take i)).length cl) w (w0.setCell ⟨gl, m * 4 + 3, none⟩ (.bool false))) := fun y hy hC hq => by
        rw [Below.heap_setCell _ _ _ _ (by simp only; intro hx'; exact hq (by rw [hx']; rfl))]
        exact HT.out y hy hC hq
      have hll := HK.out.lt
      have hgl := lt_of_obj hcur
      have hul := lt_of_cell ku
      generalize (unL lo (fr.take i)).length = LN at *
      have d1 : decide ((i : Int) < (fr.length : Int)) = true := by simp; omega
      have d2 : decide (i < fr.length) = true := by simp; omega
      have d3 : (i : Int) < (fr.length : Int) := by omega
      have d4 : decide (m < LN) = true := by simp; omega
      have d5 : (m : Int) < (LN : Int) := by omega
      have d6 : decide ((m : Int) < (LN : Int)) = true := by simp; omega
      clear hun hcells hcur K2 hx hn
      go_wp2_with fail
      go_roundw
      case rel => exact ⟨i + 1, by go_num, by omega, HK2, HB.out.set (p := ⟨gl, m * 4 + 3, none⟩) hBg _, HT2⟩
      case measure => simp [intOf]; omega
    · have d1 : decide ((i : Int) < (fr.length : Int)) = false := by simp; omega
      have hin : fr.take i = fr := List.take_of_length_le (by omega)
      have HK2 : Hid (CK B w0 C lv (.slice fa fr.length fc) ov qv (unL lo fr) fr ops fs) := by have := HK.out; rwa [hin] at this
      have CC := cutU_any HK2.out (m := 0) (Nat.zero_le _)
      rw [List.take_zero] at CC
      simp only [Int.natCast_zero] at CC
      clear HK
      go_wp2_with fail
      refine CC.mono ?_
      rintro en w2 ⟨v2, rfl, K2, B2, T2, _⟩
      have H2 := Hid.mk' K2
      have HB2 := Hid.mk' (HB.out.trans B2)
      have HT2 : Hid (Two C lv w w2) := fun y hy hC hq => (T2 y (Nat.lt_of_lt_of_le hy HB.out.2) hC (by simp [Value.ownBlock])).trans (HT.out y hy hC hq)
      clear K2 B2 T2 CC
      go_wp2_with fail
      go_end0
      exact ⟨v2, rfl, H2.out, HB2.out, HT2.out⟩
end Go.Proofs.YtkghplkmfpnhdaaGreatDoor
