/-
  Proved: for every number InumOps returns true, and the argument reads as before: Ops tells all opcodes of operators, rising, and no others. No conditions.
-/
import Derived.Test.YtolllelejdnjlaaOpsW
import Derived.ChangeMaps5
import Derived.ShutString
import Derived.ChangeOld
import Derived.Below
import Derived.SizedLaws
import Derived.BigQuiet
namespace Go.Proofs.Ytolllelejdnjlaa
open Go.RowKit
set_option linter.unusedVariables false
set_option linter.unusedSimpArgs false

def OL : List Int := opsTo 128
def cnt (k : Nat) : Nat := (OL.filter fun x => decide (x < (k : Int))).length
theorem OL_len : OL.length = 66 := by decide +kernel
theorem cnt_no : ∀ k : Fin 256, ark (kd ((k.val : Nat) : Int)) = 0 → cnt (k.val + 1) = cnt k.val := by decide +kernel
theorem cnt_yes : ∀ k : Fin 256, ark (kd ((k.val : Nat) : Int)) ≠ 0 → cnt k.val < 66 ∧ OL.getD (cnt k.val) 0 = ((k.val : Nat) : Int) ∧ cnt (k.val + 1) = cnt k.val + 1 := by decide +kernel
theorem cnt_all : cnt 256 = 66 := by decide +kernel
theorem cnt_le (k : Nat) : cnt k ≤ 66 := by unfold cnt; exact Nat.le_trans (List.length_filter_le _ _) (by rw [OL_len]; exact Nat.le_refl _)
theorem OL_has : ∀ k : Fin 128, OL.contains (69 + ((k.val : Nat) : Int)) = (ark (kd (69 + ((k.val : Nat) : Int))) != 0) := by decide +kernel
theorem OL_bd : ∀ x ∈ OL, 69 ≤ x ∧ x ≤ 196 := by decide +kernel
theorem OL_iff (op : Int) : OL.contains op = (ark (kd op) != 0) := by
  by_cases h : 69 ≤ op ∧ op ≤ 196
  · have := OL_has ⟨(op - 69).toNat, by omega⟩
    simp only at this
    rwa [show (69 : Int) + (((op - 69).toNat : Nat) : Int) = op from by omega] at this
  · have h1 : kd op = 0 := by unfold kd; repeat (rw [if_neg (by omega)])
    rw [h1]
    have h2 : ¬ op ∈ OL := fun hm => h (OL_bd op hm)
    simpa [ark] using h2
theorem take_has (l : List Int) (i : Nat) (h : i < l.length) (x : Int) : (l.take (i + 1)).contains x = ((l.take i).contains x || (l.getD i 0 == x)) := by
  rw [List.take_add_one, List.contains_eq_any_beq, List.contains_eq_any_beq, List.any_append]
  congr 1
  simp [List.getD, List.getElem?_eq_getElem h, Bool.beq_comm]
set_option maxRecDepth 100000 in
set_option maxHeartbeats 1000000 in
theorem ops_walk (op : Int) (w : World) : Calls Try.prog 4 #[.int .i64 op] w fun e w' => e = .returned (.bool true) ∧ Grew w w' := by
  have R : Hid (∀ (k : Int) (w : World), Calls Try.prog 8 #[.int .i64 k] w fun e w' => e = .returned (.int .i64 (ark (kd k))) ∧ w' = w) := fun k w => RArity_any k w
  have O : Hid (∀ w : World, Calls Try.prog 15 #[] w fun e w' => ∃ v, e = .returned v ∧ Has w.heap.size w w' v OL) := fun w => Ops_any w
  go_enter Try.func4, Try.ntmps4
  go_wp2_with fail
  refine (O.out _).mono ?_
  rintro e w1 ⟨v, rfl, h1⟩
  have G1 : Hid (Grew w w1) := ⟨h1.2.1, h1.2.2⟩
  obtain ⟨a, cap, hv, hr⟩ := h1.reads
  rw [OL_len] at hv
  subst hv
  have HR := hr.resolve_left (by intro h; have := OL_len; rw [h] at this; exact absurd this (by decide))
  obtain ⟨b, off, rfl, hc⟩ := HR
  rw [OL_len] at hc
  have HC : Hid (∀ j, j < 66 → w1.cell? ⟨b, off + j, none⟩ = some (.int .i64 (OL.getD j 0))) := hc
  clear h1 hr hc
  go_wp2_with fail
  go_loopw [4, 5] (fun n i wr => ∃ k : Nat, i = .int .i64 k ∧ k ≤ 256 ∧ n = .int .i64 (cnt k) ∧ wr = w1) (fun _ i _ => 256 - (intOf i).toNat)
  case atStart => exact ⟨0, rfl, by omega, by rw [show cnt 0 = 0 from by decide +kernel]; rfl, rfl⟩
  case round =>
    obtain ⟨k, rfl, hk, rfl, hww⟩ := hrel
    obtain rfl := hww.symm
    clear hww
    have hle := cnt_le k
    by_cases hlt : k < 256
    · have RK := R.out (k : Int)
      have HR1 : Hid (∀ w : World, Calls Try.prog 8 #[.int .i64 (k : Int)] w fun e w' => e = .returned (.int .i64 (ark (kd (k : Int)))) ∧ w' = w) := RK
      have HN : Hid (ark (kd (k : Int)) = 0 → cnt (k + 1) = cnt k) := cnt_no ⟨k, hlt⟩
      have HY : Hid (ark (kd (k : Int)) ≠ 0 → cnt k < 66 ∧ OL.getD (cnt k) 0 = (k : Int) ∧ cnt (k + 1) = cnt k + 1) := cnt_yes ⟨k, hlt⟩
      clear RK
      generalize ark (kd (k : Int)) = A at *
      by_cases hz : A = 0
      · have hb : (A == 0) = true := beq_iff_eq.2 hz
        have HE : Hid (cnt (k + 1) = cnt k) := HN.out hz
        clear hz
        generalize cnt k = c at *
        go_wp2_with fail
        refine (HR1.out _).mono ?_
        rintro e w2 ⟨rfl, hw⟩
        obtain rfl := hw.symm
        go_wp2_with fail
        go_roundw
        case rel => exact ⟨k + 1, by go_num, by omega, by rw [HE.out], trivial⟩
        case measure => simp [intOf]; omega
      · have hb : (A == 0) = false := beq_eq_false_iff_ne.2 hz
        obtain ⟨y1, y2, y3⟩ := HY.out hz
        have HE : Hid (cnt (k + 1) = cnt k + 1) := y3
        have hcell := HC.out (cnt k) y1
        rw [y2] at hcell
        clear hz y2 y3 HY HN
        generalize cnt k = c at *
        have d1 : decide ((66 : Int) ≤ (c : Int)) = false := by simp; omega
        have d2 : ((k : Int) != (k : Int)) = false := by simp
        go_wp2_with fail
        refine (HR1.out _).mono ?_
        rintro e w2 ⟨rfl, hw⟩
        obtain rfl := hw.symm
        go_wp2_with fail
        go_roundw
        case rel => exact ⟨k + 1, by go_num, by omega, by rw [HE.out]; go_num, trivial⟩
        case measure => simp [intOf]; omega
    · have HE : Hid (cnt k = 66) := by show cnt k = 66; rw [show k = 256 from by omega]; exact cnt_all
      rw [HE.out] at *
      go_wp2_with fail
      go_loopw [6, 7] (fun h_ i wr => ∃ j : Nat, i = .int .i64 j ∧ j ≤ 66 ∧ h_ = .bool ((OL.take j).contains op) ∧ wr = w1) (fun _ i _ => 66 - (intOf i).toNat)
      case atStart => exact ⟨0, rfl, by omega, rfl, rfl⟩
      case round =>
        obtain ⟨j, rfl, hj, rfl, hww⟩ := hrel
        obtain rfl := hww.symm
        clear hww
        by_cases hjl : j < 66
        · have hcell := HC.out j hjl
          have HT : Hid ((OL.take (j + 1)).contains op = ((OL.take j).contains op || (OL.getD j 0 == op))) := take_has OL j (by rw [OL_len]; exact hjl) op
          generalize OL.getD j 0 = x at *
          generalize (OL.take j).contains op = B at *
          cases B
          · by_cases hx : x = op
            · have hxb : (x == op) = true := beq_iff_eq.2 hx
              clear hx
              go_wp2_with fail
              go_roundw
              case rel => exact ⟨j + 1, by go_num, by omega, by rw [HT.out, hxb]; rfl, trivial⟩
              case measure => simp [intOf]; omega
            · have hxb : (x == op) = false := beq_eq_false_iff_ne.2 hx
              clear hx
              go_wp2_with fail
              go_roundw
              case rel => exact ⟨j + 1, by go_num, by omega, by rw [HT.out, hxb]; rfl, trivial⟩
              case measure => simp [intOf]; omega
          · go_wp2_with fail
            go_roundw
            case rel => exact ⟨j + 1, by go_num, by omega, by rw [HT.out]; rfl, trivial⟩
            case measure => simp [intOf]; omega
        · have HR1 : Hid (∀ w : World, Calls Try.prog 8 #[.int .i64 op] w fun e w' => e = .returned (.int .i64 (ark (kd op))) ∧ w' = w) := R.out op
          have HI : Hid ((OL.take j).contains op = (ark (kd op) != 0)) := by
            show (OL.take j).contains op = (ark (kd op) != 0)
            rw [List.take_of_length_le (by rw [OL_len]; omega)]
            exact OL_iff op
          rw [HI.out]
          generalize ark (kd op) = A at *
          go_wp2_with fail
          refine (HR1.out _).mono ?_
          rintro e w2 ⟨rfl, hw⟩
          obtain rfl := hw.symm
          go_wp2_with fail
          go_ret
          exact ⟨by simp, G1.out⟩
end Go.Proofs.Ytolllelejdnjlaa
namespace Go.Proofs.Ytolllelejdnjlaa.inumOps
open Go.ChangeShapes Go.WideShapes Go.ChangeAt Go.RowKit
set_option linter.unusedVariables false

theorem own : ownKnob Try.prog.godebug = none := by kernel_rfl
set_option maxRecDepth 100000 in
theorem lifted (os : Os) (started : os.Started) (H : Type) (enc : TypeId × Value → H) :
    ReturnsInHanded {} Try.checked os 4 .any (Rows.inumOpsSpec.pre6 enc Try.prog Try.f4 Rows.inumOpsRow.domain false) (Rows.inumOpsSpec.post enc Try.prog Try.f4 false true false false) := by
  refine returnsInHanded_of_change_sized (C := Try.checked) own started (by kernel_rfl) Try.func4
    (ChangeSpec.witness6 (enc := enc) (C := Try.checked) false ⟨#[], #[.int .i64 0], []⟩ 8 (by kernel_rfl) (by kernel_rfl) (by kernel_rfl) (by kernel_rfl)) ?_
  intro W base args ds gs before hval0 hW hcnd hsz0 _
  clear hsz0
  have hval : ∀ (j : Nat) t v, Try.f4.params[j]? = some t → args[j]? = some v → Value.okWide Try.prog W .any base t v := hval0
  have hW' := hW
  obtain ⟨p, q, hA0, hV, rfl, hfz, hnd⟩ := hW
  have hA : DataW.TrodAll enc Try.prog W 0 (fun _ => true) true Try.f4.params.toList args.toList ds p := hA0
  rw [Try.params4] at hA hval
  obtain ⟨v0, vs0, d0, ds0, p0, q0, hargs, rfl, rfl, h0, r0⟩ := trodAll_cons hA
  obtain ⟨rfl, rfl, rfl⟩ := trodAll_nil r0
  obtain rfl : args = #[v0] := by cases args; simp_all
  obtain ⟨rfl, rfl⟩ := trodVars_none hV
  obtain ⟨a0, rfl, rfl, rfl, w0⟩ := open_int Try.underlying3 (hval 0 3 v0 rfl rfl) h0
  have b0 := bounds_i64 w0
  clear hA0 hval0
  refine (ops_walk a0 W).mono fun e W' ⟨he, bel⟩ => ?_
  subst he
  exact ⟨_, rfl, _, _, _, [], _, [], hW', trodAll_mk1 (shut_bool Try.underlying4 _), (trodAll_cons_mk (shut_int Try.underlying3 w0) trodAll_mk0), rfl, bel.1.frame _, fun h => by cases h⟩

theorem over : Rows.inumOpsRow.holds Try.pinned (OpenSpec.ofChange Rows.inumOpsSpec) :=
  OpenClaim.holds_of_wide 4 Try.f4 rfl rfl rfl rfl rfl rfl rfl ⟨rfl, rfl, rfl, rfl, rfl⟩ rfl rfl rfl rfl rfl (by kernel_rfl) Try.func4 (by kernel_rfl)
    (of_decide_eq_true (by kernel_rfl)) (by unfold Func.isWrapper; first | (rw [if_pos (by decide +kernel)]; kernel_rfl) | (rw [if_neg (by decide +kernel)]; exact ⟨rfl, rfl⟩))
    (fun os started H enc _ => lifted os started H enc)

end Go.Proofs.Ytolllelejdnjlaa.inumOps
namespace Go.Proofs.Ytolllelejdnjlaa
theorem inumOps_holds : Rows.InumOpsSaid := inumOps.over
#print axioms inumOps_holds
end Go.Proofs.Ytolllelejdnjlaa
