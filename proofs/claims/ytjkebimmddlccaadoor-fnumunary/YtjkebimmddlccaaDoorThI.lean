/-
  Plain facts on whole numbers as wide floats and back; no statement is proved here.
-/
import Derived.Test.YtjkebimmddlccaaDoorThM
import Derived.Test.YtjkebimmddlccaaDoorFnU
namespace Go.Proofs.YtjkebimmddlccaaDoor
set_option linter.unusedVariables false
set_option linter.unusedSimpArgs false

theorem cut_zero (neg : Bool) (W j : Nat) : Ieee.Toward.zero.cut neg (W * 2 ^ j) j = W := by
  unfold Ieee.Toward.cut
  by_cases h : W = 0
  · subst h; simp
  · have h1 : W * 2 ^ j ≠ 0 := Nat.mul_ne_zero h (Nat.ne_of_gt (Nat.two_pow_pos j))
    have h2 : j ≤ (W * 2 ^ j).log2 := (Nat.le_log2 h1).2 (Nat.le_mul_of_pos_left _ (by omega))
    have h3 : min j ((W * 2 ^ j).log2 + 2) = j := by omega
    simp only [h3, Nat.one_shiftLeft, Nat.mul_div_cancel _ (Nat.two_pow_pos j)]
    rfl
/- A whole number as a wide float. -/
def nw (neg : Bool) (W : Nat) : Nat := rd Ieee.double neg W false 0
theorem log_33 {m : Nat} (hm : m ≠ 0) (h : m ≤ 4294967296) : m.log2 ≤ 32 := by
  have := (Nat.log2_lt hm).2 (Nat.lt_of_le_of_lt h (show 4294967296 < 2 ^ 33 by decide)); omega
theorem nw_zero (neg : Bool) : nw neg 0 = Ieee.double.word neg 0 := by unfold nw rd; rw [if_pos rfl]
theorem nw_fin (neg : Bool) {W : Nat} (hW : W ≠ 0) (h : W ≤ 4294967296) :
    sz Ieee.double (nw neg W) < Ieee.double.infRung ∧ ng Ieee.double (nw neg W) = neg ∧ mg Ieee.double (nw neg W) = W * 2 ^ (52 - W.log2) ∧ pl Ieee.double (nw neg W) = 0 - (52 - W.log2 : Nat) ∧ nw neg W < 2 * Ieee.double.signWeight := by
  have l := log_33 hW h
  exact rd_exact (f := Ieee.double) neg W (W.log2 + 1022) 0 hW (by show _ ≤ 52; omega) (by rw [lp2]; show _ + _ - (52 : Int) = _; omega) (by show _ + 2 ≤ 2047; omega)
theorem nw_sz (neg : Bool) {W : Nat} (h : W ≤ 4294967296) : sz Ieee.double (nw neg W) < Ieee.double.infRung := by
  by_cases z : W = 0
  · subst z; rw [nw_zero, (word_sz Ieee.double neg (sw_pos _)).1]; decide
  · exact (nw_fin neg z h).1
theorem nw_lt (neg : Bool) {W : Nat} (h : W ≤ 4294967296) : nw neg W < 2 ^ 64 := by
  by_cases z : W = 0
  · subst z; rw [nw_zero]; exact (word_sz Ieee.double neg (sw_pos _)).2.2
  · exact (nw_fin neg z h).2.2.2.2
theorem nw_read (neg : Bool) {W : Nat} (h : W ≤ 4294967296) : ∃ j : Nat, Ieee.double.read (nw neg W) = .number neg (W * 2 ^ j) (-(j : Int)) := by
  by_cases z : W = 0
  · subst z
    obtain ⟨K, hK⟩ : ∃ K : Nat, K = 1074 := ⟨_, rfl⟩
    refine ⟨K, ?_⟩
    obtain ⟨w1, w2, _⟩ := word_sz Ieee.double neg (r := 0) (sw_pos _)
    rw [nw_zero, read_fin t2 (by rw [w1]; decide), w2, mg_zero.2 w1, Nat.zero_mul]
    have : pl Ieee.double (Ieee.double.word neg 0) = -1074 := by unfold pl ex; rw [w1, lp2]; decide
    rw [this, hK]; rfl
  · obtain ⟨p1, p2, p3, p4, _⟩ := nw_fin neg z h
    refine ⟨52 - W.log2, ?_⟩
    rw [read_fin t2 p1, p2, p3, p4, Int.zero_sub]
theorem nw_int (neg : Bool) {W : Nat} (h : W ≤ 4294967296) : (Ieee.double.read (nw neg W)).integral .zero = .number neg W 0 := by
  obtain ⟨j, hj⟩ := nw_read neg h
  rw [hj]
  show Ieee.Datum.number neg (Ieee.Toward.zero.cut neg ((W * 2 ^ j) <<< (-(j : Int)).toNat) (- -(j : Int)).toNat) 0 = _
  rw [show (-(j : Int)).toNat = 0 from by omega, show (- -(j : Int)).toNat = j from by omega, Nat.shiftLeft_zero, cut_zero]
theorem nw_rop (neg : Bool) {W : Nat} (h : W ≤ 4294967296) : rop Ieee.double .zero (nw neg W) = some (nw neg W) := by
  unfold rop
  have hs := nw_sz neg h
  rw [if_neg (by omega), nw_int neg h]
  show some (Ieee.double.nearest neg W 0) = _
  rw [nearest_rd]; rfl
theorem nw_val (neg : Bool) {W : Nat} (h : W ≤ 4294967296) (k : IntKind) (n : Int) (hn : n = if neg then -(W : Int) else (W : Int)) (h0 : k.min ≤ n) (h1 : n ≤ k.max) : floatToIntVal .f64 (nw neg W) k = some n := by
  unfold floatToIntVal
  have e : (FloatKind.f64.decode (nw neg W)).toInt .zero = some n := by
    unfold Ieee.Datum.toInt
    rw [dec_k]
    show (match (Ieee.double.read (nw neg W)).integral .zero with | .number s m _ => some (Ieee.signed s m 0) | _ => none) = _
    rw [nw_int neg h, hn]
    show some (Ieee.signed neg W 0) = _
    unfold Ieee.signed
    rw [Nat.shiftLeft_zero]
  rw [e]
  show (if k.min ≤ n ∧ n ≤ k.max then some n else none) = _
  rw [if_pos ⟨h0, h1⟩]
theorem signed_up (s : Bool) (W j J : Nat) (h : j ≤ J) : Ieee.signed s (W * 2 ^ j) (J - j) = Ieee.signed s W 0 * ((2 ^ J : Nat) : Int) := by
  rw [signed_scale, Nat.zero_add]
  unfold Ieee.signed
  rw [Nat.shiftLeft_eq, Nat.shiftLeft_eq, Nat.mul_assoc, ← Nat.pow_add, show j + (J - j) = J from by omega]
theorem nw_order (s t : Bool) {W C : Nat} (hW : W ≤ 4294967296) (hC : C ≤ 4294967296) : Ieee.double.order (nw s W) (nw t C) = some (compare (Ieee.signed s W 0) (Ieee.signed t C 0)) := by
  obtain ⟨i, hi⟩ := nw_read s hW
  obtain ⟨j, hj⟩ := nw_read t hC
  unfold Ieee.Format.order
  rw [hi, hj]
  show some (compare (Ieee.signed s (W * 2 ^ i) (-(i : Int) - min (-(i : Int)) (-(j : Int))).toNat) (Ieee.signed t (C * 2 ^ j) (-(j : Int) - min (-(i : Int)) (-(j : Int))).toNat)) = _
  rw [show (-(i : Int) - min (-(i : Int)) (-(j : Int))).toNat = max i j - i from by omega, show (-(j : Int) - min (-(i : Int)) (-(j : Int))).toNat = max i j - j from by omega,
    signed_up s W i _ (Nat.le_max_left _ _), signed_up t C j _ (Nat.le_max_right _ _), cmp_scale]
theorem of_int (n : Int) : floatOfInt .f64 n = nw (decide (n < 0)) n.natAbs := by
  show FloatKind.f64.encode (.number (n < 0) n.natAbs 0) = _
  rw [enc_fin]; rfl
theorem w31 : nw false 2147483648 = 4746794007248502784 := by decide
theorem w31n : nw true 2147483648 = 13970166044103278592 := by decide
theorem w32 : nw false 4294967296 = 4751297606875873280 := by decide
theorem w0 : nw false 0 = 0 := by decide
theorem sg_t (W : Nat) : Ieee.signed true W 0 = -(W : Int) := by unfold Ieee.signed; simp
theorem sg_f (W : Nat) : Ieee.signed false W 0 = (W : Int) := by unfold Ieee.signed; simp
theorem not_lt_f {s t : Bool} {W C : Nat} (hW : W ≤ 4294967296) (hC : C ≤ 4294967296) (h : Ieee.signed t C 0 ≤ Ieee.signed s W 0) : (Ieee.double.order (nw s W) (nw t C) == some Ordering.lt) = false := by
  rw [nw_order s t hW hC]
  have : compare (Ieee.signed s W 0) (Ieee.signed t C 0) ≠ .lt := fun e => by have := Int.compare_eq_lt.1 e; omega
  cases hc : compare (Ieee.signed s W 0) (Ieee.signed t C 0) <;> simp_all
theorem not_ge_f {s t : Bool} {W C : Nat} (hW : W ≤ 4294967296) (hC : C ≤ 4294967296) (h : Ieee.signed s W 0 < Ieee.signed t C 0) : (Ieee.double.order (nw s W) (nw t C) == some Ordering.gt || Ieee.double.order (nw s W) (nw t C) == some Ordering.eq) = false := by
  rw [nw_order s t hW hC, Int.compare_eq_lt.2 h]; rfl
end Go.Proofs.YtjkebimmddlccaaDoor
