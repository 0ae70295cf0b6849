/-
  Proved: for every opcode and every value InumUnary returns true, and the arguments read as before: every operator of one value answers as the document tells, bit by bit. Condition: a table of the library (math/bits.deBruijn64tab) starts as its text lays it; the card ties that to the text (the pruned copy of the project).
-/
import Derived.Test.YtolllelejdnjlaaDoorCards
import Derived.Test.YtolllelejdnjlaaDoorTie
import Derived.Test.YtolllelejdnjlaaDoorTurnM
import Derived.Test.YtolllelejdnjlaaDoorUna2
import Derived.Test.YtolllelejdnjlaaDoorOnes
import Derived.Test.YtolllelejdnjlaaDoorExtA
import Derived.Test.YtolllelejdnjlaaDoorCnt
import Derived.Test.YtolllelejdnjlaaDoorRUna
import Derived.Deep.DeepHandedRow
import Derived.Lib.LaidTab
namespace Go.Proofs.YtolllelejdnjlaaDoor
open Go.RowKit
set_option linter.unusedVariables false
set_option linter.unusedSimpArgs false

set_option maxRecDepth 100000 in
set_option maxHeartbeats 2000000 in
theorem Una_g (op a a1 x y k t g : Int) (w : World)
    (F : Hid (∀ w : World, Calls Tryd.prog 11 #[.int .i64 op] w fun e w' => e = .returned (.agg #[.int .i64 k, .int .i64 t, .int .i64 g]) ∧ Grew w w'))
    (R : Hid (∀ w : World, Calls Tryd.prog 12 #[.int .i64 k] w fun e w' => e = .returned (.int .i64 1) ∧ w' = w))
    (A : Hid (∀ w : World, Calls Tryd.prog 13 #[.int .u64 a, .int .i64 t] w fun e w' => e = .returned (.int .u64 a1) ∧ w' = w))
    (U : Hid (∀ w' : World, Grew w w' → Calls Tryd.prog 14 #[.agg #[.int .i64 k, .int .i64 t, .int .i64 g], .int .u64 a1] w' fun e w'' => e = .returned (.int .u64 x) ∧ Grew w' w''))
    (C : Hid (∀ w : World, Calls Tryd.prog 13 #[.int .u64 x, .int .i64 g] w fun e w' => e = .returned (.int .u64 y) ∧ w' = w)) :
    Calls Tryd.prog 5 #[.int .i64 op, .int .u64 a] w fun e w' => e = .returned (.tuple #[.int .u64 y, .int .i64 0]) ∧ Grew w w' := by
  go_enter Tryd.func5, Tryd.ntmps5
  go_wp2_with fail
  refine (F.out _).mono ?_
  rintro e w1 ⟨rfl, g1⟩
  have G1 : Hid (Grew w w1) := g1
  clear g1
  go_wp2_with fail
  refine (R.out _).mono ?_
  rintro e w2 ⟨rfl, hw2⟩
  obtain rfl := hw2.symm
  go_wp2_with fail
  go_region_held3 (fun w' => w'.cell? ⟨w1.heap.size, 0, none⟩ = some (.int .i64 k) ∧ w'.cell? ⟨w1.heap.size, 1, none⟩ = some (.int .i64 t) ∧ w'.cell? ⟨w1.heap.size, 2, none⟩ = some (.int .i64 g)) (go_keep)
    (first
    | (go_at_call_of 13 (Value.int IntKind.u64 a); refine (A.out _).mono ?_; rintro e w3 ⟨rfl, hw3⟩; obtain rfl := hw3.symm)
    | (go_at_call 14; refine (U.out _ (by repeat (first | exact G1.out | refine Grew.drew ?_ | refine Grew.drewN ?_ _ | refine Grew.alloc ?_ _))).mono ?_; rintro e w5 ⟨rfl, g5⟩; have hc0 : w5.cell? ⟨w1.heap.size, 0, none⟩ = some (.int .i64 k) := (by rw [g5.1.cell (by simp)]; go_simp); have hc1 : w5.cell? ⟨w1.heap.size, 1, none⟩ = some (.int .i64 t) := (by rw [g5.1.cell (by simp)]; go_simp); have hc5 : w5.cell? ⟨w1.heap.size, 2, none⟩ = some (.int .i64 g) := (by rw [g5.1.cell (by simp)]; go_simp))
    | (go_at_call_of 13 (Value.int IntKind.u64 x); refine (C.out _).mono ?_; rintro e w6 ⟨rfl, hw6⟩; obtain rfl := hw6.symm))
  all_goals go_wp2
  all_goals go_ret2
  all_goals
    refine ⟨rfl, Grew.trans ?_ g5⟩
    repeat (first | exact G1.out | refine Grew.drew ?_ | refine Grew.drewN ?_ _ | refine Grew.alloc ?_ _ | refine Grew.set ?_ (by simp) _)
theorem tab_eq : ∀ j : Fin 64, ([0, 1, 56, 2, 57, 49, 28, 3, 61, 58, 42, 50, 38, 29, 17, 4, 62, 47, 59, 36, 45, 43, 51, 22, 53, 39, 33, 30, 24, 18, 12, 5, 63, 55, 48, 27, 60, 41, 37, 16, 46, 35, 44, 21, 52, 32, 23, 11, 54, 26, 40, 15, 34, 20, 31, 10, 25, 14, 19, 9, 13, 8, 7, 6] : List Int).getD j.val 0 = ((Lib.deBruijn64tab.getD j.val 0 : Nat) : Int) := by decide +kernel
theorem tab_of {W : World} (h : ∀ j, j < 64 → W.cell? ⟨0, j, none⟩ = some (.int .u8 (([0, 1, 56, 2, 57, 49, 28, 3, 61, 58, 42, 50, 38, 29, 17, 4, 62, 47, 59, 36, 45, 43, 51, 22, 53, 39, 33, 30, 24, 18, 12, 5, 63, 55, 48, 27, 60, 41, 37, 16, 46, 35, 44, 21, 52, 32, 23, 11, 54, 26, 40, 15, 34, 20, 31, 10, 25, 14, 19, 9, 13, 8, 7, 6] : List Int).getD j 0))) : Tab W := fun j hj => by
  rw [h j hj, tab_eq ⟨j, hj⟩]
theorem ex_30 (t a : Int) : ex 30 t a = (a + 128) % 256 - 128 := by unfold ex; rw [if_pos rfl]
theorem ex_31 (t a : Int) : ex 31 t a = (a + 32768) % 65536 - 32768 := by unfold ex; rw [if_neg (by decide), if_pos rfl]
theorem ex_32 (t a : Int) : ex 32 t a = (a + 2147483648) % 4294967296 - 2147483648 := by unfold ex; rw [if_neg (by decide), if_neg (by decide), if_pos rfl]
theorem ex_33 (t a : Int) : ex 33 t a = a := by unfold ex; rw [if_neg (by decide), if_neg (by decide), if_neg (by decide), if_neg (by decide)]
theorem ex_34 (t a : Int) : ex 34 t a = sg t a := by unfold ex; rw [if_neg (by decide), if_neg (by decide), if_neg (by decide), if_pos rfl]
theorem ex_35 (t a : Int) : ex 35 t a = a := by unfold ex; rw [if_neg (by decide), if_neg (by decide), if_neg (by decide), if_neg (by decide)]
theorem sg_1 (a : Int) : sg 1 a = (a + 2147483648) % 4294967296 - 2147483648 := by unfold sg; rw [if_pos rfl]
theorem ct_2 (a : Int) : ct 2 a = a := by unfold ct; rw [if_neg (by decide)]
theorem wd_1 : wd 1 = 32 := by unfold wd; rw [if_pos rfl]
theorem wn_le (t : Int) : wn t = 32 ∨ wn t = 64 := by unfold wn; split <;> simp
/- What Unary answers. -/
def uvv (op a : Int) : Int :=
  if kd op = 1 then (if ct (tk op) a = 0 then 1 else 0)
  else if kd op = 12 then ((wn (tk op) - Lib.bitLen (ct (tk op) a).toNat : Nat) : Int)
  else if kd op = 13 then ((tz (wn (tk op)) (ct (tk op) a).toNat : Nat) : Int)
  else if kd op = 14 then ((pc (ct (tk op) a).toNat (wn (tk op)) : Nat) : Int) else ev op a
theorem gk {op : Int} : (kd op = 1 → gv op = 1) ∧ (12 ≤ kd op → kd op ≤ 14 → gv op = tk op) ∧ (30 ≤ kd op → kd op ≤ 32 → gv op = tk op) ∧ (kd op = 33 → tk op = 2 ∧ gv op = 1) ∧ (34 ≤ kd op → tk op = 1 ∧ gv op = 2) := by
  by_cases c0 : 80 ≤ op ∧ op ≤ 90
  · obtain ⟨e1, e2, e3⟩ := kt_0 c0
    omega
  by_cases c1 : 69 ≤ op ∧ op ≤ 79
  · obtain ⟨e1, e2, e3⟩ := kt_1 c1
    omega
  by_cases c2 : 121 ≤ op ∧ op ≤ 138
  · obtain ⟨e1, e2, e3⟩ := kt_2 c2
    omega
  by_cases c3 : 103 ≤ op ∧ op ≤ 120
  · obtain ⟨e1, e2, e3⟩ := kt_3 c3
    omega
  by_cases c4 : 194 ≤ op ∧ op ≤ 196
  · obtain ⟨e1, e2, e3⟩ := kt_4 c4
    omega
  by_cases c5 : 192 ≤ op ∧ op ≤ 193
  · obtain ⟨e1, e2, e3⟩ := kt_5 c5
    omega
  by_cases c6 : op = 167
  · obtain ⟨e1, e2, e3⟩ := kt_6 c6
    omega
  by_cases c7 : 172 ≤ op ∧ op ≤ 173
  · obtain ⟨e1, e2, e3⟩ := kt_7 c7
    omega
  have := (kt_no c0 c1 c2 c3 c4 c5 c6 c7).1
  omega
theorem Unary_any (op a : Int) (w : World) (o0 : -9223372036854775808 ≤ op) (o1 : op ≤ 9223372036854775807) (h0 : 0 ≤ a) (h1 : a < 18446744073709551616) (hr : ark (kd op) = 1) (hT : Tab w) :
    Calls Tryd.prog 5 #[.int .i64 op, .int .u64 a] w fun e w' => e = .returned (.tuple #[.int .u64 (uvv op a), .int .i64 0]) ∧ Grew w w' := by
  obtain ⟨k0, k1⟩ := kd_bd op
  have ht := tk_or op
  have hg := gv_or op
  obtain ⟨g1, g2, _, _, _⟩ := gk (op := op)
  have hk : kd op = 1 ∨ kd op = 12 ∨ kd op = 13 ∨ kd op = 14 ∨ 30 ≤ kd op := by
    unfold ark at hr; split at hr
    · omega
    · split at hr <;> omega
  by_cases hx : 30 ≤ kd op
  · have e : uvv op a = ev op a := by unfold uvv; rw [if_neg (by omega), if_neg (by omega), if_neg (by omega), if_neg (by omega)]
    rw [e]; exact ext_any op a w o0 o1 h0 h1 hx
  have Fd := fun (w : World) => find_any op w o0 o1
  have R := fun (w : World) => arity_any (kd op) w
  rw [hr] at R
  have C := fun (w : World) => cut_u a (tk op) w ht
  obtain ⟨a0, a1⟩ := ct_bd ht h0 h1
  have la := ct_lt ht h0 h1
  have hn : ct (tk op) a < ((2 ^ wn (tk op) : Nat) : Int) := by rcases ht with h | h <;> rw [h] at a1 ⊢ <;> simp [wn] at * <;> omega
  have hwn : wd (tk op) = (wn (tk op) : Int) := wd_wn _
  have hw := wn_le (tk op)
  obtain ⟨x, hxx⟩ : ∃ x : Nat, ct (tk op) a = x := ⟨(ct (tk op) a).toNat, by omega⟩
  have hxa : x < 2 ^ wn (tk op) := by omega
  have hx64 : x < 18446744073709551616 := by omega
  have small : ∀ z : Nat, z ≤ 64 → ct (gv op) (z : Int) = (z : Int) := by
    intro z hz
    rcases hg with h | h <;> rw [h] <;> simp [ct] <;> omega
  have U : ∃ z : Nat, z ≤ 64 ∧ uvv op a = (z : Int) ∧ ∀ w' : World, Grew w w' → Calls Tryd.prog 14 #[.agg #[.int .i64 (kd op), .int .i64 (tk op), .int .i64 (gv op)], .int .u64 (ct (tk op) a)] w' fun e w'' => e = .returned (.int .u64 (z : Int)) ∧ Grew w' w'' := by
    unfold uvv
    rw [hxx, Int.toNat_natCast]
    rcases hk with e | e | e | e | e
    · rw [if_pos e, e]
      refine ⟨if (x : Int) = 0 then 1 else 0, by split <;> omega, by split <;> rfl, fun w' _ => ?_⟩
      refine una_1 _ _ _ _ w' (decide ((x : Int) = 0)) (by
        by_cases h : (x : Int) = 0
        · rw [decide_eq_true h]; exact beq_iff_eq.2 h
        · rw [decide_eq_false h]; exact beq_eq_false_iff_ne.2 h) (fun w => ?_)
      have := truth_any (decide ((x : Int) = 0)) w
      by_cases h : (x : Int) = 0
      · rw [decide_eq_true h] at this ⊢; rw [if_pos h]; exact this
      · rw [decide_eq_false h] at this ⊢; rw [if_neg h]; exact this
    · rw [if_neg (by omega), if_pos e, e]
      have hb := Lib.bitLen_le x (wn (tk op)) (by omega) hxa
      have Z := fun (w : World) => Lead_any (x : Int) w (by omega) (by omega)
      rw [Int.toNat_natCast] at Z
      refine ⟨_, by omega, rfl, fun w' _ => ?_⟩
      exact una_12 _ _ _ _ _ _ _ _ w' rfl rfl (by rw [IntKind.wrap_u64, IntKind.wrap_i64, IntKind.wrap_i64, hwn]; omega) Z (fun w => width_x 12 _ _ w ht)
    · rw [if_neg (by omega), if_neg (by omega), if_pos e, e]
      have hc64 : Lib.ctz 64 x ≤ 64 := by
        by_cases hx0 : x = 0
        · subst hx0; decide
        · exact Nat.le_of_lt (Lib.lowest_bit 64 x hx0 hx64).2
      refine ⟨tz (wn (tk op)) x, by unfold tz; omega, rfl, fun w' hgw => ?_⟩
      have Z : ∀ w'' : World, Grew w' w'' → Calls Tryd.prog 25 #[.int .u64 (x : Int)] w'' fun e w3 => e = .returned (.int .i64 ((Lib.ctz 64 x : Nat) : Int)) ∧ w3 = w'' := fun w'' h => Trail_any x w'' hx64 ((hT.grew hgw).grew h)
      by_cases hlt : wd (tk op) < ((Lib.ctz 64 x : Nat) : Int)
      · exact una_13a _ _ _ _ _ _ w' hlt (by rw [IntKind.wrap_u64, hwn]; unfold tz; omega) Z (fun w => width_x 13 _ _ w ht)
      · exact una_13b _ _ _ _ _ _ w' (by omega) (by rw [IntKind.wrap_u64]; unfold tz; omega) Z (fun w => width_x 13 _ _ w ht)
    · rw [if_neg (by omega), if_neg (by omega), if_neg (by omega), if_pos e, e]
      have hp := pc_le x (wn (tk op))
      have hpw : pc x 64 = pc x (wn (tk op)) := pc_wide hxa (by omega)
      have O := fun (w : World) => Ones_any x w hx64
      rw [hpw] at O
      exact ⟨_, by omega, rfl, fun w' _ => una_14 _ _ _ _ w' (by omega) (by omega) O⟩
    · omega
  obtain ⟨z, hz, ez, U⟩ := U
  rw [ez]
  have D := fun (w : World) => cut_u (z : Int) (gv op) w hg
  rw [small z hz] at D
  exact Una_g op a _ _ _ _ _ _ w Fd R C U D
theorem RUnary_any (op a : Int) (w : World) (h0 : 0 ≤ a) (h1 : a < 18446744073709551616) (hr : ark (kd op) = 1) :
    Calls Tryd.prog 8 #[.int .i64 op, .int .u64 a] w fun e w' => e = .returned (.int .u64 (uvv op a)) ∧ w' = w := by
  obtain ⟨k0, k1⟩ := kd_bd op
  have ht := tk_or op
  obtain ⟨g1, g2, g3, g4, g5⟩ := gk (op := op)
  have hk : kd op = 1 ∨ kd op = 12 ∨ kd op = 13 ∨ kd op = 14 ∨ kd op = 30 ∨ kd op = 31 ∨ kd op = 32 ∨ kd op = 33 ∨ kd op = 34 ∨ kd op = 35 := by
    unfold ark at hr; split at hr
    · omega
    · split at hr <;> omega
  have BI := fun (w : World) => RBits_any op w
  unfold rb at BI
  rw [if_neg (by omega)] at BI
  have CA := fun (w : World) => Cut_any (tk op) a w ht h0
  have NM := fun (w : World) => RName_any op w
  obtain ⟨a0, a1⟩ := ct_bd ht h0 h1
  have la := ct_lt ht h0 h1
  have hn : ct (tk op) a < ((2 ^ wn (tk op) : Nat) : Int) := by rcases ht with h | h <;> rw [h] at a1 ⊢ <;> simp [wn] at * <;> omega
  have hwn : wd (tk op) = (wn (tk op) : Int) := wd_wn _
  have hw := wn_le (tk op)
  have CC := fun (z : Int) (w : World) => Cut_any (tk op) (z % 18446744073709551616) w ht (by omega)
  have cntd : kd op = 12 ∨ kd op = 13 ∨ kd op = 14 → ∀ w : World, Calls Tryd.prog 21 #[.string (wstr (kd op)), .int .u64 (ct (tk op) a), .int .i64 (wd (tk op))] w fun e w' => e = .returned (.int .u64 (uvv op a)) ∧ w' = w := by
    intro hc w
    obtain ⟨x, hxx⟩ : ∃ x : Nat, ct (tk op) a = x := ⟨(ct (tk op) a).toNat, by omega⟩
    have hxa : x < 2 ^ wn (tk op) := by omega
    unfold uvv
    rw [hxx, Int.toNat_natCast, hwn]
    have Bt := fun (i : Int) (w : World) (i0 : 0 ≤ i) (i1 : i < 64) => (bit_any (x : Int) i w (by omega) i0 i1 : Calls Tryd.prog 32 #[.int .u64 (x : Int), .int .i64 i] w fun e w' => e = .returned (.bool (x.testBit i.toNat)) ∧ w' = w)
    rcases hc with e | e | e
    · rw [if_neg (by omega), if_pos e, e]
      exact cnt_clz _ x _ (wn (tk op)) w (by omega) (by omega) (by rw [q_12 (by decide) (by decide)]; decide) (fun k h => clz_no _ x k (by omega) hxa h) (fun h => clz_yes _ x (by omega) hxa h) Bt
    · rw [if_neg (by omega), if_neg (by omega), if_pos e, e]
      exact cnt_ctz _ x _ (wn (tk op)) w (by omega) (by unfold tz; omega) (by rw [q_12 (by decide) (by decide)]; decide) (by rw [q_13 (by decide) (by decide)]; decide) (fun k h => tz_no _ x k (by omega) hxa h) (fun h => tz_yes _ x (by omega) hxa h) Bt
    · rw [if_neg (by omega), if_neg (by omega), if_neg (by omega), if_pos e, e]
      exact cnt_pop _ x (wn (tk op)) w (by omega) (by rw [q_12 (by decide) (by decide)]; decide) (by rw [q_13 (by decide) (by decide)]; decide) Bt
  rcases hk with e | e | e | e | e | e | e | e | e | e
  · have ee : uvv op a = (if (ct (tk op) a == 0) then 1 else 0) := by unfold uvv; rw [if_pos e]; by_cases h : ct (tk op) a = 0 <;> simp [h]
    rw [ee]
    exact ru_1 op a _ _ _ _ w (by rw [q_1 k0 k1]; exact decide_eq_true (by omega)) BI CA NM (fun w => rtruth_any _ w)
  · exact ru_cnt op a _ _ _ _ w (by rw [q_1 k0 k1]; exact decide_eq_false (by omega)) (by rw [q_30 k0 k1]; exact decide_eq_false (by omega)) (by rw [q_31 k0 k1]; exact decide_eq_false (by omega)) (by rw [q_32 k0 k1]; exact decide_eq_false (by omega)) (by rw [q_33 k0 k1]; exact decide_eq_false (by omega)) (by rw [q_34 k0 k1]; exact decide_eq_false (by omega)) (by rw [q_35 k0 k1]; exact decide_eq_false (by omega)) BI CA NM (cntd (by omega))
  · exact ru_cnt op a _ _ _ _ w (by rw [q_1 k0 k1]; exact decide_eq_false (by omega)) (by rw [q_30 k0 k1]; exact decide_eq_false (by omega)) (by rw [q_31 k0 k1]; exact decide_eq_false (by omega)) (by rw [q_32 k0 k1]; exact decide_eq_false (by omega)) (by rw [q_33 k0 k1]; exact decide_eq_false (by omega)) (by rw [q_34 k0 k1]; exact decide_eq_false (by omega)) (by rw [q_35 k0 k1]; exact decide_eq_false (by omega)) BI CA NM (cntd (by omega))
  · exact ru_cnt op a _ _ _ _ w (by rw [q_1 k0 k1]; exact decide_eq_false (by omega)) (by rw [q_30 k0 k1]; exact decide_eq_false (by omega)) (by rw [q_31 k0 k1]; exact decide_eq_false (by omega)) (by rw [q_32 k0 k1]; exact decide_eq_false (by omega)) (by rw [q_33 k0 k1]; exact decide_eq_false (by omega)) (by rw [q_34 k0 k1]; exact decide_eq_false (by omega)) (by rw [q_35 k0 k1]; exact decide_eq_false (by omega)) BI CA NM (cntd (by omega))
  · have ee : uvv op a = ct (tk op) (IntKind.u64.wrap ((ct (tk op) a + 128) % 256 - 128)) := by
      unfold uvv; rw [if_neg (by omega), if_neg (by omega), if_neg (by omega), if_neg (by omega)]
      unfold ev; rw [g3 (by omega) (by omega), e, IntKind.wrap_u64, ex_30]
    have D := CC ((ct (tk op) a + 128) % 256 - 128)
    rw [← IntKind.wrap_u64] at D
    rw [ee]
    exact ru_30 op a _ _ _ _ _ w (by rw [q_1 k0 k1]; exact decide_eq_false (by omega)) (by rw [q_30 k0 k1]; exact decide_eq_true (by omega)) BI CA NM (fun w => Signed_8 _ w a0) D
  · have ee : uvv op a = ct (tk op) (IntKind.u64.wrap ((ct (tk op) a + 32768) % 65536 - 32768)) := by
      unfold uvv; rw [if_neg (by omega), if_neg (by omega), if_neg (by omega), if_neg (by omega)]
      unfold ev; rw [g3 (by omega) (by omega), e, IntKind.wrap_u64, ex_31]
    have D := CC ((ct (tk op) a + 32768) % 65536 - 32768)
    rw [← IntKind.wrap_u64] at D
    rw [ee]
    exact ru_31 op a _ _ _ _ _ w (by rw [q_1 k0 k1]; exact decide_eq_false (by omega)) (by rw [q_30 k0 k1]; exact decide_eq_false (by omega)) (by rw [q_31 k0 k1]; exact decide_eq_true (by omega)) BI CA NM (fun w => Signed_16 _ w a0) D
  · have ee : uvv op a = ct (tk op) (IntKind.u64.wrap ((ct (tk op) a + 2147483648) % 4294967296 - 2147483648)) := by
      unfold uvv; rw [if_neg (by omega), if_neg (by omega), if_neg (by omega), if_neg (by omega)]
      unfold ev; rw [g3 (by omega) (by omega), e, IntKind.wrap_u64, ex_32]
    have D := CC ((ct (tk op) a + 2147483648) % 4294967296 - 2147483648)
    rw [← IntKind.wrap_u64] at D
    rw [ee]
    exact ru_32 op a _ _ _ _ _ w (by rw [q_1 k0 k1]; exact decide_eq_false (by omega)) (by rw [q_30 k0 k1]; exact decide_eq_false (by omega)) (by rw [q_31 k0 k1]; exact decide_eq_false (by omega)) (by rw [q_32 k0 k1]; exact decide_eq_true (by omega)) BI CA NM (fun w => (by have := Signed_any 1 (ct (tk op) a) w (by decide) a0 la; rwa [sg_1, wd_1] at this)) D
  · obtain ⟨t2, gg⟩ := g4 e
    have ee : uvv op a = ct 1 (ct (tk op) a) := by
      unfold uvv; rw [if_neg (by omega), if_neg (by omega), if_neg (by omega), if_neg (by omega)]
      unfold ev; rw [gg, e, ex_33, Int.emod_eq_of_lt a0 la]
    rw [ee]
    exact ru_33 op a _ _ _ _ w (by rw [q_1 k0 k1]; exact decide_eq_false (by omega)) (by rw [q_30 k0 k1]; exact decide_eq_false (by omega)) (by rw [q_31 k0 k1]; exact decide_eq_false (by omega)) (by rw [q_32 k0 k1]; exact decide_eq_false (by omega)) (by rw [q_33 k0 k1]; exact decide_eq_true (by omega)) BI CA NM (fun w => by have := Cut_any 1 (ct (tk op) a) w (by decide) a0; rwa [wd_1] at this)
  · obtain ⟨t2, gg⟩ := g5 (by omega)
    have ee : uvv op a = IntKind.u64.wrap (sg 1 (ct (tk op) a)) := by
      unfold uvv; rw [if_neg (by omega), if_neg (by omega), if_neg (by omega), if_neg (by omega)]
      unfold ev; rw [gg, e, ex_34, IntKind.wrap_u64, ct_2, t2]
    rw [ee]
    exact ru_34 op a _ _ _ _ w (by rw [q_1 k0 k1]; exact decide_eq_false (by omega)) (by rw [q_30 k0 k1]; exact decide_eq_false (by omega)) (by rw [q_31 k0 k1]; exact decide_eq_false (by omega)) (by rw [q_32 k0 k1]; exact decide_eq_false (by omega)) (by rw [q_33 k0 k1]; exact decide_eq_false (by omega)) (by rw [q_34 k0 k1]; exact decide_eq_true (by omega)) BI CA NM (fun w => by have := Signed_any 1 (ct (tk op) a) w (by decide) a0 la; rwa [wd_1] at this)
  · obtain ⟨t2, gg⟩ := g5 (by omega)
    have ee : uvv op a = ct (tk op) a := by
      unfold uvv; rw [if_neg (by omega), if_neg (by omega), if_neg (by omega), if_neg (by omega)]
      unfold ev; rw [gg, e, ex_35, ct_2, Int.emod_eq_of_lt a0 la]
    rw [ee]
    exact ru_35 op a _ _ _ w (by rw [q_1 k0 k1]; exact decide_eq_false (by omega)) (by rw [q_30 k0 k1]; exact decide_eq_false (by omega)) (by rw [q_31 k0 k1]; exact decide_eq_false (by omega)) (by rw [q_32 k0 k1]; exact decide_eq_false (by omega)) (by rw [q_33 k0 k1]; exact decide_eq_false (by omega)) (by rw [q_34 k0 k1]; exact decide_eq_false (by omega)) (by rw [q_35 k0 k1]; exact decide_eq_true (by omega)) BI CA NM
set_option maxRecDepth 100000 in
theorem unl_no (op a r : Int) (w : World) (hr : (r != 1) = true)
    (B : Hid (Calls Tryd.prog 5 #[.int .i64 op, .int .u64 a] w fun e w' => e = .returned (.tuple #[.int .u64 0, .int .i64 1]) ∧ Grew w w'))
    (R : Hid (∀ w : World, Calls Tryd.prog 6 #[.int .i64 op] w fun e w' => e = .returned (.int .i64 r) ∧ w' = w))
    (AA : Hid (∀ w : World, Calls Tryd.prog 7 #[] w fun e w' => e = .returned (.bool true) ∧ Grew w w')) :
    Calls Tryd.prog 3 #[.int .i64 op, .int .u64 a] w fun e w' => e = .returned (.bool true) ∧ Grew w w' := by
  go_enter Tryd.func3, Tryd.ntmps3
  go_wp2_with fail
  refine (B.out).mono ?_
  rintro e w1 ⟨rfl, g1⟩
  have G1 : Hid (Grew w w1) := g1
  clear g1
  go_wp2_with fail
  refine (R.out _).mono ?_
  rintro e w2 ⟨rfl, hw⟩
  obtain rfl := hw.symm
  clear hw
  go_wp2_with fail
  refine (AA.out _).mono ?_
  rintro e w3 ⟨rfl, g3⟩
  have G3 : Hid (Grew w w3) := G1.out.trans g3
  clear g3
  go_wp2_with fail
  go_ret
  exact ⟨rfl, G3.out⟩
set_option maxRecDepth 100000 in
theorem unl_yes (op a x : Int) (w : World)
    (B : Hid (Calls Tryd.prog 5 #[.int .i64 op, .int .u64 a] w fun e w' => e = .returned (.tuple #[.int .u64 x, .int .i64 0]) ∧ Grew w w'))
    (R : Hid (∀ w : World, Calls Tryd.prog 6 #[.int .i64 op] w fun e w' => e = .returned (.int .i64 1) ∧ w' = w))
    (D : Hid (∀ w : World, Calls Tryd.prog 8 #[.int .i64 op, .int .u64 a] w fun e w' => e = .returned (.int .u64 x) ∧ w' = w)) :
    Calls Tryd.prog 3 #[.int .i64 op, .int .u64 a] w fun e w' => e = .returned (.bool true) ∧ Grew w w' := by
  go_enter Tryd.func3, Tryd.ntmps3
  go_wp2_with fail
  refine (B.out).mono ?_
  rintro e w1 ⟨rfl, g1⟩
  have G1 : Hid (Grew w w1) := g1
  clear g1
  go_wp2_with fail
  refine (R.out _).mono ?_
  rintro e w2 ⟨rfl, hw⟩
  obtain rfl := hw.symm
  clear hw
  go_wp2_with fail
  refine (D.out _).mono ?_
  rintro e w3 ⟨rfl, hw3⟩
  obtain rfl := hw3.symm
  go_wp2_with fail
  go_ret
  exact ⟨by simp, G1.out⟩
theorem unary_walk (op a : Int) (w : World) (o0 : -9223372036854775808 ≤ op) (o1 : op ≤ 9223372036854775807) (h0 : 0 ≤ a) (h1 : a < 18446744073709551616) (hT : Tab w) :
    Calls Tryd.prog 3 #[.int .i64 op, .int .u64 a] w fun e w' => e = .returned (.bool true) ∧ Grew w w' := by
  have R := fun (w : World) => RArity_any op w
  by_cases hr : ark (kd op) = 1
  · rw [hr] at R
    exact unl_yes op a _ w (Unary_any op a w o0 o1 h0 h1 hr hT) R (fun w => RUnary_any op a w h0 h1 hr)
  · have hb : (ark (kd op) != 1) = true := by rw [bne_iff_ne]; exact hr
    exact unl_no op a _ w hb (Una_no op a _ _ _ _ w hb (fun w => find_any op w o0 o1) (fun w => arity_any (kd op) w)) R awake_any
end Go.Proofs.YtolllelejdnjlaaDoor
namespace Go.Proofs.YtolllelejdnjlaaDoor.inumUnary
open Go.ChangeShapes Go.WideShapes Go.ChangeAt Go.RowKit
set_option linter.unusedVariables false

theorem own : ownKnob Tryd.prog.godebug = none := by kernel_rfl
theorem gTab : Tryd.prog.globalNamed "math/bits.deBruijn64tab" = some 0 := by kernel_rfl
theorem gTabType : (Tryd.prog.globals[0]?).map (·.type) = some 56 := by kernel_rfl
theorem cellsT : Tryd.prog.cellsOf 56 = 64 := by kernel_rfl
theorem cellsE : Tryd.prog.cellsOf 5 = 1 := by kernel_rfl
/- What the row's list gives: the table's cells hold its numbers. -/
theorem table {W : World} (h : laidMetH Tryd.prog Rows.inumUnaryRow.laid W) : Lib.TabIs Tryd.prog W "math/bits.deBruijn64tab" .u8 [0, 1, 56, 2, 57, 49, 28, 3, 61, 58, 42, 50, 38, 29, 17, 4, 62, 47, 59, 36, 45, 43, 51, 22, 53, 39, 33, 30, 24, 18, 12, 5, 63, 55, 48, 27, 60, 41, 37, 16, 46, 35, 44, 21, 52, 32, 23, 11, 54, 26, 40, 15, 34, 20, 31, 10, 25, 14, 19, 9, 13, 8, 7, 6] :=
  Lib.tabIs_of_head (rest := []) gTab gTabType Tryd.underlying56 Tryd.underlying5 cellsE cellsT h
theorem contract (H : Type) (enc : TypeId × Value → H) (W : World) (base : Nat) (args : Array Value) (ds gs : List (DataW H)) (before : List MemPlace)
    (hval : ∀ (j : Nat) t v, Tryd.f3.params[j]? = some t → args[j]? = some v → Value.okWide Tryd.prog W .any base t v)
    (hW : DataW.Whole enc Tryd.prog Tryd.f3.params.toList Rows.inumUnarySpec.vars false W args.toList ds gs before) (hL : laidMetH Tryd.prog Rows.inumUnaryRow.laid W) :
    Calls Tryd.prog 3 args W fun e W' => ∃ v, e = .returned v ∧ Rows.inumUnarySpec.post enc Tryd.prog Tryd.f3 false true false false W args v W' := by
  have hW' := hW
  obtain ⟨p, q, hA0, hV, rfl, hfz, hnd⟩ := hW
  have hA : DataW.TrodAll enc Tryd.prog W 0 (fun _ => true) true Tryd.f3.params.toList args.toList ds p := hA0
  rw [Tryd.params3] at hA hval
  obtain ⟨v0, vs0, d0, ds0, p0, q0, hargs, rfl, rfl, h0, r0⟩ := trodAll_cons hA
  obtain ⟨v1, vs1, d1, ds1, p1, q1, rfl, rfl, rfl, h1, r1⟩ := trodAll_cons r0
  obtain ⟨rfl, rfl, rfl⟩ := trodAll_nil r1
  obtain rfl : args = #[v0, v1] := by cases args; simp_all
  obtain ⟨rfl, rfl⟩ := trodVars_none hV
  obtain ⟨a0, rfl, rfl, rfl, w0⟩ := open_int Tryd.underlying3 (hval 0 3 v0 rfl rfl) h0
  have b0 := bounds_i64 w0
  obtain ⟨a1, rfl, rfl, rfl, w1⟩ := open_int Tryd.underlying22 (hval 1 22 v1 rfl rfl) h1
  have b1 := bounds_u64 w1
  have hT : ∀ j, j < 64 → W.cell? ⟨0, j, none⟩ = some (.int .u8 ([0, 1, 56, 2, 57, 49, 28, 3, 61, 58, 42, 50, 38, 29, 17, 4, 62, 47, 59, 36, 45, 43, 51, 22, 53, 39, 33, 30, 24, 18, 12, 5, 63, 55, 48, 27, 60, 41, 37, 16, 46, 35, 44, 21, 52, 32, 23, 11, 54, 26, 40, 15, 34, 20, 31, 10, 25, 14, 19, 9, 13, 8, 7, 6].getD j 0)) := fun j hj => (table hL).cell gTab j hj
  clear hA0
  refine (unary_walk a0 a1 W (by omega) (by omega) (by omega) (by omega) (tab_of hT)).mono fun e W' ⟨he, bel⟩ => ?_
  subst he
  exact ⟨_, rfl, _, _, _, [], _, [], hW', trodAll_mk1 (shut_bool Tryd.underlying4 _), (trodAll_cons_mk (shut_int Tryd.underlying3 w0) (trodAll_cons_mk (shut_int Tryd.underlying22 w1) trodAll_mk0)), rfl, bel.1.frame _, fun h => by cases h⟩
theorem laid_met (os : Os) : laidMet Tryd.prog Rows.inumUnaryRow.laid (({ World.holding Tryd.prog os ⟨#[], #[], []⟩ with heap := (World.holding Tryd.prog os ⟨#[], #[], []⟩).heap.modify 0 fun
      | .cells _ t frozen => .cells #[.int .u8 0, .int .u8 1, .int .u8 56, .int .u8 2, .int .u8 57, .int .u8 49, .int .u8 28, .int .u8 3, .int .u8 61, .int .u8 58, .int .u8 42, .int .u8 50, .int .u8 38, .int .u8 29, .int .u8 17, .int .u8 4, .int .u8 62, .int .u8 47, .int .u8 59, .int .u8 36, .int .u8 45, .int .u8 43, .int .u8 51, .int .u8 22, .int .u8 53, .int .u8 39, .int .u8 33, .int .u8 30, .int .u8 24, .int .u8 18, .int .u8 12, .int .u8 5, .int .u8 63, .int .u8 55, .int .u8 48, .int .u8 27, .int .u8 60, .int .u8 41, .int .u8 37, .int .u8 16, .int .u8 46, .int .u8 35, .int .u8 44, .int .u8 21, .int .u8 52, .int .u8 32, .int .u8 23, .int .u8 11, .int .u8 54, .int .u8 26, .int .u8 40, .int .u8 15, .int .u8 34, .int .u8 20, .int .u8 31, .int .u8 10, .int .u8 25, .int .u8 14, .int .u8 19, .int .u8 9, .int .u8 13, .int .u8 8, .int .u8 7, .int .u8 6] t frozen
      | o => o } : World).forCall (fun _ _ => 0) ⟨#[], #[.int .i64 0, .int .u64 0], []⟩).memory :=
  laidMet_of_run' 8 (by kernel_rfl) (by kernel_rfl)
theorem reads (os : Os) {H : Type} (enc : TypeId × Value → H) : ∃ places, DataW.whole enc Tryd.prog (({ World.holding Tryd.prog os ⟨#[], #[], []⟩ with heap := (World.holding Tryd.prog os ⟨#[], #[], []⟩).heap.modify 0 fun
      | .cells _ t frozen => .cells #[.int .u8 0, .int .u8 1, .int .u8 56, .int .u8 2, .int .u8 57, .int .u8 49, .int .u8 28, .int .u8 3, .int .u8 61, .int .u8 58, .int .u8 42, .int .u8 50, .int .u8 38, .int .u8 29, .int .u8 17, .int .u8 4, .int .u8 62, .int .u8 47, .int .u8 59, .int .u8 36, .int .u8 45, .int .u8 43, .int .u8 51, .int .u8 22, .int .u8 53, .int .u8 39, .int .u8 33, .int .u8 30, .int .u8 24, .int .u8 18, .int .u8 12, .int .u8 5, .int .u8 63, .int .u8 55, .int .u8 48, .int .u8 27, .int .u8 60, .int .u8 41, .int .u8 37, .int .u8 16, .int .u8 46, .int .u8 35, .int .u8 44, .int .u8 21, .int .u8 52, .int .u8 32, .int .u8 23, .int .u8 11, .int .u8 54, .int .u8 26, .int .u8 40, .int .u8 15, .int .u8 34, .int .u8 20, .int .u8 31, .int .u8 10, .int .u8 25, .int .u8 14, .int .u8 19, .int .u8 9, .int .u8 13, .int .u8 8, .int .u8 7, .int .u8 6] t frozen
      | o => o } : World).forCall (fun _ _ => 0) ⟨#[], #[.int .i64 0, .int .u64 0], []⟩).memory Tryd.f3.params.toList Rows.inumUnarySpec.vars false #[Value.int .i64 0, Value.int .u64 0].toList 8 = some ([.lit (.int .i64 0), .lit (.int .u64 0)], [], places) :=
  ⟨[], by kernel_rfl⟩
set_option maxRecDepth 100000 in
theorem lifted (os : Os) (started : os.Started) (H : Type) (enc : TypeId × Value → H) (F : Stop.Interp) :
    ReturnsInHanded {} Tryd.checked os 3 .any ((OpenSpec.ofChange Rows.inumUnarySpec).preRow enc Tryd.prog Tryd.f3 Rows.inumUnaryRow.domain false Rows.inumUnaryRow.laid) (((OpenSpec.ofChange Rows.inumUnarySpec).at F).post enc Tryd.prog Tryd.f3 false true false false) := by
  obtain ⟨places, hx⟩ := reads os enc
  refine returnsInHanded_of_row (C := Tryd.checked) (s := OpenSpec.ofChange Rows.inumUnarySpec) own started (by kernel_rfl) Tryd.func3
    (witness_row_at (enc := enc) (C := Tryd.checked) false ({ World.holding Tryd.prog os ⟨#[], #[], []⟩ with heap := (World.holding Tryd.prog os ⟨#[], #[], []⟩).heap.modify 0 fun
      | .cells _ t frozen => .cells #[.int .u8 0, .int .u8 1, .int .u8 56, .int .u8 2, .int .u8 57, .int .u8 49, .int .u8 28, .int .u8 3, .int .u8 61, .int .u8 58, .int .u8 42, .int .u8 50, .int .u8 38, .int .u8 29, .int .u8 17, .int .u8 4, .int .u8 62, .int .u8 47, .int .u8 59, .int .u8 36, .int .u8 45, .int .u8 43, .int .u8 51, .int .u8 22, .int .u8 53, .int .u8 39, .int .u8 33, .int .u8 30, .int .u8 24, .int .u8 18, .int .u8 12, .int .u8 5, .int .u8 63, .int .u8 55, .int .u8 48, .int .u8 27, .int .u8 60, .int .u8 41, .int .u8 37, .int .u8 16, .int .u8 46, .int .u8 35, .int .u8 44, .int .u8 21, .int .u8 52, .int .u8 32, .int .u8 23, .int .u8 11, .int .u8 54, .int .u8 26, .int .u8 40, .int .u8 15, .int .u8 34, .int .u8 20, .int .u8 31, .int .u8 10, .int .u8 25, .int .u8 14, .int .u8 19, .int .u8 9, .int .u8 13, .int .u8 8, .int .u8 7, .int .u8 6] t frozen
      | o => o } : World) #[.int .i64 0, .int .u64 0] rfl (by kernel_rfl) (by kernel_rfl) (by kernel_rfl)
      (OpenSpec.preRow_of_cond 8 hx (by kernel_rfl) (fun k hk => by cases hk) (by kernel_rfl) (laid_met os))) ?_
  intro W base args ds gs before hval hW _ _ _ hL _ _
  exact contract H enc W base args ds gs before hval hW hL
theorem said : Rows.InumUnarySaid :=
  OpenClaim.holds_of_cond 3 Tryd.f3 rfl rfl rfl rfl rfl rfl rfl ⟨rfl, rfl, rfl, rfl, rfl⟩ rfl rfl rfl rfl rfl (by kernel_rfl) Tryd.func3 (by kernel_rfl)
    (of_decide_eq_true (by kernel_rfl)) (by unfold Func.isWrapper; first | (rw [if_pos (by decide +kernel)]; kernel_rfl) | (rw [if_neg (by decide +kernel)]; exact ⟨rfl, rfl⟩))
    (fun os started H enc _ F => by rw [OpenClaim.pre_eq_preRow]; exact lifted os started H enc F)
/- No parameter wants a stand-in; the program's own looks are off: what the card asks. -/
theorem plain (f : FuncId) (fn : Func) (hf : Tryd.pinned.checked.prog.funcNamed "ratchet/ratchetlaw03.InumUnary" = some f) (hfn : Tryd.pinned.checked.prog.funcs[f]? = some fn) :
    false = Tryd.pinned.checked.prog.looks [] ∧ ∀ (j : Nat) t, fn.params[j]? = some t → Tryd.pinned.checked.prog.wantsStandIn t = false := by
  obtain rfl : f = 3 := Option.some.inj ((show Tryd.prog.funcNamed "ratchet/ratchetlaw03.InumUnary" = some 3 by kernel_rfl).symm.trans hf) |>.symm
  obtain rfl : fn = Tryd.f3 := (Option.some.inj (Tryd.func3.symm.trans hfn)).symm
  refine ⟨by kernel_rfl, fun j t ht => ?_⟩
  rw [Tryd.params3] at ht
  have hm : t ∈ [3, 22] := by simpa using Array.mem_of_getElem? ht
  have hall : ([3, 22].all fun u => !Tryd.prog.wantsStandIn u) = true := by kernel_rfl
  exact (show Tryd.prog.wantsStandIn t = false by simpa using List.all_eq_true.1 hall t hm)
end Go.Proofs.YtolllelejdnjlaaDoor.inumUnary
namespace Go.Proofs.YtolllelejdnjlaaDoor
theorem inumUnary_holds : Rows.InumUnaryCardSaid :=
  Claim7.holds_tied_plain_at .later [] _ _ _ _ inumUnary.said (fun _ h => by cases h) (by kernel_rfl) (fun _ h => by cases h) inumUnary_row_tie rfl ⟨rfl, rfl⟩ (by kernel_rfl) rfl inumUnary.plain (by kernel_rfl)
#print axioms inumUnary_holds
end Go.Proofs.YtolllelejdnjlaaDoor
