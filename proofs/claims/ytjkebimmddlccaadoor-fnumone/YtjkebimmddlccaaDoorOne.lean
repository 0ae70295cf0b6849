/-
  FnumOne: for all words a, b and every k: no NaN comes of the operators that FnumOne tries (add to max, ceil to sqrt, of both kinds) but the canonical one. It holds where the table ratchet/fnum.rows starts as its text lays it (the card ties it to the text of the pruned copy); no other condition.
-/
import Derived.Test.YtjkebimmddlccaaDoorCards
import Derived.Test.YtjkebimmddlccaaDoorTie
import Derived.Test.YtjkebimmddlccaaDoorAns
import Derived.Test.YtjkebimmddlccaaDoorLaid
import Derived.Deep.DeepHandedRow
import Derived.Lib.LaidTab
namespace Go.Proofs.YtjkebimmddlccaaDoor
open Go.RowKit
set_option linter.unusedVariables false
set_option linter.unusedSimpArgs false

theorem nan_of32 (y : Nat) (h : One Ieee.single y) : ∃ q r : Bool, (∀ w : World, Calls Tryd.prog 18 #[.int .i64 32, .int .u64 (y : Int)] w fun e w' => e = .returned (.tuple #[.bool q, .bool r, .int .i64 0]) ∧ w' = w) ∧ (q = false ∨ q = true ∧ ((y : Int) == 2143289344) = true) := by
  have hy : y < 2 ^ 32 := h.1
  have hm : y % 2 ^ 32 = y := Nat.mod_eq_of_lt hy
  refine ⟨decide (Ieee.single.infRung < sz Ieee.single y), sz Ieee.single y == cn Ieee.single, fun w => ?_, ?_⟩
  · have := Nan32 y (Nat.lt_of_lt_of_le hy (by decide)) w
    rw [hm] at this
    exact this
  · by_cases hn : Ieee.single.infRung < sz Ieee.single y
    · right
      have := h.2 hn
      rw [cn1] at this
      exact ⟨decide_eq_true hn, beq_iff_eq.2 (by omega)⟩
    · exact Or.inl (decide_eq_false hn)
set_option maxRecDepth 100000 in
set_option maxHeartbeats 2000000 in
theorem one_w32 (a b x k : Int) (p : Bool) (r1 : Bool) (w : World) (k0 : 0 ≤ k) (k1 : k ≤ 255) (kw : (k % 2 == 1) = false)
    (hp : p = false ∨ p = true ∧ (x == 2143289344) = true)
    (L : Hid (Calls Tryd.prog 16 #[] w fun e w' => e = .returned (.bool true) ∧ Grew w w'))
    (C : Hid (∀ w : World, Calls Tryd.prog 17 #[.int .i64 32] w fun e w' => e = .returned (.tuple #[.int .u64 2143289344, .int .i64 0]) ∧ w' = w))
    (X : Hid (∀ w1 : World, Grew w w1 → Calls Tryd.prog 10 #[.int .i64 (146 + k / 2 % 6), .int .u64 a, .int .u64 b] w1 fun e w' => e = .returned (.tuple #[.int .u64 x, .int .i64 0]) ∧ Grew w1 w'))
    (Y : Hid (∀ w1 : World, Grew w w1 → Calls Tryd.prog 8 #[.int .i64 (141 + k / 2 % 5), .int .u64 a] w1 fun e w' => ∃ y : Nat, e = .returned (.tuple #[.int .u64 (y : Int), .int .i64 0]) ∧ One Ieee.single y ∧ Grew w1 w'))
    (P : Hid (∀ w : World, Calls Tryd.prog 18 #[.int .i64 32, .int .u64 x] w fun e w' => e = .returned (.tuple #[.bool p, .bool r1, .int .i64 0]) ∧ w' = w)) :
    Calls Tryd.prog 7 #[.int .u64 a, .int .u64 b, .int .u8 k] w fun e w' => e = .returned (.bool true) ∧ Grew w w' := by
  rcases hp with rfl | ⟨rfl, hx⟩ <;>
  · go_enter Tryd.func7, Tryd.ntmps7
    go_wp2_with fail
    refine (L.out).mono ?_
    rintro e w1 ⟨rfl, g1⟩
    have G1 : Hid (Grew w w1) := g1
    clear g1
    go_wp2_with fail
    refine (C.out _).mono ?_
    rintro e w2 ⟨rfl, h2⟩
    obtain rfl := h2.symm
    go_wp2_with fail
    refine (X.out _ G1.out).mono ?_
    rintro e w3 ⟨rfl, g3⟩
    have G3 : Hid (Grew w w3) := G1.out.trans g3
    clear g3
    go_wp2_with fail
    refine (Y.out _ G3.out).mono ?_
    rintro e w4 ⟨y, rfl, hy1, g4⟩
    have G4 : Hid (Grew w w4) := G3.out.trans g4
    obtain ⟨q, r, Q', hq⟩ := nan_of32 y hy1
    have Q : Hid (∀ w : World, Calls Tryd.prog 18 #[.int .i64 32, .int .u64 (y : Int)] w fun e w' => e = .returned (.tuple #[.bool q, .bool r, .int .i64 0]) ∧ w' = w) := Q'
    clear g4 Q' hy1
    go_wp2_with fail
    refine (P.out _).mono ?_
    rintro e w5 ⟨rfl, h5⟩
    obtain rfl := h5.symm
    go_wp2_with fail
    refine (Q.out _).mono ?_
    rintro e w6 ⟨rfl, h6⟩
    obtain rfl := h6.symm
    rcases hq with rfl | ⟨rfl, hy⟩ <;>
    · go_wp2
      go_ret
      go_light
      exact ⟨by first | rfl | simp, G4.out⟩
theorem nan_of64 (y : Nat) (h : One Ieee.double y) : ∃ q r : Bool, (∀ w : World, Calls Tryd.prog 18 #[.int .i64 64, .int .u64 (y : Int)] w fun e w' => e = .returned (.tuple #[.bool q, .bool r, .int .i64 0]) ∧ w' = w) ∧ (q = false ∨ q = true ∧ ((y : Int) == 9221120237041090560) = true) := by
  have hy : y < 2 ^ 64 := h.1
  have hm : y % 2 ^ 64 = y := Nat.mod_eq_of_lt hy
  refine ⟨decide (Ieee.double.infRung < sz Ieee.double y), sz Ieee.double y == cn Ieee.double, fun w => ?_, ?_⟩
  · have := Nan64 y (Nat.lt_of_lt_of_le hy (by decide)) w
    rw [hm] at this
    exact this
  · by_cases hn : Ieee.double.infRung < sz Ieee.double y
    · right
      have := h.2 hn
      rw [cn2] at this
      exact ⟨decide_eq_true hn, beq_iff_eq.2 (by omega)⟩
    · exact Or.inl (decide_eq_false hn)
set_option maxRecDepth 100000 in
set_option maxHeartbeats 2000000 in
theorem one_w64 (a b x k : Int) (p : Bool) (r1 : Bool) (w : World) (k0 : 0 ≤ k) (k1 : k ≤ 255) (kw : (k % 2 == 1) = true)
    (hp : p = false ∨ p = true ∧ (x == 9221120237041090560) = true)
    (L : Hid (Calls Tryd.prog 16 #[] w fun e w' => e = .returned (.bool true) ∧ Grew w w'))
    (C : Hid (∀ w : World, Calls Tryd.prog 17 #[.int .i64 64] w fun e w' => e = .returned (.tuple #[.int .u64 9221120237041090560, .int .i64 0]) ∧ w' = w))
    (X : Hid (∀ w1 : World, Grew w w1 → Calls Tryd.prog 10 #[.int .i64 (160 + k / 2 % 6), .int .u64 a, .int .u64 b] w1 fun e w' => e = .returned (.tuple #[.int .u64 x, .int .i64 0]) ∧ Grew w1 w'))
    (Y : Hid (∀ w1 : World, Grew w w1 → Calls Tryd.prog 8 #[.int .i64 (155 + k / 2 % 5), .int .u64 a] w1 fun e w' => ∃ y : Nat, e = .returned (.tuple #[.int .u64 (y : Int), .int .i64 0]) ∧ One Ieee.double y ∧ Grew w1 w'))
    (P : Hid (∀ w : World, Calls Tryd.prog 18 #[.int .i64 64, .int .u64 x] w fun e w' => e = .returned (.tuple #[.bool p, .bool r1, .int .i64 0]) ∧ w' = w)) :
    Calls Tryd.prog 7 #[.int .u64 a, .int .u64 b, .int .u8 k] w fun e w' => e = .returned (.bool true) ∧ Grew w w' := by
  rcases hp with rfl | ⟨rfl, hx⟩ <;>
  · go_enter Tryd.func7, Tryd.ntmps7
    go_wp2_with fail
    refine (L.out).mono ?_
    rintro e w1 ⟨rfl, g1⟩
    have G1 : Hid (Grew w w1) := g1
    clear g1
    go_wp2_with fail
    refine (C.out _).mono ?_
    rintro e w2 ⟨rfl, h2⟩
    obtain rfl := h2.symm
    go_wp2_with fail
    refine (X.out _ G1.out).mono ?_
    rintro e w3 ⟨rfl, g3⟩
    have G3 : Hid (Grew w w3) := G1.out.trans g3
    clear g3
    go_wp2_with fail
    refine (Y.out _ G3.out).mono ?_
    rintro e w4 ⟨y, rfl, hy1, g4⟩
    have G4 : Hid (Grew w w4) := G3.out.trans g4
    obtain ⟨q, r, Q', hq⟩ := nan_of64 y hy1
    have Q : Hid (∀ w : World, Calls Tryd.prog 18 #[.int .i64 64, .int .u64 (y : Int)] w fun e w' => e = .returned (.tuple #[.bool q, .bool r, .int .i64 0]) ∧ w' = w) := Q'
    clear g4 Q' hy1
    go_wp2_with fail
    refine (P.out _).mono ?_
    rintro e w5 ⟨rfl, h5⟩
    obtain rfl := h5.symm
    go_wp2_with fail
    refine (Q.out _).mono ?_
    rintro e w6 ⟨rfl, h6⟩
    obtain rfl := h6.symm
    rcases hq with rfl | ⟨rfl, hy⟩ <;>
    · go_wp2
      go_ret
      go_light
      exact ⟨by first | rfl | simp, G4.out⟩
theorem one_any (a b k : Int) (w : World) (hT : Rws w) (a0 : 0 ≤ a) (a1 : a < 18446744073709551616) (b0 : 0 ≤ b) (b1 : b < 18446744073709551616) (k0 : 0 ≤ k) (k1 : k ≤ 255) :
    Calls Tryd.prog 7 #[.int .u64 a, .int .u64 b, .int .u8 k] w fun e w' => e = .returned (.bool true) ∧ Grew w w' := by
  obtain ⟨a, rfl, ha⟩ := cast_nat a a0 a1
  obtain ⟨b, rfl, hb⟩ := cast_nat b b0 b1
  obtain ⟨k, rfl⟩ : ∃ n : Nat, k = n := ⟨k.toNat, by omega⟩
  cases hw : ((k : Int) % 2 == 1)
  · have eb : ((146 + k / 2 % 6 : Nat) : Int) = 146 + (k : Int) / 2 % 6 := by omega
    have eu : ((132 + (9 + k / 2 % 5) : Nat) : Int) = 141 + (k : Int) / 2 % 5 := by omega
    have h5 : k / 2 % 5 < 5 := Nat.mod_lt _ (by decide)
    have X := fun w1 (g : Grew w w1) => Bin32 (k / 2 % 6) (Nat.mod_lt _ (by decide)) a b ha hb w1 (hT.grew g)
    have Y := fun w1 (g : Grew w w1) => Unaw32 (9 + k / 2 % 5) (by omega) (by omega) a ha w1 (hT.grew g)
    rw [eb] at X
    rw [eu] at Y
    have ho : One Ieee.single ((bop Ieee.single (k / 2 % 6) (a % 2 ^ 32) (b % 2 ^ 32)).getD (cn Ieee.single)) := one_get (by simp [Two]) _ fun r hr => ⟨bop_num (by simp [Two]) hr, bop_lt (Nat.mod_lt _ (Nat.two_pow_pos _)) (Nat.mod_lt _ (Nat.two_pow_pos _)) hr⟩
    obtain ⟨p, r, P, hp⟩ := nan_of32 _ ho
    exact one_w32 _ _ _ _ p r w (by omega) (by omega) hw hp (alive_any w hT) (fun w => Canon32 w) X Y P
  · have eb : ((160 + k / 2 % 6 : Nat) : Int) = 160 + (k : Int) / 2 % 6 := by omega
    have eu : ((146 + (9 + k / 2 % 5) : Nat) : Int) = 155 + (k : Int) / 2 % 5 := by omega
    have h5 : k / 2 % 5 < 5 := Nat.mod_lt _ (by decide)
    have X := fun w1 (g : Grew w w1) => Bin64 (k / 2 % 6) (Nat.mod_lt _ (by decide)) a b ha hb w1 (hT.grew g)
    have Y := fun w1 (g : Grew w w1) => Unaw64 (9 + k / 2 % 5) (by omega) (by omega) a ha w1 (hT.grew g)
    rw [eb] at X
    rw [eu] at Y
    have ho : One Ieee.double ((bop Ieee.double (k / 2 % 6) (a % 2 ^ 64) (b % 2 ^ 64)).getD (cn Ieee.double)) := one_get (by simp [Two]) _ fun r hr => ⟨bop_num (by simp [Two]) hr, bop_lt (Nat.mod_lt _ (Nat.two_pow_pos _)) (Nat.mod_lt _ (Nat.two_pow_pos _)) hr⟩
    obtain ⟨p, r, P, hp⟩ := nan_of64 _ ho
    exact one_w64 _ _ _ _ p r w (by omega) (by omega) hw hp (alive_any w hT) (fun w => Canon64 w) X Y P
end Go.Proofs.YtjkebimmddlccaaDoor
namespace Go.Proofs.YtjkebimmddlccaaDoor.fnumOne
open Go.ChangeShapes Go.WideShapes Go.ChangeAt Go.RowKit
set_option linter.unusedVariables false

theorem own : ownKnob Tryd.prog.godebug = none := by kernel_rfl
set_option maxRecDepth 100000 in
theorem contract (H : Type) (enc : TypeId × Value → H) (W : World) (base : Nat) (args : Array Value) (ds gs : List (DataW H)) (before : List MemPlace)
    (hval : ∀ (j : Nat) t v, Tryd.f7.params[j]? = some t → args[j]? = some v → Value.okWide Tryd.prog W .any base t v)
    (hW : DataW.Whole enc Tryd.prog Tryd.f7.params.toList Rows.fnumOneSpec.vars false W args.toList ds gs before) (hL : laidMetH Tryd.prog Rows.fnumOneRow.laid W) :
    Calls Tryd.prog 7 args W fun e W' => ∃ v, e = .returned v ∧ Rows.fnumOneSpec.post enc Tryd.prog Tryd.f7 false true false false W args v W' := by
  have hW' := hW
  obtain ⟨p, q, hA0, hV, rfl, hfz, hnd⟩ := hW
  have hA : DataW.TrodAll enc Tryd.prog W 0 (fun _ => true) true Tryd.f7.params.toList args.toList ds p := hA0
  rw [Tryd.params7] at hA hval
  obtain ⟨v0, vs0, d0, ds0, p0, q0, hargs, rfl, rfl, h0, r0⟩ := trodAll_cons hA
  obtain ⟨v1, vs1, d1, ds1, p1, q1, rfl, rfl, rfl, h1, r1⟩ := trodAll_cons r0
  obtain ⟨v2, vs2, d2, ds2, p2, q2, rfl, rfl, rfl, h2, r2⟩ := trodAll_cons r1
  obtain ⟨rfl, rfl, rfl⟩ := trodAll_nil r2
  obtain rfl : args = #[v0, v1, v2] := by cases args; simp_all
  obtain ⟨rfl, rfl⟩ := trodVars_none hV
  obtain ⟨a0, rfl, rfl, rfl, w0⟩ := open_int Tryd.underlying22 (hval 0 22 v0 rfl rfl) h0
  have b0 := bounds_u64 w0
  obtain ⟨a1, rfl, rfl, rfl, w1⟩ := open_int Tryd.underlying22 (hval 1 22 v1 rfl rfl) h1
  have b1 := bounds_u64 w1
  obtain ⟨a2, rfl, rfl, rfl, w2⟩ := open_int Tryd.underlying5 (hval 2 5 v2 rfl rfl) h2
  have b2 := bounds_u8 w2
  have hT : Rws W := rws_of hL
  clear hA0 hL
  refine (one_any a0 a1 a2 W hT b0.1 (by have := b0.2; omega) b1.1 (by have := b1.2; omega) b2.1 (by have := b2.2; omega)).mono fun e W' ⟨he, bel⟩ => ?_
  subst he
  exact ⟨_, rfl, _, _, _, [], _, [], hW', trodAll_mk1 (shut_bool Tryd.underlying4 _), (trodAll_cons_mk (shut_int Tryd.underlying22 w0) (trodAll_cons_mk (shut_int Tryd.underlying22 w1) (trodAll_cons_mk (shut_int Tryd.underlying5 w2) trodAll_mk0))), rfl, bel.1.frame _, fun h => by cases h⟩
theorem laid_met (os : Os) : laidMet Tryd.prog Rows.fnumOneRow.laid (({ World.holding Tryd.prog os ⟨#[], #[], []⟩ with heap := ((World.holding Tryd.prog os ⟨#[], #[], []⟩).heap.modify 0 fun
      | .cells _ t frozen => .cells #[.int .i64 1, .int .i64 32, .int .i64 91, .int .i64 96, .int .i64 1, .int .i64 64, .int .i64 97, .int .i64 102, .int .i64 7, .int .i64 32, .int .i64 139, .int .i64 145, .int .i64 7, .int .i64 64, .int .i64 153, .int .i64 159, .int .i64 14, .int .i64 32, .int .i64 146, .int .i64 152, .int .i64 14, .int .i64 64, .int .i64 160, .int .i64 166] t frozen
      | o => o) } : World).forCall (fun _ _ => 0) ⟨#[], #[.int .u64 0, .int .u64 0, .int .u8 0], []⟩).memory :=
  laidMet_of_run' 8 (by kernel_rfl) (by kernel_rfl)
theorem reads (os : Os) {H : Type} (enc : TypeId × Value → H) : ∃ places, DataW.whole enc Tryd.prog (({ World.holding Tryd.prog os ⟨#[], #[], []⟩ with heap := ((World.holding Tryd.prog os ⟨#[], #[], []⟩).heap.modify 0 fun
      | .cells _ t frozen => .cells #[.int .i64 1, .int .i64 32, .int .i64 91, .int .i64 96, .int .i64 1, .int .i64 64, .int .i64 97, .int .i64 102, .int .i64 7, .int .i64 32, .int .i64 139, .int .i64 145, .int .i64 7, .int .i64 64, .int .i64 153, .int .i64 159, .int .i64 14, .int .i64 32, .int .i64 146, .int .i64 152, .int .i64 14, .int .i64 64, .int .i64 160, .int .i64 166] t frozen
      | o => o) } : World).forCall (fun _ _ => 0) ⟨#[], #[.int .u64 0, .int .u64 0, .int .u8 0], []⟩).memory Tryd.f7.params.toList Rows.fnumOneSpec.vars false #[Value.int .u64 0, Value.int .u64 0, Value.int .u8 0].toList 8 = some ([.lit (.int .u64 0), .lit (.int .u64 0), .lit (.int .u8 0)], [], places) :=
  ⟨[], by kernel_rfl⟩
set_option maxRecDepth 100000 in
theorem lifted (os : Os) (started : os.Started) (H : Type) (enc : TypeId × Value → H) (F : Stop.Interp) :
    ReturnsInHanded {} Tryd.checked os 7 .any ((OpenSpec.ofChange Rows.fnumOneSpec).preRow enc Tryd.prog Tryd.f7 Rows.fnumOneRow.domain false Rows.fnumOneRow.laid) (((OpenSpec.ofChange Rows.fnumOneSpec).at F).post enc Tryd.prog Tryd.f7 false true false false) := by
  obtain ⟨places, hx⟩ := reads os enc
  refine returnsInHanded_of_row (C := Tryd.checked) (s := OpenSpec.ofChange Rows.fnumOneSpec) own started (by kernel_rfl) Tryd.func7
    (witness_row_at (enc := enc) (C := Tryd.checked) false ({ World.holding Tryd.prog os ⟨#[], #[], []⟩ with heap := ((World.holding Tryd.prog os ⟨#[], #[], []⟩).heap.modify 0 fun
      | .cells _ t frozen => .cells #[.int .i64 1, .int .i64 32, .int .i64 91, .int .i64 96, .int .i64 1, .int .i64 64, .int .i64 97, .int .i64 102, .int .i64 7, .int .i64 32, .int .i64 139, .int .i64 145, .int .i64 7, .int .i64 64, .int .i64 153, .int .i64 159, .int .i64 14, .int .i64 32, .int .i64 146, .int .i64 152, .int .i64 14, .int .i64 64, .int .i64 160, .int .i64 166] t frozen
      | o => o) } : World) #[.int .u64 0, .int .u64 0, .int .u8 0] rfl (by kernel_rfl) (by kernel_rfl) (by kernel_rfl)
      (OpenSpec.preRow_of_cond 8 hx (by kernel_rfl) (fun k hk => by cases hk) (by kernel_rfl) (laid_met os))) ?_
  intro W base args ds gs before hval hW _ _ _ hL _ _
  exact contract H enc W base args ds gs before hval hW hL
theorem said : Rows.FnumOneSaid :=
  OpenClaim.holds_of_cond 7 Tryd.f7 rfl rfl rfl rfl rfl rfl rfl ⟨rfl, rfl, rfl, rfl, rfl⟩ rfl rfl rfl rfl rfl (by kernel_rfl) Tryd.func7 (by kernel_rfl)
    (of_decide_eq_true (by kernel_rfl)) (by unfold Func.isWrapper; first | (rw [if_pos (by decide +kernel)]; kernel_rfl) | (rw [if_neg (by decide +kernel)]; exact ⟨rfl, rfl⟩))
    (fun os started H enc _ F => by rw [OpenClaim.pre_eq_preRow]; exact lifted os started H enc F)
/- No parameter wants a stand-in; the program's own looks are off: what the card asks. -/
theorem plain (f : FuncId) (fn : Func) (hf : Tryd.pinned.checked.prog.funcNamed "ratchet/ratchetlaw04.FnumOne" = some f) (hfn : Tryd.pinned.checked.prog.funcs[f]? = some fn) :
    false = Tryd.pinned.checked.prog.looks [] ∧ ∀ (j : Nat) t, fn.params[j]? = some t → Tryd.pinned.checked.prog.wantsStandIn t = false := by
  obtain rfl : f = 7 := Option.some.inj ((show Tryd.prog.funcNamed "ratchet/ratchetlaw04.FnumOne" = some 7 by kernel_rfl).symm.trans hf) |>.symm
  obtain rfl : fn = Tryd.f7 := (Option.some.inj (Tryd.func7.symm.trans hfn)).symm
  refine ⟨by kernel_rfl, fun j t ht => ?_⟩
  rw [Tryd.params7] at ht
  have hm : t ∈ [22, 22, 5] := by simpa using Array.mem_of_getElem? ht
  have hall : ([22, 22, 5].all fun u => !Tryd.prog.wantsStandIn u) = true := by kernel_rfl
  exact (show Tryd.prog.wantsStandIn t = false by simpa using List.all_eq_true.1 hall t hm)
end Go.Proofs.YtjkebimmddlccaaDoor.fnumOne
namespace Go.Proofs.YtjkebimmddlccaaDoor
theorem fnumOne_holds : Rows.FnumOneCardSaid :=
  Claim7.holds_tied_plain_at .later [] _ _ _ _ fnumOne.said (fun _ h => by cases h) (by kernel_rfl) (fun _ h => by cases h) fnumOne_row_tie rfl ⟨rfl, rfl⟩ (by kernel_rfl) rfl fnumOne.plain (by kernel_rfl)
#print axioms fnumOne_holds
end Go.Proofs.YtjkebimmddlccaaDoor
