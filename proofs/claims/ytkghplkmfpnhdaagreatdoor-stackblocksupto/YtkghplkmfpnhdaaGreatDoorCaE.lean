/-
  Enter and Leave; no statement is proved here.
-/
import Derived.Test.YtkghplkmfpnhdaaGreatDoorCaQ
import Derived.Test.YtkghplkmfpnhdaaGreatDoorNeW
namespace Go.Proofs.YtkghplkmfpnhdaaGreatDoor
open Go.RowKit
set_option linter.unusedVariables false
set_option linter.unusedSimpArgs false

theorem call_heightU (p : Value) (w : World) : (callFunc 37 #[p]).run Tryz.prog w = .ok (.enter 37 #[p]) w := by kernel_rfl
theorem step_heightU {ops' : Array Oper} {o : Oper} {a : Act} {w : World} {K : Act → World → Prop} {Q : Exit → Act → World → Prop} {E : Prop} (x : Operand) {p v : Value} (h : Calls Tryz.prog 37 #[p] w fun en w' => en = .returned v ∧ w' = w) {t1 : TypeId}
    (hop : o.op = .call { callee := .value (.func 37), args := #[x], argTypes := #[t1] }) (hg : o.guard = none) (hx : a.eval x = p)
    (hk : K (a.put o.dst v) w) :
    if Region.wanted o (yielded ops' a.tmps) = true then Oper.wp Tryz.prog o a w K Q else E :=
  step_callF hop (by simp [Region.wanted, hg]) (args := #[p]) (by simp [hx]) (call_heightU _ w) h (by rintro e w' ⟨rfl, rfl⟩; exact Or.inl ⟨_, rfl, hk⟩)
set_option maxRecDepth 100000 in
set_option maxHeartbeats 4000000 in
theorem enterM {B Bi Bu : Nat} {w : World} {C : Nat} {lv fv ov qv : Value} {lo : List LO} {fr : List Int} {ops : List VT} {fs : List FV} (h : CK B w C lv fv ov qv lo fr ops fs) (hf : 0 < fs.length) {iv uv : Value} {li lu : List VT} (hi : RowV Bi w iv li) (hu : RowV Bu w uv lu) (h1 : li.length ≤ 1048576) (h2 : lu.length ≤ 1048576) (hn : fs.length ≤ 1000) (ho : ops.length ≤ 1048576)
    (hp : Calls Tryz.prog 10 #[.pointer (some ⟨C, 0, none⟩), iv] w fun en w' => en = .returned (.int .i64 0) ∧ Grew w w') :
    Calls Tryz.prog 12 #[.pointer (some ⟨C, 0, none⟩), .int .i64 2, iv, uv] w fun en w' => ∃ ov' qv' a b, en = .returned (.int .i64 0) ∧ CK B w' C lv fv ov' qv' lo fr (ops ++ li) (fs ++ [⟨2, a, b, ops.length, fr.length, false⟩]) ∧ NewV w.heap.size w' a li ∧ NewV w.heap.size w' b lu ∧ KB B w w' ∧ KT w w' := by
  have C1 := openM h hf
  obtain ⟨ia, ic, hv⟩ := row_one hi
  subst hv
  obtain ⟨ua, uc, hv⟩ := row_one hu
  subst hv
  have hovl : ∀ g, ov.ownBlock = some g → g < w.heap.size := row_lt h.rops
  have H := Hid.mk' h
  have HI := Hid.mk' hi
  have HU := Hid.mk' hu
  have HP : Hid (Calls Tryz.prog 10 #[.pointer (some ⟨C, 0, none⟩), .slice ia li.length ic] w fun en w' => en = .returned (.int .i64 0) ∧ Grew w w') := hp
  clear h hi hu hp
  go_enter Tryz.func12, Tryz.ntmps12
  go_wp2_with fail
  refine C1.mono ?_
  rintro en w1 ⟨rfl, hw⟩
  obtain rfl := hw.symm
  clear hw C1
  go_wp2_with fail
  refine HP.out.mono ?_
  rintro en w1 ⟨rfl, g1⟩
  have G1 := Hid.mk' g1
  have H1 := Hid.mk' (H.out.grew g1)
  have HI1 := Hid.mk' (HI.out.grew g1)
  have HU1 := Hid.mk' (HU.out.grew g1)
  clear g1 HP HI HU
  go_wp2_with fail
  have C2 : Hid (∀ W, Grew w1 W → Calls Tryz.prog 35 #[.pointer (some ⟨C, 5, none⟩)] W fun en w' => en = .returned (.int .i64 (ops.length : Int)) ∧ w' = W) := fun W gg => heightV_any (H1.out.grew gg)
  have C3 : Hid (∀ W, Grew w1 W → Calls Tryz.prog 37 #[.pointer (some ⟨C, 4, none⟩)] W fun en w' => en = .returned (.int .i64 (fr.length : Int)) ∧ w' = W) := fun W gg => heightU_any (H1.out.grew gg)
  go_region_with (first
    | (refine (C2.out _ (by repeat (first | with_reducible exact Grew.refl _ | refine Grew.alloc ?_ _ | refine Grew.drewN ?_ _ | refine Grew.drew ?_))).mono ?_
       rintro en wX ⟨rfl, hwX⟩
       subst hwX)
    | (refine (C3.out _ (by repeat (first | with_reducible exact Grew.refl _ | refine Grew.alloc ?_ _ | refine Grew.drewN ?_ _ | refine Grew.drew ?_))).mono ?_
       rintro en wX ⟨rfl, hwX⟩
       subst hwX))
  all_goals
    obtain ⟨w2, hw2⟩ : ∃ w2, w2 = (w1.alloc (.cells #[.int .i64 2, .slice ia li.length ic, .slice ua lu.length uc, .int .i64 (ops.length : Int), .int .i64 (fr.length : Int), .bool false] 73)).drew := ⟨_, rfl⟩
    have g2 : Grew w1 w2 := by rw [hw2]; exact ((Grew.refl w1).alloc _).drew
    have N2 : Hid (w2.heap[w1.heap.size]? = some (.cells #[.int .i64 2, .slice ia li.length ic, .slice ua lu.length uc, .int .i64 (ops.length : Int), .int .i64 (fr.length : Int), .bool false] 73 (0, 0))) := by rw [hw2]; exact heap_alloc_last w1 _
    rw [← hw2]
    have G2 := Hid.mk' (G1.out.trans g2)
    have H2 := Hid.mk' (H1.out.grew g2)
    have HI2 := Hid.mk' (HI1.out.grew g2)
    have HU2 := Hid.mk' (HU1.out.grew g2)
    clear hw2 g2 C2 C3 H1 HI1 HU1
    obtain ⟨⟨a0, a1, a2, a3, a4, a5⟩, y0, y1, y2, y3, y4, y5⟩ := six N2.out
    have hl2 := lt_of_obj N2.out
    have CF : Hid (∀ W, Grew w2 W → Calls Tryz.prog 39 #[.agg #[.int .i64 2, .slice ia li.length ic, .slice ua lu.length uc, .int .i64 (ops.length : Int), .int .i64 (fr.length : Int), .bool false]] W fun en w' => ∃ a b, en = .returned (.agg #[.int .i64 2, a, b, .int .i64 (ops.length : Int), .int .i64 (fr.length : Int), .bool false]) ∧ NewV W.heap.size w' a li ∧ NewV W.heap.size w' b lu ∧ Grew W w') := fun W gg => fcopied_any (x := ⟨2, .slice ia li.length ic, .slice ua lu.length uc, ops.length, fr.length, false⟩) (RowV.lst (HI2.out.grew gg)) (RowV.lst (HU2.out.grew gg)) h1 h2
    go_wp2_with fail
    go_region_with (first
      | (refine (CF.out _ (by repeat (first | with_reducible exact Grew.refl _ | refine Grew.alloc ?_ _ | refine Grew.drewN ?_ _ | refine Grew.drew ?_))).mono ?_
         rintro en w3 ⟨a3, b3, rfl, na, nb, g3⟩
         have gg3 : Grew w2 w3 := Grew.trans (by repeat (first | with_reducible exact Grew.refl _ | refine Grew.alloc ?_ _ | refine Grew.drewN ?_ _ | refine Grew.drew ?_)) g3
         have hN3 : w.heap.size ≤ w2.heap.size := G2.out.2
         obtain ⟨ga, hga, rfl, oa3⟩ := na
         obtain ⟨gb, hgb, rfl, ob3⟩ := nb
         have G3 := Hid.mk' (G2.out.trans gg3)
         have H3 := Hid.mk' (H2.out.grew gg3)
         have HI3 := Hid.mk' (HI2.out.grew gg3)
         have NA3 : Hid (NewV w.heap.size w3 (.slice (some ⟨ga, 0, none⟩) li.length li.length) li) := ⟨ga, by simp at hga; omega, rfl, oa3⟩
         have NB3 : Hid (NewV w.heap.size w3 (.slice (some ⟨gb, 0, none⟩) lu.length lu.length) lu) := ⟨gb, by simp at hgb; omega, rfl, ob3⟩
         clear g3 gg3 hga hgb oa3 ob3 hN3)
      | (refine (pushF_any (H3.out.grew (by repeat (first | with_reducible exact Grew.refl _ | refine Grew.alloc ?_ _ | refine Grew.drewN ?_ _ | refine Grew.drew ?_))) (raw_frame ⟨2, .slice (some ⟨ga, 0, none⟩) li.length li.length, .slice (some ⟨gb, 0, none⟩) lu.length lu.length, ops.length, fr.length, false⟩ ⟨⟨_, _, _, rfl⟩, ⟨_, _, _, rfl⟩⟩) (by simp; omega) (by simp [isSl])).mono ?_
         rintro en w4 ⟨qv4, rfl, K4, B4, T4⟩
         have H4 := Hid.mk' K4
         have HB4 := Hid.mk' B4
         have HT4 := Hid.mk' T4
         clear K4 B4 T4))
    all_goals
      have ga3 : Grew w3 (w3.alloc (.cells #[.int .i64 2, .slice (some ⟨ga, 0, none⟩) li.length li.length, .slice (some ⟨gb, 0, none⟩) lu.length lu.length, .int .i64 (ops.length : Int), .int .i64 (fr.length : Int), .bool false] 73)) := (Grew.refl w3).alloc _
      have hno := (H3.out.grew ga3).noV
      have NA4 := Hid.mk' ((NA3.out.grew ga3).two HT4.out hno.1 (fun g hg => Or.inl (hno.2 g hg)))
      have NB4 := Hid.mk' ((NB3.out.grew ga3).two HT4.out hno.1 (fun g hg => Or.inl (hno.2 g hg)))
      have HI4 : Hid (RowV Bi w4 (.slice ia li.length ic) li) := row_two (row_grew HI3.out ga3) HT4.out hno.1 hno.2
      have KT4 : Hid (KT w w4) := (G3.out.trans ga3).kt.trans (HT4.out.kt (H3.out.grew ga3).noE.1 (H3.out.grew ga3).noE.2.2.2.2)
      have KB4 : Hid (KB B w w4) := ((G3.out.trans ga3).kb (by have := H.out.base; have := H.out.lt; omega)).trans HB4.out
      clear ga3 hno NA3 NB3 HT4 HB4 HI3 H3 H2 HI2 HU2 CF N2 a0 a1 a2 a3 a4 a5 y0 y1 y2 y3 y4 y5 G2 G1
      have CV := pushV_any H4.out (RowV.lst HI4.out).raw (by omega)
      go_wp2_with fail
      refine CV.mono ?_
      rintro en w5 ⟨ov5, rfl, K5, B5, T5⟩
      have hno5 := H4.out.noV
      have hfin : ∃ ov' qv' a b, (Ending.returned (.int .i64 0)) = .returned (.int .i64 0) ∧ CK B w5 C lv fv ov' qv' lo fr (ops ++ li) (fs ++ [⟨2, a, b, ops.length, fr.length, false⟩]) ∧ NewV w.heap.size w5 a li ∧ NewV w.heap.size w5 b lu ∧ KB B w w5 ∧ KT w w5 :=
        ⟨ov5, qv4, _, _, rfl, K5, NA4.out.two T5 hno5.1 (fun g hg => Or.inr (hovl g hg)), NB4.out.two T5 hno5.1 (fun g hg => Or.inr (hovl g hg)), KB4.out.trans B5, KT4.out.trans (T5.kt H4.out.noE.1 H4.out.noE.2.2.2.1)⟩
      have HF := Hid.mk' hfin
      clear K5 B5 T5 hno5 hfin CV
      go_wp2_with fail
      go_ret
      obtain ⟨o1, o2, o3, o4, _, k1, k2, k3, k4, k5⟩ := HF.out
      exact ⟨o1, o2, o3, o4, rfl, k1, k2, k3, k4, k5⟩
end Go.Proofs.YtkghplkmfpnhdaaGreatDoor
