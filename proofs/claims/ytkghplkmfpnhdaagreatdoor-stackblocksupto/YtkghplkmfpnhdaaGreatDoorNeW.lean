/-
  stack's New; no statement is proved here.
-/
import Derived.Test.YtkghplkmfpnhdaaGreatDoorChk
import Derived.Test.YtkghplkmfpnhdaaGreatDoorGrO
import Derived.Test.YtkghplkmfpnhdaaGreatDoorPiL
namespace Go.Proofs.YtkghplkmfpnhdaaGreatDoor
open Go.RowKit
set_option linter.unusedVariables false
set_option linter.unusedSimpArgs false

theorem call_pushF (p q : Value) (w : World) : (callFunc 38 #[p, q]).run Tryz.prog w = .ok (.enter 38 #[p, q]) w := by kernel_rfl
theorem step_pushF {ops' : Array Oper} {o : Oper} {a : Act} {w : World} {K : Act → World → Prop} {Q : Exit → Act → World → Prop} {E : Prop} (x y : Operand) {B : Nat} {C : Nat} {lv fv ov qv : Value} {lo : List LO} {fr : List Int} {ops : List VT} {fs : List FV} (h : CK B w C lv fv ov qv lo fr ops fs) {u : Value} {l : List FV} (hr : Raw 6 w u l.length (l.flatMap FV.c)) (hn : fs.length + l.length ≤ 8388608) (hsl : ∀ x ∈ l, isSl x.inn ∧ isSl x.out) {t1 t2 : TypeId}
    (hop : o.op = .call { callee := .value (.func 38), args := #[x, y], argTypes := #[t1, t2] }) (hg : o.guard = none) (hx : a.eval x = .pointer (some ⟨C, 6, none⟩)) (hy : a.eval y = u)
    (hk : ∀ v' w', CK B w' C lv fv ov v' lo fr ops (fs ++ l) → KB B w w' → Two C qv w w' → K (a.put o.dst (.tuple #[])) w') :
    if Region.wanted o (yielded ops' a.tmps) = true then Oper.wp Tryz.prog o a w K Q else E :=
  step_callF hop (by simp [Region.wanted, hg]) (args := #[.pointer (some ⟨C, 6, none⟩), u]) (by simp [hx, hy]) (call_pushF _ _ w) (pushF_any h hr hn hsl) (by rintro e w' ⟨v', rfl, h1, h2, h3⟩; exact Or.inl ⟨_, rfl, hk v' w' h1 h2 h3⟩)
/- One frame in a row of its own. -/
theorem raw_frame {w : World} (x : FV) (hx : isSl x.inn ∧ isSl x.out) {t : TypeId} : Raw 6 (w.alloc (.cells #[.int .i64 x.op, x.inn, x.out, .int .i64 x.height, .int .i64 x.fresh, .bool x.dead] t)) (.slice (some ⟨w.heap.size, 0, none⟩) 1 1) 1 (([x] : List FV).flatMap FV.c) := by
  refine ⟨rfl, ?_, some ⟨w.heap.size, 0, none⟩, 1, rfl, Nat.le_refl _, by decide, (fun h => by cases h), Or.inr ⟨w.heap.size, 0, rfl, fun j u hu => ?_⟩⟩
  · intro u hu
    simp [FV.c] at hu
    rcases hu with rfl | rfl | rfl | rfl | rfl | rfl
    · rfl
    · exact hx.1.one
    · exact hx.2.one
    · rfl
    · rfl
    · rfl
  · rw [Nat.zero_add, cell_of (heap_alloc_last _ _)]
    simpa [FV.c] using hu
set_option maxRecDepth 100000 in
set_option maxHeartbeats 1000000 in
theorem new_any {w : World} {tv pv lv rv : Value} {L : List RT} {P Q R : List VT} (hL : LR w tv L) (hP : LV w pv P) (hQ : LV w lv Q) (hR : LV w rv R) (h1 : L.length ≤ 1048576) (h2 : ∀ r ∈ L, SmR r) (h3 : P.length + Q.length ≤ 1048576) (h4 : R.length ≤ 1048576) :
    Calls Tryz.prog 29 #[tv, pv, lv, rv] w fun en w' => ∃ C lv' qv x, en = .returned (.pointer (some ⟨C, 0, none⟩)) ∧ x.height = 0 ∧ x.fresh = 0 ∧ x.dead = false ∧ CK w.heap.size w' C lv' NILS NILS qv (locs P Q) [] [] [x] ∧ Grew w w' := by
  have C1 := groupsOf_any hL h1 h2
  have C2 : Hid (∀ X, Grew w X → Calls Tryz.prog 46 #[rv] X (NewRow 44 R.length (R.flatMap VT.c) X)) := fun X g => copiedV_any (hR.raw.grew g) (by omega)
  have C3 : Hid (∀ X, Grew w X → Calls Tryz.prog 51 #[pv, lv] X fun en w' => ∃ u, en = .returned u ∧ RowLo X.heap.size w' u (locs P Q) ∧ Grew X w') := fun X g => localsOf_any (hP.grew g) (hQ.grew g) h3
  obtain ⟨ta, tc, hv, _⟩ := hL.one
  subst hv
  obtain ⟨pa, pc, hv, _⟩ := hP.one
  subst hv
  obtain ⟨qa, qc, hv, _⟩ := hQ.one
  subst hv
  obtain ⟨ra, rc, hv, _⟩ := hR.one
  subst hv
  clear hL hP hQ hR
  generalize locs P Q = LL at *
  go_enter Tryz.func29, Tryz.ntmps29
  go_wp2_with fail
  refine C1.mono ?_
  rintro en w1 ⟨⟨g1, rfl⟩, gg1⟩
  have G1 : Hid (Grew w w1) := gg1
  clear gg1 C1
  go_wp2_with fail
  refine (C2.out _ G1.out).mono ?_
  rintro en w2 ⟨g2, rfl, _, _, gg2⟩
  have G2 : Hid (Grew w w2) := G1.out.trans gg2
  clear gg2 C2 G1
  go_wp2_with fail
  refine (C3.out _ G2.out).mono ?_
  rintro en w3 ⟨u, rfl, r3, gg3⟩
  have G3 : Hid (Grew w w3) := G2.out.trans gg3
  have R3 : Hid (RowLo w.heap.size w3 u LL) := row_low r3 G2.out.2
  obtain ⟨ua, uc, hu⟩ := row_one r3
  subst hu
  clear gg3 C3 G2 r3
  go_wp2_with fail
  have hC : Hid (CK w.heap.size (w3.alloc (.cells #[.bool true, .slice (some ⟨g1, 0, none⟩) L.length L.length, .slice (some ⟨g2, 0, none⟩) R.length R.length, .slice ua LL.length uc, NILS, NILS, NILS] 60)) w3.heap.size (.slice ua LL.length uc) NILS NILS NILS LL [] [] []) :=
    ⟨⟨_, _, ⟨_, _, _, rfl⟩, ⟨_, _, _, rfl⟩, heap_alloc_last _ _⟩, G3.out.2, R3.out.grew ((Grew.refl _).alloc _), RowU.nil _ _, RowV.nil _ _, RowFr.nil _ _, by simp⟩
  have c2 : (w3.alloc (.cells #[.bool true, .slice (some ⟨g1, 0, none⟩) L.length L.length, .slice (some ⟨g2, 0, none⟩) R.length R.length, .slice ua LL.length uc, NILS, NILS, NILS] 60)).cell? ⟨w3.heap.size, 2, none⟩ = some (.slice (some ⟨g2, 0, none⟩) R.length R.length) := by rw [cell_of (heap_alloc_last _ _)]; rfl
  have G4 : Hid (Grew w (w3.alloc (.cells #[.bool true, .slice (some ⟨g1, 0, none⟩) L.length L.length, .slice (some ⟨g2, 0, none⟩) R.length R.length, .slice ua LL.length uc, NILS, NILS, NILS] 60))) := G3.out.alloc _
  have hl4 : w3.heap.size < (w3.alloc (.cells #[.bool true, .slice (some ⟨g1, 0, none⟩) L.length L.length, .slice (some ⟨g2, 0, none⟩) R.length R.length, .slice ua LL.length uc, NILS, NILS, NILS] 60)).heap.size := by simp
  generalize (w3.alloc (.cells #[.bool true, .slice (some ⟨g1, 0, none⟩) L.length L.length, .slice (some ⟨g2, 0, none⟩) R.length R.length, .slice ua LL.length uc, NILS, NILS, NILS] 60)) = w4 at *
  generalize w3.heap.size = C at *
  clear G3 R3
  go_region_law (refine step_pushF (.tmp 21) (.tmp 27) (fs := []) (l := [⟨2, NILS, .slice (some ⟨g2, 0, none⟩) R.length R.length, 0, 0, false⟩]) (hC.out.grew (by repeat (first | exact Grew.refl _ | refine Grew.alloc ?_ _ | refine Grew.drewN ?_ _ | refine Grew.drew ?_))) (raw_frame ⟨2, NILS, .slice (some ⟨g2, 0, none⟩) R.length R.length, 0, 0, false⟩ ⟨⟨_, _, _, rfl⟩, ⟨_, _, _, rfl⟩⟩) (by simp) (by simp [isSl]) rfl rfl rfl rfl ?_
                 intro v5 w5 K5 B5 _
                 have H5 := Hid.mk' K5
                 have HB5 := Hid.mk' B5
                 clear K5 B5)
  all_goals
    go_wp2_with fail
    go_ret
    refine ⟨C, _, _, _, rfl, rfl, rfl, rfl, H5.out, KB.grew (w := w4) G4.out (KB.trans (Grew.kb (by repeat (first | exact Grew.refl _ | refine Grew.alloc ?_ _ | refine Grew.drewN ?_ _ | refine Grew.drew ?_)) G4.out.2) HB5.out)⟩
end Go.Proofs.YtkghplkmfpnhdaaGreatDoor
