/-
  Sub's heap of an order; no statement is proved here.
-/
import Derived.Test.YtnmbniojejckpaaGreatDoorHea
set_option maxRecDepth 100000
set_option maxHeartbeats 8000000
namespace Go.Proofs.YtnmbniojejckpaaGreatDoor
open Go.RowKit Go.Shelf
set_option linter.unusedVariables false
set_option linter.unusedSimpArgs false
attribute [local go_sem] Oper.semAt_some
theorem prefix_all {α : Type} {l : List α} : ∀ {p : List α}, p <+: l → ∀ x ∈ p, x ∈ l := fun h x hx => h.subset hx
theorem heap_bot {ob : Nat} {L : List RT} {w W : World} (hO : OW ob L w W) (a b : Int) (hk : true = (kinO L b).isSome) (hd : (a == kD (kinO L b)) = true) :
    Calls Tryz.prog 130 #[.pointer (some ⟨ob, 0, none⟩), .int .i64 a, .int .i64 b] W fun en w' => en = .returned (.bool true) ∧ OW ob L w w' ∧ MV ob W w' := by
  have K0 : Hid (HF ob L w W W.heap.size b false ((W.alloc (.cells #[.int .i64 b] 3)).alloc (.cells #[.bool false] 4))) := HF.start hO
  have CK' : Hid (∀ X, OW ob L w X → Calls Tryz.prog 135 #[.pointer (some ⟨ob, 0, none⟩), .int .i64 b] X fun en w' => en = .returned (.tuple #[.agg #[.int .i64 (kA (kinO L b)), .int .i64 (kB (kinO L b)), .int .i64 (kD (kinO L b))], .bool (kinO L b).isSome]) ∧ Grew X w') := fun X h => kin_any h b
  generalize kA (kinO L b) = ka at *
  generalize kB (kinO L b) = kb at *
  generalize kD (kinO L b) = kd at *
  generalize (kinO L b).isSome = ok at *
  subst hk
  clear hO
  refine (callsIn_wide (n := 0)).1 ?_
  refine callsIn_of_wp_marks Tryz.func130 rfl trivial ?_ rfl
  simp only [Tryz.ntmps130, List.size_toArray, List.length_cons, List.length_nil, Nat.reduceAdd, Nat.reduceSub, Array.replicate_succ, Array.replicate_zero, List.push_toArray, List.append_toArray, List.nil_append, List.cons_append]
  gi_wp2
  refine ⟨trivial, rfl, (callsIn_wide.2 (CK'.out _ K0.out.o)).mono ?_⟩
  rintro e w1 ⟨rfl, g1⟩
  have K1 : Hid (HF ob L w W W.heap.size b false (w1.alloc (.cells #[.int .i64 ka, .int .i64 kb, .int .i64 kd] 185))) := K0.out.grew (g1.alloc _)
  have B1 : Hid ((w1.alloc (.cells #[.int .i64 ka, .int .i64 kb, .int .i64 kd] 185)).heap[w1.heap.size]? = some (.cells #[.int .i64 ka, .int .i64 kb, .int .i64 kd] 185 (0, 0))) := heap_alloc_last _ _
  clear K0 CK' g1
  have c6 := cell_obj K1.out.b6
  have z6 := free_of K1.out.b6 0
  have l6 := lt_of_obj K1.out.b6
  gi_wp2
  have k := K1.out.setR true
  have c7 := cell_obj k.b6
  refine ⟨.bool true, (by simp [results, Tryz.results130, go_sem, c7]), rfl, k.o, k.t⟩
theorem heap_ftt {ob : Nat} {L : List RT} {w W : World} (hO : OW ob L w W) (a b : Int) (hk : false = (kinO L b).isSome) (hda : defB (flatT L).length a = true) (hdb : defB (flatT L).length b = true) :
    Calls Tryz.prog 130 #[.pointer (some ⟨ob, 0, none⟩), .int .i64 a, .int .i64 b] W fun en w' => en = .returned (.bool (belowP L a.toNat b.toNat)) ∧ OW ob L w w' ∧ MV ob W w' := by
  have K0 : Hid (HF ob L w W W.heap.size b false ((W.alloc (.cells #[.int .i64 b] 3)).alloc (.cells #[.bool false] 4))) := HF.start hO
  have CK' : Hid (∀ X, OW ob L w X → Calls Tryz.prog 135 #[.pointer (some ⟨ob, 0, none⟩), .int .i64 b] X fun en w' => en = .returned (.tuple #[.agg #[.int .i64 (kA (kinO L b)), .int .i64 (kB (kinO L b)), .int .i64 (kD (kinO L b))], .bool (kinO L b).isSome]) ∧ Grew X w') := fun X h => kin_any h b
  have CD : Hid (∀ X, OW ob L w X → Calls Tryz.prog 136 #[.pointer (some ⟨ob, 0, none⟩), .int .i64 a] X fun en w' => en = .returned (.bool true) ∧ Grew X w') := fun X hX => by
    have := hX.defines a
    rw [show (decide (0 ≤ a) && decide (a < ((flatT L).length : Int))) = true from hda] at this
    exact this
  have CE : Hid (∀ X, OW ob L w X → Calls Tryz.prog 136 #[.pointer (some ⟨ob, 0, none⟩), .int .i64 b] X fun en w' => en = .returned (.bool true) ∧ Grew X w') := fun X hX => by
    have := hX.defines b
    rw [show (decide (0 ≤ b) && decide (b < ((flatT L).length : Int))) = true from hdb] at this
    exact this
  have CB : Hid (∀ X, OW ob L w X → Calls Tryz.prog 137 #[.pointer (some ⟨ob, 0, none⟩), .int .i64 a, .int .i64 b] X fun en w' => en = .returned (.bool (belowP L a.toNat b.toNat)) ∧ OW ob L w w' ∧ MV ob X w') := fun X hX => by
    have h3 : 0 ≤ a ∧ a < ((flatT L).length : Int) := by unfold defB at hda; simpa using hda
    have h4 : 0 ≤ b ∧ b < ((flatT L).length : Int) := by unfold defB at hdb; simpa using hdb
    have := below_any hX (a := a.toNat) (b := b.toNat) (by omega) (by omega)
    rw [Int.toNat_of_nonneg h3.1, Int.toNat_of_nonneg h4.1] at this
    exact this
  generalize kA (kinO L b) = ka at *
  generalize kB (kinO L b) = kb at *
  generalize kD (kinO L b) = kd at *
  generalize (kinO L b).isSome = ok at *
  subst hk
  generalize belowP L a.toNat b.toNat = bel at *
  clear hda hdb
  clear hO
  refine (callsIn_wide (n := 0)).1 ?_
  refine callsIn_of_wp_marks Tryz.func130 rfl trivial ?_ rfl
  simp only [Tryz.ntmps130, List.size_toArray, List.length_cons, List.length_nil, Nat.reduceAdd, Nat.reduceSub, Array.replicate_succ, Array.replicate_zero, List.push_toArray, List.append_toArray, List.nil_append, List.cons_append]
  gi_wp2
  refine ⟨trivial, rfl, (callsIn_wide.2 (CK'.out _ K0.out.o)).mono ?_⟩
  rintro e w1 ⟨rfl, g1⟩
  have K1 : Hid (HF ob L w W W.heap.size b false (w1.alloc (.cells #[.int .i64 ka, .int .i64 kb, .int .i64 kd] 185))) := K0.out.grew (g1.alloc _)
  have B1 : Hid ((w1.alloc (.cells #[.int .i64 ka, .int .i64 kb, .int .i64 kd] 185)).heap[w1.heap.size]? = some (.cells #[.int .i64 ka, .int .i64 kb, .int .i64 kd] 185 (0, 0))) := heap_alloc_last _ _
  clear K0 CK' g1
  have hkb := lt_of_obj B1.out
  have c5 := cell_obj K1.out.b5
  gi_wp2
  generalize (w1.alloc (.cells #[.int .i64 ka, .int .i64 kb, .int .i64 kd] 185)) = w2 at *
  refine ⟨trivial, rfl, (callsIn_wide.2 (CD.out w2 K1.out.o)).mono ?_⟩
  rintro e w3 ⟨rfl, g3⟩
  have K3 : Hid (HF ob L w W W.heap.size b false w3) := K1.out.grew g3
  have c5' := cell_obj K3.out.b5
  clear g3 B1 c5 K1 CD
  gi_wp2
  refine ⟨trivial, rfl, (callsIn_wide.2 (CE.out w3 K3.out.o)).mono ?_⟩
  rintro e w4 ⟨rfl, g4⟩
  have K4 : Hid (HF ob L w W W.heap.size b false w4) := K3.out.grew g4
  have c5 := cell_obj K4.out.b5
  clear g4 c5' K3 CE
  gi_wp2
  refine ⟨trivial, rfl, (callsIn_wide.2 (CB.out w4 K4.out.o)).mono ?_⟩
  rintro e w5 ⟨rfl, y1, y2⟩
  have K5 : Hid (HF ob L w W W.heap.size b false w5) := K4.out.mv y1 y2
  have c6 := cell_obj K5.out.b6
  have z6 := free_of K5.out.b6 0
  have l6 := lt_of_obj K5.out.b6
  clear y1 y2 K4 c5
  gi_wp2
  have k := K5.out.setR bel
  have c7 := cell_obj k.b6
  refine ⟨.bool bel, (by simp [results, Tryz.results130, go_sem, c7]), rfl, k.o, k.t⟩
theorem heap_ftf {ob : Nat} {L : List RT} {w W : World} (hO : OW ob L w W) (a b : Int) (hk : false = (kinO L b).isSome) (hda : defB (flatT L).length a = true) (hdb : defB (flatT L).length b = false) :
    Calls Tryz.prog 130 #[.pointer (some ⟨ob, 0, none⟩), .int .i64 a, .int .i64 b] W fun en w' => en = .returned (.bool ((aboveL L a).contains b)) ∧ OW ob L w w' ∧ MV ob W w' := by
  have K0 : Hid (HF ob L w W W.heap.size b false ((W.alloc (.cells #[.int .i64 b] 3)).alloc (.cells #[.bool false] 4))) := HF.start hO
  have CK' : Hid (∀ X, OW ob L w X → Calls Tryz.prog 135 #[.pointer (some ⟨ob, 0, none⟩), .int .i64 b] X fun en w' => en = .returned (.tuple #[.agg #[.int .i64 (kA (kinO L b)), .int .i64 (kB (kinO L b)), .int .i64 (kD (kinO L b))], .bool (kinO L b).isSome]) ∧ Grew X w') := fun X h => kin_any h b
  have CD : Hid (∀ X, OW ob L w X → Calls Tryz.prog 136 #[.pointer (some ⟨ob, 0, none⟩), .int .i64 a] X fun en w' => en = .returned (.bool true) ∧ Grew X w') := fun X hX => by
    have := hX.defines a
    rw [show (decide (0 ≤ a) && decide (a < ((flatT L).length : Int))) = true from hda] at this
    exact this
  have CE : Hid (∀ X, OW ob L w X → Calls Tryz.prog 136 #[.pointer (some ⟨ob, 0, none⟩), .int .i64 b] X fun en w' => en = .returned (.bool false) ∧ Grew X w') := fun X hX => by
    have := hX.defines b
    rw [show (decide (0 ≤ b) && decide (b < ((flatT L).length : Int))) = false from hdb] at this
    exact this
  have CA : Hid (∀ X, OW ob L w X → Calls Tryz.prog 138 #[.pointer (some ⟨ob, 0, none⟩), .int .i64 a] X fun en w' => ∃ gf lb, en = .returned (.func (.func gf) #[] lb) ∧ (∀ args w, (callFunc gf args).run Tryz.prog w = .ok (.enter gf args) w) ∧ (∀ X, Grew w' X → SeqO ob gf lb (aboveL L a) X) ∧ Grew X w') := fun X h => above_any h a
  generalize kA (kinO L b) = ka at *
  generalize kB (kinO L b) = kb at *
  generalize kD (kinO L b) = kd at *
  generalize (kinO L b).isSome = ok at *
  subst hk
  generalize aboveL L a = ab at *
  obtain ⟨R, hR0⟩ : ∃ R, R = ab.contains b := ⟨_, rfl⟩
  rw [← hR0]
  have HPP : Hid (R = ab.contains b) := hR0
  clear hR0
  clear hda hdb
  clear hO
  refine (callsIn_wide (n := 0)).1 ?_
  refine callsIn_of_wp_marks Tryz.func130 rfl trivial ?_ rfl
  simp only [Tryz.ntmps130, List.size_toArray, List.length_cons, List.length_nil, Nat.reduceAdd, Nat.reduceSub, Array.replicate_succ, Array.replicate_zero, List.push_toArray, List.append_toArray, List.nil_append, List.cons_append]
  gi_wp2
  refine ⟨trivial, rfl, (callsIn_wide.2 (CK'.out _ K0.out.o)).mono ?_⟩
  rintro e w1 ⟨rfl, g1⟩
  have K1 : Hid (HF ob L w W W.heap.size b false (w1.alloc (.cells #[.int .i64 ka, .int .i64 kb, .int .i64 kd] 185))) := K0.out.grew (g1.alloc _)
  have B1 : Hid ((w1.alloc (.cells #[.int .i64 ka, .int .i64 kb, .int .i64 kd] 185)).heap[w1.heap.size]? = some (.cells #[.int .i64 ka, .int .i64 kb, .int .i64 kd] 185 (0, 0))) := heap_alloc_last _ _
  clear K0 CK' g1
  have hkb := lt_of_obj B1.out
  have c5 := cell_obj K1.out.b5
  gi_wp2
  generalize (w1.alloc (.cells #[.int .i64 ka, .int .i64 kb, .int .i64 kd] 185)) = w2 at *
  refine ⟨trivial, rfl, (callsIn_wide.2 (CD.out w2 K1.out.o)).mono ?_⟩
  rintro e w3 ⟨rfl, g3⟩
  have K3 : Hid (HF ob L w W W.heap.size b false w3) := K1.out.grew g3
  have c5' := cell_obj K3.out.b5
  clear g3 B1 c5 K1 CD
  gi_wp2
  refine ⟨trivial, rfl, (callsIn_wide.2 (CE.out w3 K3.out.o)).mono ?_⟩
  rintro e w4 ⟨rfl, g4⟩
  have K4 : Hid (HF ob L w W W.heap.size b false w4) := K3.out.grew g4
  have c5 := cell_obj K4.out.b5
  clear g4 c5' K3 CE
  gi_wp2
  refine ⟨trivial, rfl, (callsIn_wide.2 (CA.out w4 K4.out.o)).mono ?_⟩
  rintro e w5 ⟨gf, lb, rfl, heg, hsq, g5⟩
  have K5 : Hid (HF ob L w W W.heap.size b false w5) := K4.out.grew g5
  have hz5 : W.heap.size < w5.heap.size := lt_of_obj K5.out.b5
  clear K4 g5 c5 CA
  gi_wp2
  refine wp_rangeO (ob := ob) (X := fun _ => False) (xs := ab) (I := fun pre A => HF ob L w W W.heap.size b false A ∧ ∀ x ∈ pre, x ≠ b) (Ix := fun pre A => HF ob L w W W.heap.size b true A ∧ b ∈ ab) (fun _ h => h.elim) rfl heg hsq ?hI ?hIx ?h0 ?a1 ?ha ?hb ?hdone ?hstop
  case ha =>
    intro l x W K hK
    gi_wp2
    exact hK
  case hI => exact fun s A B h g => ⟨h.1.gn g (by omega), h.2⟩
  case hIx => exact fun s A B h g => ⟨h.1.gn g (by omega), h.2⟩
  case h0 => exact ⟨K5.out, fun x hx => by cases hx⟩
  case hb =>
    rintro l pre x A hl ⟨hA, hp⟩ hpre _
    have HA : Hid (HF ob L w W W.heap.size b false A) := hA
    have HQ : Hid (∀ y ∈ pre, y ≠ b) := hp
    have c5 := cell_obj hA.b5
    have c6 := cell_obj hA.b6
    have z6 := free_of hA.b6 0
    have l5 := lt_of_obj hA.b6
    by_cases hx : x = b
    · subst hx
      have HM : Hid (x ∈ ab) := prefix_all hpre x (by simp)
      clear hA hp hpre
      gi_wp2
      exact ⟨KX.set _ _ _ _, HA.out.setR true, HM.out⟩
    · have d : (x == b) = false := by simpa using hx
      have HX : Hid (x ≠ b) := hx
      clear hA hp hpre hx
      gi_wp2
      exact ⟨KX.refl _ _, KC.refl _ _, HA.out, fun y hy => by
        rcases List.mem_append.1 hy with h | h
        · exact HQ.out y h
        · simp at h; rw [h]; exact HX.out⟩
  case hstop =>
    rintro D pre X hD _ ⟨hX, hm⟩ hK
    have hR : R = true := by rw [HPP.out]; simpa using hm
    gi_wp2
    refine ⟨by simp, .inl ⟨_, _, rfl, run_takeDeferred hK, ?_⟩⟩
    have hX' := hX.gn (GN.put hK rfl hD (.deferred none)) (by omega)
    have c6 := cell_obj hX'.b6
    refine ⟨.bool true, (by simp [results, Tryz.results130, go_sem, c6]), by rw [hR], hX'.o, hX'.t⟩
  case hdone =>
    rintro D X hD ⟨hX, hp⟩ hK
    have hR : R = false := by
      rw [HPP.out]
      cases e : ab.contains b with
      | false => simp
      | true => exact absurd rfl (hp b (List.contains_iff_mem.1 e))
    have HX : Hid (HF ob L w W W.heap.size b false X ∧ X.heap[D]? = some (.deferred (some []))) := ⟨hX, hK⟩
    have HR : Hid (R = false) := hR
    have c6 := cell_obj hX.b6
    have z6 := free_of hX.b6 0
    have l6 := lt_of_obj hX.b6
    have hDn : D ≠ W.heap.size + 1 := by
      rintro rfl
      rw [hX.b6] at hK
      cases hK
    clear hX hp hK hR
    gi_wp2
    have k1 := HX.out.1.setR false
    have k3 := heap_other HX.out.2 (p := ⟨W.heap.size + 1, 0, none⟩) hDn (.bool false)
    generalize (X.setCell ⟨W.heap.size + 1, 0, none⟩ (.bool false)) = Z at *
    refine ⟨by simp, .inl ⟨_, _, rfl, run_takeDeferred k3, ?_⟩⟩
    have hY2 := k1.gn (GN.put k3 rfl hD (.deferred none)) (by omega)
    have c7 := cell_obj hY2.b6
    refine ⟨.bool false, (by simp [results, Tryz.results130, go_sem, c7]), by rw [HR.out], hY2.o, hY2.t⟩
theorem heap_ff {ob : Nat} {L : List RT} {w W : World} (hO : OW ob L w W) (a b : Int) (hk : false = (kinO L b).isSome) (hda : defB (flatT L).length a = false) :
    Calls Tryz.prog 130 #[.pointer (some ⟨ob, 0, none⟩), .int .i64 a, .int .i64 b] W fun en w' => en = .returned (.bool ((aboveL L a).contains b)) ∧ OW ob L w w' ∧ MV ob W w' := by
  have K0 : Hid (HF ob L w W W.heap.size b false ((W.alloc (.cells #[.int .i64 b] 3)).alloc (.cells #[.bool false] 4))) := HF.start hO
  have CK' : Hid (∀ X, OW ob L w X → Calls Tryz.prog 135 #[.pointer (some ⟨ob, 0, none⟩), .int .i64 b] X fun en w' => en = .returned (.tuple #[.agg #[.int .i64 (kA (kinO L b)), .int .i64 (kB (kinO L b)), .int .i64 (kD (kinO L b))], .bool (kinO L b).isSome]) ∧ Grew X w') := fun X h => kin_any h b
  have CD : Hid (∀ X, OW ob L w X → Calls Tryz.prog 136 #[.pointer (some ⟨ob, 0, none⟩), .int .i64 a] X fun en w' => en = .returned (.bool false) ∧ Grew X w') := fun X hX => by
    have := hX.defines a
    rw [show (decide (0 ≤ a) && decide (a < ((flatT L).length : Int))) = false from hda] at this
    exact this
  have CA : Hid (∀ X, OW ob L w X → Calls Tryz.prog 138 #[.pointer (some ⟨ob, 0, none⟩), .int .i64 a] X fun en w' => ∃ gf lb, en = .returned (.func (.func gf) #[] lb) ∧ (∀ args w, (callFunc gf args).run Tryz.prog w = .ok (.enter gf args) w) ∧ (∀ X, Grew w' X → SeqO ob gf lb (aboveL L a) X) ∧ Grew X w') := fun X h => above_any h a
  generalize kA (kinO L b) = ka at *
  generalize kB (kinO L b) = kb at *
  generalize kD (kinO L b) = kd at *
  generalize (kinO L b).isSome = ok at *
  subst hk
  generalize aboveL L a = ab at *
  obtain ⟨R, hR0⟩ : ∃ R, R = ab.contains b := ⟨_, rfl⟩
  rw [← hR0]
  have HPP : Hid (R = ab.contains b) := hR0
  clear hR0
  clear hda
  clear hO
  refine (callsIn_wide (n := 0)).1 ?_
  refine callsIn_of_wp_marks Tryz.func130 rfl trivial ?_ rfl
  simp only [Tryz.ntmps130, List.size_toArray, List.length_cons, List.length_nil, Nat.reduceAdd, Nat.reduceSub, Array.replicate_succ, Array.replicate_zero, List.push_toArray, List.append_toArray, List.nil_append, List.cons_append]
  gi_wp2
  refine ⟨trivial, rfl, (callsIn_wide.2 (CK'.out _ K0.out.o)).mono ?_⟩
  rintro e w1 ⟨rfl, g1⟩
  have K1 : Hid (HF ob L w W W.heap.size b false (w1.alloc (.cells #[.int .i64 ka, .int .i64 kb, .int .i64 kd] 185))) := K0.out.grew (g1.alloc _)
  have B1 : Hid ((w1.alloc (.cells #[.int .i64 ka, .int .i64 kb, .int .i64 kd] 185)).heap[w1.heap.size]? = some (.cells #[.int .i64 ka, .int .i64 kb, .int .i64 kd] 185 (0, 0))) := heap_alloc_last _ _
  clear K0 CK' g1
  have hkb := lt_of_obj B1.out
  have c5 := cell_obj K1.out.b5
  gi_wp2
  generalize (w1.alloc (.cells #[.int .i64 ka, .int .i64 kb, .int .i64 kd] 185)) = w2 at *
  refine ⟨trivial, rfl, (callsIn_wide.2 (CD.out w2 K1.out.o)).mono ?_⟩
  rintro e w3 ⟨rfl, g3⟩
  have K3 : Hid (HF ob L w W W.heap.size b false w3) := K1.out.grew g3
  have c5' := cell_obj K3.out.b5
  clear g3 B1 c5 K1 CD
  gi_wp2
  refine ⟨trivial, ?_⟩
  have K4 : Hid (HF ob L w W W.heap.size b false w3) := K3
  have c5 := cell_obj K4.out.b5
  clear c5' K3
  gi_wp2
  refine ⟨trivial, rfl, (callsIn_wide.2 (CA.out w3 K4.out.o)).mono ?_⟩
  rintro e w5 ⟨gf, lb, rfl, heg, hsq, g5⟩
  have K5 : Hid (HF ob L w W W.heap.size b false w5) := K4.out.grew g5
  have hz5 : W.heap.size < w5.heap.size := lt_of_obj K5.out.b5
  clear K4 g5 c5 CA
  gi_wp2
  refine wp_rangeO (ob := ob) (X := fun _ => False) (xs := ab) (I := fun pre A => HF ob L w W W.heap.size b false A ∧ ∀ x ∈ pre, x ≠ b) (Ix := fun pre A => HF ob L w W W.heap.size b true A ∧ b ∈ ab) (fun _ h => h.elim) rfl heg hsq ?hI ?hIx ?h0 ?a1 ?ha ?hb ?hdone ?hstop
  case ha =>
    intro l x W K hK
    gi_wp2
    exact hK
  case hI => exact fun s A B h g => ⟨h.1.gn g (by omega), h.2⟩
  case hIx => exact fun s A B h g => ⟨h.1.gn g (by omega), h.2⟩
  case h0 => exact ⟨K5.out, fun x hx => by cases hx⟩
  case hb =>
    rintro l pre x A hl ⟨hA, hp⟩ hpre _
    have HA : Hid (HF ob L w W W.heap.size b false A) := hA
    have HQ : Hid (∀ y ∈ pre, y ≠ b) := hp
    have c5 := cell_obj hA.b5
    have c6 := cell_obj hA.b6
    have z6 := free_of hA.b6 0
    have l5 := lt_of_obj hA.b6
    by_cases hx : x = b
    · subst hx
      have HM : Hid (x ∈ ab) := prefix_all hpre x (by simp)
      clear hA hp hpre
      gi_wp2
      exact ⟨KX.set _ _ _ _, HA.out.setR true, HM.out⟩
    · have d : (x == b) = false := by simpa using hx
      have HX : Hid (x ≠ b) := hx
      clear hA hp hpre hx
      gi_wp2
      exact ⟨KX.refl _ _, KC.refl _ _, HA.out, fun y hy => by
        rcases List.mem_append.1 hy with h | h
        · exact HQ.out y h
        · simp at h; rw [h]; exact HX.out⟩
  case hstop =>
    rintro D pre X hD _ ⟨hX, hm⟩ hK
    have hR : R = true := by rw [HPP.out]; simpa using hm
    gi_wp2
    refine ⟨by simp, .inl ⟨_, _, rfl, run_takeDeferred hK, ?_⟩⟩
    have hX' := hX.gn (GN.put hK rfl hD (.deferred none)) (by omega)
    have c6 := cell_obj hX'.b6
    refine ⟨.bool true, (by simp [results, Tryz.results130, go_sem, c6]), by rw [hR], hX'.o, hX'.t⟩
  case hdone =>
    rintro D X hD ⟨hX, hp⟩ hK
    have hR : R = false := by
      rw [HPP.out]
      cases e : ab.contains b with
      | false => simp
      | true => exact absurd rfl (hp b (List.contains_iff_mem.1 e))
    have HX : Hid (HF ob L w W W.heap.size b false X ∧ X.heap[D]? = some (.deferred (some []))) := ⟨hX, hK⟩
    have HR : Hid (R = false) := hR
    have c6 := cell_obj hX.b6
    have z6 := free_of hX.b6 0
    have l6 := lt_of_obj hX.b6
    have hDn : D ≠ W.heap.size + 1 := by
      rintro rfl
      rw [hX.b6] at hK
      cases hK
    clear hX hp hK hR
    gi_wp2
    have k1 := HX.out.1.setR false
    have k3 := heap_other HX.out.2 (p := ⟨W.heap.size + 1, 0, none⟩) hDn (.bool false)
    generalize (X.setCell ⟨W.heap.size + 1, 0, none⟩ (.bool false)) = Z at *
    refine ⟨by simp, .inl ⟨_, _, rfl, run_takeDeferred k3, ?_⟩⟩
    have hY2 := k1.gn (GN.put k3 rfl hD (.deferred none)) (by omega)
    have c7 := cell_obj hY2.b6
    refine ⟨.bool false, (by simp [results, Tryz.results130, go_sem, c7]), by rw [HR.out], hY2.o, hY2.t⟩
theorem heap_ttt {ob : Nat} {L : List RT} {w W : World} (hO : OW ob L w W) (a b : Int) (hk : true = (kinO L b).isSome) (hd : (a == kD (kinO L b)) = false) (hda : defB (flatT L).length a = true) (hdb : defB (flatT L).length b = true) :
    Calls Tryz.prog 130 #[.pointer (some ⟨ob, 0, none⟩), .int .i64 a, .int .i64 b] W fun en w' => en = .returned (.bool (belowP L a.toNat b.toNat)) ∧ OW ob L w w' ∧ MV ob W w' := by
  have K0 : Hid (HF ob L w W W.heap.size b false ((W.alloc (.cells #[.int .i64 b] 3)).alloc (.cells #[.bool false] 4))) := HF.start hO
  have CK' : Hid (∀ X, OW ob L w X → Calls Tryz.prog 135 #[.pointer (some ⟨ob, 0, none⟩), .int .i64 b] X fun en w' => en = .returned (.tuple #[.agg #[.int .i64 (kA (kinO L b)), .int .i64 (kB (kinO L b)), .int .i64 (kD (kinO L b))], .bool (kinO L b).isSome]) ∧ Grew X w') := fun X h => kin_any h b
  have CD : Hid (∀ X, OW ob L w X → Calls Tryz.prog 136 #[.pointer (some ⟨ob, 0, none⟩), .int .i64 a] X fun en w' => en = .returned (.bool true) ∧ Grew X w') := fun X hX => by
    have := hX.defines a
    rw [show (decide (0 ≤ a) && decide (a < ((flatT L).length : Int))) = true from hda] at this
    exact this
  have CE : Hid (∀ X, OW ob L w X → Calls Tryz.prog 136 #[.pointer (some ⟨ob, 0, none⟩), .int .i64 b] X fun en w' => en = .returned (.bool true) ∧ Grew X w') := fun X hX => by
    have := hX.defines b
    rw [show (decide (0 ≤ b) && decide (b < ((flatT L).length : Int))) = true from hdb] at this
    exact this
  have CB : Hid (∀ X, OW ob L w X → Calls Tryz.prog 137 #[.pointer (some ⟨ob, 0, none⟩), .int .i64 a, .int .i64 b] X fun en w' => en = .returned (.bool (belowP L a.toNat b.toNat)) ∧ OW ob L w w' ∧ MV ob X w') := fun X hX => by
    have h3 : 0 ≤ a ∧ a < ((flatT L).length : Int) := by unfold defB at hda; simpa using hda
    have h4 : 0 ≤ b ∧ b < ((flatT L).length : Int) := by unfold defB at hdb; simpa using hdb
    have := below_any hX (a := a.toNat) (b := b.toNat) (by omega) (by omega)
    rw [Int.toNat_of_nonneg h3.1, Int.toNat_of_nonneg h4.1] at this
    exact this
  generalize kA (kinO L b) = ka at *
  generalize kB (kinO L b) = kb at *
  generalize kD (kinO L b) = kd at *
  generalize (kinO L b).isSome = ok at *
  subst hk
  generalize belowP L a.toNat b.toNat = bel at *
  clear hda hdb
  clear hO
  refine (callsIn_wide (n := 0)).1 ?_
  refine callsIn_of_wp_marks Tryz.func130 rfl trivial ?_ rfl
  simp only [Tryz.ntmps130, List.size_toArray, List.length_cons, List.length_nil, Nat.reduceAdd, Nat.reduceSub, Array.replicate_succ, Array.replicate_zero, List.push_toArray, List.append_toArray, List.nil_append, List.cons_append]
  gi_wp2
  refine ⟨trivial, rfl, (callsIn_wide.2 (CK'.out _ K0.out.o)).mono ?_⟩
  rintro e w1 ⟨rfl, g1⟩
  have K1 : Hid (HF ob L w W W.heap.size b false (w1.alloc (.cells #[.int .i64 ka, .int .i64 kb, .int .i64 kd] 185))) := K0.out.grew (g1.alloc _)
  have B1 : Hid ((w1.alloc (.cells #[.int .i64 ka, .int .i64 kb, .int .i64 kd] 185)).heap[w1.heap.size]? = some (.cells #[.int .i64 ka, .int .i64 kb, .int .i64 kd] 185 (0, 0))) := heap_alloc_last _ _
  clear K0 CK' g1
  have hkb := lt_of_obj B1.out
  have c5 := cell_obj K1.out.b5
  gi_wp2
  generalize (w1.alloc (.cells #[.int .i64 ka, .int .i64 kb, .int .i64 kd] 185)) = w2 at *
  refine ⟨trivial, rfl, (callsIn_wide.2 (CD.out w2 K1.out.o)).mono ?_⟩
  rintro e w3 ⟨rfl, g3⟩
  have K3 : Hid (HF ob L w W W.heap.size b false w3) := K1.out.grew g3
  have c5' := cell_obj K3.out.b5
  clear g3 B1 c5 K1 CD
  gi_wp2
  refine ⟨trivial, rfl, (callsIn_wide.2 (CE.out w3 K3.out.o)).mono ?_⟩
  rintro e w4 ⟨rfl, g4⟩
  have K4 : Hid (HF ob L w W W.heap.size b false w4) := K3.out.grew g4
  have c5 := cell_obj K4.out.b5
  clear g4 c5' K3 CE
  gi_wp2
  refine ⟨trivial, rfl, (callsIn_wide.2 (CB.out w4 K4.out.o)).mono ?_⟩
  rintro e w5 ⟨rfl, y1, y2⟩
  have K5 : Hid (HF ob L w W W.heap.size b false w5) := K4.out.mv y1 y2
  have c6 := cell_obj K5.out.b6
  have z6 := free_of K5.out.b6 0
  have l6 := lt_of_obj K5.out.b6
  clear y1 y2 K4 c5
  gi_wp2
  have k := K5.out.setR bel
  have c7 := cell_obj k.b6
  refine ⟨.bool bel, (by simp [results, Tryz.results130, go_sem, c7]), rfl, k.o, k.t⟩
theorem heap_ttf {ob : Nat} {L : List RT} {w W : World} (hO : OW ob L w W) (a b : Int) (hk : true = (kinO L b).isSome) (hd : (a == kD (kinO L b)) = false) (hda : defB (flatT L).length a = true) (hdb : defB (flatT L).length b = false) :
    Calls Tryz.prog 130 #[.pointer (some ⟨ob, 0, none⟩), .int .i64 a, .int .i64 b] W fun en w' => en = .returned (.bool ((aboveL L a).contains b)) ∧ OW ob L w w' ∧ MV ob W w' := by
  have K0 : Hid (HF ob L w W W.heap.size b false ((W.alloc (.cells #[.int .i64 b] 3)).alloc (.cells #[.bool false] 4))) := HF.start hO
  have CK' : Hid (∀ X, OW ob L w X → Calls Tryz.prog 135 #[.pointer (some ⟨ob, 0, none⟩), .int .i64 b] X fun en w' => en = .returned (.tuple #[.agg #[.int .i64 (kA (kinO L b)), .int .i64 (kB (kinO L b)), .int .i64 (kD (kinO L b))], .bool (kinO L b).isSome]) ∧ Grew X w') := fun X h => kin_any h b
  have CD : Hid (∀ X, OW ob L w X → Calls Tryz.prog 136 #[.pointer (some ⟨ob, 0, none⟩), .int .i64 a] X fun en w' => en = .returned (.bool true) ∧ Grew X w') := fun X hX => by
    have := hX.defines a
    rw [show (decide (0 ≤ a) && decide (a < ((flatT L).length : Int))) = true from hda] at this
    exact this
  have CE : Hid (∀ X, OW ob L w X → Calls Tryz.prog 136 #[.pointer (some ⟨ob, 0, none⟩), .int .i64 b] X fun en w' => en = .returned (.bool false) ∧ Grew X w') := fun X hX => by
    have := hX.defines b
    rw [show (decide (0 ≤ b) && decide (b < ((flatT L).length : Int))) = false from hdb] at this
    exact this
  have CA : Hid (∀ X, OW ob L w X → Calls Tryz.prog 138 #[.pointer (some ⟨ob, 0, none⟩), .int .i64 a] X fun en w' => ∃ gf lb, en = .returned (.func (.func gf) #[] lb) ∧ (∀ args w, (callFunc gf args).run Tryz.prog w = .ok (.enter gf args) w) ∧ (∀ X, Grew w' X → SeqO ob gf lb (aboveL L a) X) ∧ Grew X w') := fun X h => above_any h a
  generalize kA (kinO L b) = ka at *
  generalize kB (kinO L b) = kb at *
  generalize kD (kinO L b) = kd at *
  generalize (kinO L b).isSome = ok at *
  subst hk
  generalize aboveL L a = ab at *
  obtain ⟨R, hR0⟩ : ∃ R, R = ab.contains b := ⟨_, rfl⟩
  rw [← hR0]
  have HPP : Hid (R = ab.contains b) := hR0
  clear hR0
  clear hda hdb
  clear hO
  refine (callsIn_wide (n := 0)).1 ?_
  refine callsIn_of_wp_marks Tryz.func130 rfl trivial ?_ rfl
  simp only [Tryz.ntmps130, List.size_toArray, List.length_cons, List.length_nil, Nat.reduceAdd, Nat.reduceSub, Array.replicate_succ, Array.replicate_zero, List.push_toArray, List.append_toArray, List.nil_append, List.cons_append]
  gi_wp2
  refine ⟨trivial, rfl, (callsIn_wide.2 (CK'.out _ K0.out.o)).mono ?_⟩
  rintro e w1 ⟨rfl, g1⟩
  have K1 : Hid (HF ob L w W W.heap.size b false (w1.alloc (.cells #[.int .i64 ka, .int .i64 kb, .int .i64 kd] 185))) := K0.out.grew (g1.alloc _)
  have B1 : Hid ((w1.alloc (.cells #[.int .i64 ka, .int .i64 kb, .int .i64 kd] 185)).heap[w1.heap.size]? = some (.cells #[.int .i64 ka, .int .i64 kb, .int .i64 kd] 185 (0, 0))) := heap_alloc_last _ _
  clear K0 CK' g1
  have hkb := lt_of_obj B1.out
  have c5 := cell_obj K1.out.b5
  gi_wp2
  generalize (w1.alloc (.cells #[.int .i64 ka, .int .i64 kb, .int .i64 kd] 185)) = w2 at *
  refine ⟨trivial, rfl, (callsIn_wide.2 (CD.out w2 K1.out.o)).mono ?_⟩
  rintro e w3 ⟨rfl, g3⟩
  have K3 : Hid (HF ob L w W W.heap.size b false w3) := K1.out.grew g3
  have c5' := cell_obj K3.out.b5
  clear g3 B1 c5 K1 CD
  gi_wp2
  refine ⟨trivial, rfl, (callsIn_wide.2 (CE.out w3 K3.out.o)).mono ?_⟩
  rintro e w4 ⟨rfl, g4⟩
  have K4 : Hid (HF ob L w W W.heap.size b false w4) := K3.out.grew g4
  have c5 := cell_obj K4.out.b5
  clear g4 c5' K3 CE
  gi_wp2
  refine ⟨trivial, rfl, (callsIn_wide.2 (CA.out w4 K4.out.o)).mono ?_⟩
  rintro e w5 ⟨gf, lb, rfl, heg, hsq, g5⟩
  have K5 : Hid (HF ob L w W W.heap.size b false w5) := K4.out.grew g5
  have hz5 : W.heap.size < w5.heap.size := lt_of_obj K5.out.b5
  clear K4 g5 c5 CA
  gi_wp2
  refine wp_rangeO (ob := ob) (X := fun _ => False) (xs := ab) (I := fun pre A => HF ob L w W W.heap.size b false A ∧ ∀ x ∈ pre, x ≠ b) (Ix := fun pre A => HF ob L w W W.heap.size b true A ∧ b ∈ ab) (fun _ h => h.elim) rfl heg hsq ?hI ?hIx ?h0 ?a1 ?ha ?hb ?hdone ?hstop
  case ha =>
    intro l x W K hK
    gi_wp2
    exact hK
  case hI => exact fun s A B h g => ⟨h.1.gn g (by omega), h.2⟩
  case hIx => exact fun s A B h g => ⟨h.1.gn g (by omega), h.2⟩
  case h0 => exact ⟨K5.out, fun x hx => by cases hx⟩
  case hb =>
    rintro l pre x A hl ⟨hA, hp⟩ hpre _
    have HA : Hid (HF ob L w W W.heap.size b false A) := hA
    have HQ : Hid (∀ y ∈ pre, y ≠ b) := hp
    have c5 := cell_obj hA.b5
    have c6 := cell_obj hA.b6
    have z6 := free_of hA.b6 0
    have l5 := lt_of_obj hA.b6
    by_cases hx : x = b
    · subst hx
      have HM : Hid (x ∈ ab) := prefix_all hpre x (by simp)
      clear hA hp hpre
      gi_wp2
      exact ⟨KX.set _ _ _ _, HA.out.setR true, HM.out⟩
    · have d : (x == b) = false := by simpa using hx
      have HX : Hid (x ≠ b) := hx
      clear hA hp hpre hx
      gi_wp2
      exact ⟨KX.refl _ _, KC.refl _ _, HA.out, fun y hy => by
        rcases List.mem_append.1 hy with h | h
        · exact HQ.out y h
        · simp at h; rw [h]; exact HX.out⟩
  case hstop =>
    rintro D pre X hD _ ⟨hX, hm⟩ hK
    have hR : R = true := by rw [HPP.out]; simpa using hm
    gi_wp2
    refine ⟨by simp, .inl ⟨_, _, rfl, run_takeDeferred hK, ?_⟩⟩
    have hX' := hX.gn (GN.put hK rfl hD (.deferred none)) (by omega)
    have c6 := cell_obj hX'.b6
    refine ⟨.bool true, (by simp [results, Tryz.results130, go_sem, c6]), by rw [hR], hX'.o, hX'.t⟩
  case hdone =>
    rintro D X hD ⟨hX, hp⟩ hK
    have hR : R = false := by
      rw [HPP.out]
      cases e : ab.contains b with
      | false => simp
      | true => exact absurd rfl (hp b (List.contains_iff_mem.1 e))
    have HX : Hid (HF ob L w W W.heap.size b false X ∧ X.heap[D]? = some (.deferred (some []))) := ⟨hX, hK⟩
    have HR : Hid (R = false) := hR
    have c6 := cell_obj hX.b6
    have z6 := free_of hX.b6 0
    have l6 := lt_of_obj hX.b6
    have hDn : D ≠ W.heap.size + 1 := by
      rintro rfl
      rw [hX.b6] at hK
      cases hK
    clear hX hp hK hR
    gi_wp2
    have k1 := HX.out.1.setR false
    have k3 := heap_other HX.out.2 (p := ⟨W.heap.size + 1, 0, none⟩) hDn (.bool false)
    generalize (X.setCell ⟨W.heap.size + 1, 0, none⟩ (.bool false)) = Z at *
    refine ⟨by simp, .inl ⟨_, _, rfl, run_takeDeferred k3, ?_⟩⟩
    have hY2 := k1.gn (GN.put k3 rfl hD (.deferred none)) (by omega)
    have c7 := cell_obj hY2.b6
    refine ⟨.bool false, (by simp [results, Tryz.results130, go_sem, c7]), by rw [HR.out], hY2.o, hY2.t⟩
theorem heap_tf {ob : Nat} {L : List RT} {w W : World} (hO : OW ob L w W) (a b : Int) (hk : true = (kinO L b).isSome) (hd : (a == kD (kinO L b)) = false) (hda : defB (flatT L).length a = false) :
    Calls Tryz.prog 130 #[.pointer (some ⟨ob, 0, none⟩), .int .i64 a, .int .i64 b] W fun en w' => en = .returned (.bool ((aboveL L a).contains b)) ∧ OW ob L w w' ∧ MV ob W w' := by
  have K0 : Hid (HF ob L w W W.heap.size b false ((W.alloc (.cells #[.int .i64 b] 3)).alloc (.cells #[.bool false] 4))) := HF.start hO
  have CK' : Hid (∀ X, OW ob L w X → Calls Tryz.prog 135 #[.pointer (some ⟨ob, 0, none⟩), .int .i64 b] X fun en w' => en = .returned (.tuple #[.agg #[.int .i64 (kA (kinO L b)), .int .i64 (kB (kinO L b)), .int .i64 (kD (kinO L b))], .bool (kinO L b).isSome]) ∧ Grew X w') := fun X h => kin_any h b
  have CD : Hid (∀ X, OW ob L w X → Calls Tryz.prog 136 #[.pointer (some ⟨ob, 0, none⟩), .int .i64 a] X fun en w' => en = .returned (.bool false) ∧ Grew X w') := fun X hX => by
    have := hX.defines a
    rw [show (decide (0 ≤ a) && decide (a < ((flatT L).length : Int))) = false from hda] at this
    exact this
  have CA : Hid (∀ X, OW ob L w X → Calls Tryz.prog 138 #[.pointer (some ⟨ob, 0, none⟩), .int .i64 a] X fun en w' => ∃ gf lb, en = .returned (.func (.func gf) #[] lb) ∧ (∀ args w, (callFunc gf args).run Tryz.prog w = .ok (.enter gf args) w) ∧ (∀ X, Grew w' X → SeqO ob gf lb (aboveL L a) X) ∧ Grew X w') := fun X h => above_any h a
  generalize kA (kinO L b) = ka at *
  generalize kB (kinO L b) = kb at *
  generalize kD (kinO L b) = kd at *
  generalize (kinO L b).isSome = ok at *
  subst hk
  generalize aboveL L a = ab at *
  obtain ⟨R, hR0⟩ : ∃ R, R = ab.contains b := ⟨_, rfl⟩
  rw [← hR0]
  have HPP : Hid (R = ab.contains b) := hR0
  clear hR0
  clear hda
  clear hO
  refine (callsIn_wide (n := 0)).1 ?_
  refine callsIn_of_wp_marks Tryz.func130 rfl trivial ?_ rfl
  simp only [Tryz.ntmps130, List.size_toArray, List.length_cons, List.length_nil, Nat.reduceAdd, Nat.reduceSub, Array.replicate_succ, Array.replicate_zero, List.push_toArray, List.append_toArray, List.nil_append, List.cons_append]
  gi_wp2
  refine ⟨trivial, rfl, (callsIn_wide.2 (CK'.out _ K0.out.o)).mono ?_⟩
  rintro e w1 ⟨rfl, g1⟩
  have K1 : Hid (HF ob L w W W.heap.size b false (w1.alloc (.cells #[.int .i64 ka, .int .i64 kb, .int .i64 kd] 185))) := K0.out.grew (g1.alloc _)
  have B1 : Hid ((w1.alloc (.cells #[.int .i64 ka, .int .i64 kb, .int .i64 kd] 185)).heap[w1.heap.size]? = some (.cells #[.int .i64 ka, .int .i64 kb, .int .i64 kd] 185 (0, 0))) := heap_alloc_last _ _
  clear K0 CK' g1
  have hkb := lt_of_obj B1.out
  have c5 := cell_obj K1.out.b5
  gi_wp2
  generalize (w1.alloc (.cells #[.int .i64 ka, .int .i64 kb, .int .i64 kd] 185)) = w2 at *
  refine ⟨trivial, rfl, (callsIn_wide.2 (CD.out w2 K1.out.o)).mono ?_⟩
  rintro e w3 ⟨rfl, g3⟩
  have K3 : Hid (HF ob L w W W.heap.size b false w3) := K1.out.grew g3
  have c5' := cell_obj K3.out.b5
  clear g3 B1 c5 K1 CD
  gi_wp2
  refine ⟨trivial, ?_⟩
  have K4 : Hid (HF ob L w W W.heap.size b false w3) := K3
  have c5 := cell_obj K4.out.b5
  clear c5' K3
  gi_wp2
  refine ⟨trivial, rfl, (callsIn_wide.2 (CA.out w3 K4.out.o)).mono ?_⟩
  rintro e w5 ⟨gf, lb, rfl, heg, hsq, g5⟩
  have K5 : Hid (HF ob L w W W.heap.size b false w5) := K4.out.grew g5
  have hz5 : W.heap.size < w5.heap.size := lt_of_obj K5.out.b5
  clear K4 g5 c5 CA
  gi_wp2
  refine wp_rangeO (ob := ob) (X := fun _ => False) (xs := ab) (I := fun pre A => HF ob L w W W.heap.size b false A ∧ ∀ x ∈ pre, x ≠ b) (Ix := fun pre A => HF ob L w W W.heap.size b true A ∧ b ∈ ab) (fun _ h => h.elim) rfl heg hsq ?hI ?hIx ?h0 ?a1 ?ha ?hb ?hdone ?hstop
  case ha =>
    intro l x W K hK
    gi_wp2
    exact hK
  case hI => exact fun s A B h g => ⟨h.1.gn g (by omega), h.2⟩
  case hIx => exact fun s A B h g => ⟨h.1.gn g (by omega), h.2⟩
  case h0 => exact ⟨K5.out, fun x hx => by cases hx⟩
  case hb =>
    rintro l pre x A hl ⟨hA, hp⟩ hpre _
    have HA : Hid (HF ob L w W W.heap.size b false A) := hA
    have HQ : Hid (∀ y ∈ pre, y ≠ b) := hp
    have c5 := cell_obj hA.b5
    have c6 := cell_obj hA.b6
    have z6 := free_of hA.b6 0
    have l5 := lt_of_obj hA.b6
    by_cases hx : x = b
    · subst hx
      have HM : Hid (x ∈ ab) := prefix_all hpre x (by simp)
      clear hA hp hpre
      gi_wp2
      exact ⟨KX.set _ _ _ _, HA.out.setR true, HM.out⟩
    · have d : (x == b) = false := by simpa using hx
      have HX : Hid (x ≠ b) := hx
      clear hA hp hpre hx
      gi_wp2
      exact ⟨KX.refl _ _, KC.refl _ _, HA.out, fun y hy => by
        rcases List.mem_append.1 hy with h | h
        · exact HQ.out y h
        · simp at h; rw [h]; exact HX.out⟩
  case hstop =>
    rintro D pre X hD _ ⟨hX, hm⟩ hK
    have hR : R = true := by rw [HPP.out]; simpa using hm
    gi_wp2
    refine ⟨by simp, .inl ⟨_, _, rfl, run_takeDeferred hK, ?_⟩⟩
    have hX' := hX.gn (GN.put hK rfl hD (.deferred none)) (by omega)
    have c6 := cell_obj hX'.b6
    refine ⟨.bool true, (by simp [results, Tryz.results130, go_sem, c6]), by rw [hR], hX'.o, hX'.t⟩
  case hdone =>
    rintro D X hD ⟨hX, hp⟩ hK
    have hR : R = false := by
      rw [HPP.out]
      cases e : ab.contains b with
      | false => simp
      | true => exact absurd rfl (hp b (List.contains_iff_mem.1 e))
    have HX : Hid (HF ob L w W W.heap.size b false X ∧ X.heap[D]? = some (.deferred (some []))) := ⟨hX, hK⟩
    have HR : Hid (R = false) := hR
    have c6 := cell_obj hX.b6
    have z6 := free_of hX.b6 0
    have l6 := lt_of_obj hX.b6
    have hDn : D ≠ W.heap.size + 1 := by
      rintro rfl
      rw [hX.b6] at hK
      cases hK
    clear hX hp hK hR
    gi_wp2
    have k1 := HX.out.1.setR false
    have k3 := heap_other HX.out.2 (p := ⟨W.heap.size + 1, 0, none⟩) hDn (.bool false)
    generalize (X.setCell ⟨W.heap.size + 1, 0, none⟩ (.bool false)) = Z at *
    refine ⟨by simp, .inl ⟨_, _, rfl, run_takeDeferred k3, ?_⟩⟩
    have hY2 := k1.gn (GN.put k3 rfl hD (.deferred none)) (by omega)
    have c7 := cell_obj hY2.b6
    refine ⟨.bool false, (by simp [results, Tryz.results130, go_sem, c7]), by rw [HR.out], hY2.o, hY2.t⟩
theorem heap_any {ob : Nat} {L : List RT} {w W : World} (hO : OW ob L w W) (a b : Int) :
    Calls Tryz.prog 130 #[.pointer (some ⟨ob, 0, none⟩), .int .i64 a, .int .i64 b] W fun en w' => en = .returned (.bool (heapP L a b)) ∧ OW ob L w w' ∧ MV ob W w' := by
  unfold heapP botB
  cases hk : (kinO L b).isSome with
  | false =>
    rw [Bool.false_and, Bool.false_or]
    cases hda : defB (flatT L).length a with
    | false => rw [Bool.false_and]; exact heap_ff hO a b hk.symm hda
    | true =>
      cases hdb : defB (flatT L).length b with
      | false => exact heap_ftf hO a b hk.symm hda hdb
      | true => exact heap_ftt hO a b hk.symm hda hdb
  | true =>
    rw [Bool.true_and]
    cases hd : (a == kD (kinO L b)) with
    | true => exact heap_bot hO a b hk.symm hd
    | false =>
      rw [Bool.false_or]
      cases hda : defB (flatT L).length a with
      | false => rw [Bool.false_and]; exact heap_tf hO a b hk.symm hd hda
      | true =>
        cases hdb : defB (flatT L).length b with
        | false => exact heap_ttf hO a b hk.symm hd hda hdb
        | true => exact heap_ttt hO a b hk.symm hd hda hdb
end Go.Proofs.YtnmbniojejckpaaGreatDoor
