/-
  vctl's Ops: the opcodes of its map, sorted; no statement is proved here.
-/
import Derived.Test.YtahmjgmaaaegcaaGreatDoorKLib
import Derived.Test.YtahmjgmaaaegcaaGreatDoorVcM
namespace Go.Proofs
open Go.RowKit Go.Maps Go.Sort Go.Shelf
/- The sort's two contracts, at the fence that asks nothing. -/
theorem Tryz.sortsK (m : Nat) : AnyZI.SortsIn Tryz.prog Tryz.sortedA_ren Fence.wide m :=
  ⟨fun blk off cap ss W hH hblk hsz => callsIn_wide.2 (AnyM.slices_Sort_int Tryz.sortA blk off cap ss W hH hblk hsz),
   fun p cap W => callsIn_wide.2 (AnyM.slices_Sort_int_none Tryz.sortA p cap W)⟩
set_option maxHeartbeats 1000000 in
theorem Tryz.keysK {H : Type} (b nn : Nat) (D0 : DataW H) (R : Value → Option (DataW H × List MemPlace)) (w : World) (hown : w.ownsMap Tryz.prog 3 R b nn D0) (hmax : Maps.size D0 ≤ maxLen) (hbytes : Maps.size D0 * 8 ≤ 140737488355328) :
    CallsIn Fence.wide 5 Tryz.prog 33 #[.func (.func 70) #[] #[.pointer (some ⟨w.heap.size, 0, none⟩)]] (w.alloc (.cells #[.map (some b)] 76)) fun e w' => ∃ (v : Value) (ss : List Int), e = .returned v ∧ ss.Perm (intKeys D0) ∧
      w'.ownsRow (w.alloc (.cells #[.map (some b)] 76)).heap.size 3 1 v ss.length ((ss.mergeSort (fun x y => decide (x ≤ y))).map encZ) ∧ (v = .slice none 0 0 ↔ ss = []) ∧ Below (w.alloc (.cells #[.map (some b)] 76)).heap.size (w.alloc (.cells #[.map (some b)] 76)) w' := by
  have hbl := hown.lt
  have hseq : SeqGives Fence.wide 2 Tryz.prog 70 #[.pointer (some ⟨w.heap.size, 0, none⟩)] encZ (fun ss => ss.Perm (intKeys D0)) (Maps.size D0) (w.alloc (.cells #[.map (some b)] 76)) :=
    AnyZI.keys_gives (ρ := Tryz.keysA_ren) { Tryz.keysA with } Fence.wide _ trivial rfl (by omega) w.heap.size b nn D0 _ (by simp) (by simp) (by
      obtain ⟨es, clock, hb, Ft, hs, hD⟩ := hown
      exact ⟨es, clock, (Below.heap_alloc _ _ b hbl).trans hb, Ft, hs, hD⟩)
  exact AnyZI.sorted_in Tryz.sortedA Fence.wide 5 trivial trivial trivial trivial rfl (by omega) (Tryz.sortsK _) (enters_of Tryz.func69 (by kernel_rfl) rfl) 70 #[.pointer (some ⟨w.heap.size, 0, none⟩)] trivial (enters_of Tryz.func70 (by kernel_rfl) rfl) _ _ hmax hbytes _ hseq
theorem Tryz.mapsKeysK (mb : Option Nat) (W : World) : CallsIn Fence.wide 5 Tryz.prog 34 #[.map mb] W fun e w' => e = .returned (.func (.func 70) #[] #[.pointer (some ⟨W.heap.size, 0, none⟩)]) ∧ w' = W.alloc (.cells #[.map mb] 76) :=
  AnyZI.keys_in Tryz.keysA Fence.wide 5 trivial rfl mb W
end Go.Proofs
namespace Go.Proofs.YtahmjgmaaaegcaaGreatDoor
open Go.RowKit Go.Maps Go.Sort Go.Shelf
theorem row_lowC {w : World} {B B' : Nat} {e : TypeId} {k : Nat} {v : Value} {n : Nat} {cs : List Value} (h : w.ownsRow B e k v n cs) (hb : B' ≤ B) : w.ownsRow B' e k v n cs := by
  obtain ⟨h1, h2 | ⟨g, cap, cur, hv, hB, hg, h3⟩⟩ := h
  · exact ⟨h1, Or.inl h2⟩
  · exact ⟨h1, Or.inr ⟨g, cap, cur, hv, Nat.le_trans hb hB, hg, h3⟩⟩
set_option maxRecDepth 100000 in
set_option maxHeartbeats 2000000 in
theorem opsC_any (w : World) : Calls Tryz.prog 17 #[] w fun e w' => ∃ v, e = .returned v ∧ w'.ownsRow w.heap.size 3 1 v 16 (CL.map encZ) ∧ Grew w w' := by
  refine (callsIn_wide (n := 6)).1 ?_
  have hf1 : Fence.wide.fn 35 := trivial
  have hf2 : Fence.wide.fn 34 := trivial
  have hf3 : Fence.wide.fn 33 := trivial
  refine callsIn_of_wp Tryz.func17 rfl trivial ?_ rfl
  simp only [Tryz.ntmps17, List.size_toArray, List.length_nil, Nat.reduceSub, Array.replicate_succ, Array.replicate_zero, List.push_toArray, List.append_toArray, List.nil_append, List.cons_append]
  gi_wp2_with (gi_at_call 35; refine (callsIn_wide.2 (stepsC_any w)).mono ?_; rintro e w1 ⟨rfl, hS, g1⟩)
  obtain ⟨D, hD, hp, hsz⟩ := keysC hS
  have cS := Tryz.keysK w.heap.size 16 D funElem w1 hD (by unfold maxLen; omega) (by omega)
  gi_wp2_with (first
    | (gi_at_call 34; refine (Tryz.mapsKeysK _ _).mono ?_; rintro e w2 ⟨rfl, rfl⟩)
    | (gi_at_call 33; refine cS.mono ?_; rintro e w3 ⟨v, ss, rfl, hs, hrow, hnil, hb⟩))
  go_ret
  have hms : ss.mergeSort (fun x y => decide (x ≤ y)) = CL := (mergeSort_of_perm_i (hs.trans hp.symm)).trans KC_sorted
  have hsl : ss.length = 16 := (hs.trans hp.symm).length_eq.trans (by decide)
  rw [hms, hsl] at hrow
  have gg : Grew w1 (w1.alloc (.cells #[.map (some w.heap.size)] 76)) := (Grew.refl _).alloc _
  refine ⟨v, rfl, row_lowC hrow (Nat.le_trans g1.2 gg.2), (g1.trans gg).trans ⟨hb, hb.size⟩⟩
end Go.Proofs.YtahmjgmaaaegcaaGreatDoor
