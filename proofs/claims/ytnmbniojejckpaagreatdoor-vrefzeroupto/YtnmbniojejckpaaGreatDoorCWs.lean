/-
  The program's writer: fields, lists, types, groups; no statement is proved here.
-/
import Derived.Test.YtnmbniojejckpaaGreatDoorCWv
set_option maxRecDepth 100000
set_option maxHeartbeats 8000000
namespace Go.Proofs.YtnmbniojejckpaaGreatDoor
open Go.RowKit
set_option linter.unusedVariables false
set_option linter.unusedSimpArgs false
def FT.t (x : FT) : List Value := flagC x.mut_ ++ x.ty.t
theorem field_wr {wb B : Nat} {w : World} {x : FT} (h1 : R64 x.ty.num) (h2 : R64 x.ty.heap) : Writes wb B 168 #[.pointer (some ⟨wb, 0, none⟩), x.v] w x.t := by
  intro w' cs T hS hl
  obtain ⟨y, mu⟩ := x
  unfold FT.t at *
  unfold FT.v
  simp only at *
  rw [List.length_append] at hl
  have C2 : Hid (∀ w2, WrS wb B w2 (cs ++ flagC mu) → Calls Tryz.prog 166 #[.pointer (some ⟨wb, 0, none⟩), .agg #[.int .i64 y.num, .bool y.null, .int .i64 y.heap]] w2 fun en w3 => en = .returned UNIT ∧ WrS wb B w3 (cs ++ flagC mu ++ y.t) ∧ WrT wb B w2 w3) :=
    fun w2 h => val_wr (x := y) h1 h2 w2 _ (WrT.refl _ _ _) h (by rw [List.length_append]; omega)
  generalize y.t = yt at *
  have HS : Hid (WrS wb B w' cs) := hS
  have hB := hS.le
  have hwl : wb < w'.heap.size := hS.lt
  clear hS h1 h2
  go_enter Tryz.func168, Tryz.ntmps168
  go_wp2_with fail
  generalize hW : (w'.alloc (.cells #[.int .i64 y.num, .bool y.null, .int .i64 y.heap, .bool mu] 112)) = W
  obtain ⟨G0, A0⟩ : Hid (Grew w' W) ∧ Hid (W.heap[w'.heap.size]? = some (.cells #[.int .i64 y.num, .bool y.null, .int .i64 y.heap, .bool mu] 112 (0, 0))) := by
    rw [← hW]; exact ⟨(Grew.refl _).alloc _, heap_alloc_last _ _⟩
  clear hW
  have hne : w'.heap.size ≠ wb := by omega
  refine Calls.mono (flag_wr (w := W) W cs (WrT.refl _ _ _) (HS.out.grew G0.out) (by omega)) ?_
  rintro en w1 ⟨rfl, S1, T1⟩
  have A1 := T1.other A0.out hne (by decide)
  have HS1 : Hid (WrS wb B w1 (cs ++ flagC mu)) := S1
  have HT1 : Hid (WrT wb B w' w1) := (WrT.of_grew G0.out hB).trans T1
  have c0 := cell_of A1 0
  have c1 := cell_of A1 1
  have c2 := cell_of A1 2
  have c3 := cell_of A1 3
  simp at c0 c1 c2 c3
  clear S1 T1 A1
  go_wp2_with fail
  refine Calls.mono (C2.out _ HS1.out) ?_
  rintro en w3 ⟨rfl, S3, T3⟩
  have HS3 : Hid (WrS wb B w3 (cs ++ flagC mu ++ yt)) := S3
  have HT3 : Hid (WrT wb B w' w3) := HT1.out.trans T3
  clear S3 T3
  go_wp2_with fail
  go_end0
  refine ⟨rfl, ?_, HT3.out⟩
  rw [← List.append_assoc]
  exact HS3.out
theorem listI_wr {wb : Nat} {w : World} {v : Value} {l : List Int} (h : LI w v l) (hl : l.length ≤ 1048576) (hx : ∀ x ∈ l, R64 x) : Writes wb w.heap.size 163 #[.pointer (some ⟨wb, 0, none⟩), v, .func (.func 164) #[.pointer (some ⟨wb, 0, none⟩)] #[]] w (numC (l.length : Int) ++ l.flatMap numC) := by
  intro w' cs T hS hd
  obtain ⟨a, cap, hv, hcap, hmax⟩ := h.one
  subst hv
  have CC : Hid (∀ x ∈ l, Writes wb w.heap.size 164 #[.pointer (some ⟨wb, 0, none⟩), .int .i64 x] w (numC x)) := fun x hm => number_wr (hx x hm)
  have H : Hid (LI w (.slice a l.length cap) l) := h
  have HT : Hid (WrT wb w.heap.size w w') := T
  have HS : Hid (WrS wb w.heap.size w' cs) := hS
  rw [List.length_append] at hd
  have hwl : wb < w'.heap.size := hS.lt
  clear h hx hS T
  go_enter Tryz.func163, Tryz.ntmps163
  go_wp2_with fail
  refine Calls.mono (number_wr (w := w') (n := (l.length : Int)) (by unfold R64; omega) w' cs (WrT.refl _ _ _) HS.out (by omega)) ?_
  rintro en w1 ⟨rfl, S1, T1⟩
  have HS1 : Hid (WrS wb w.heap.size w1 (cs ++ numC (l.length : Int))) := S1
  have HT1 : Hid (WrT wb w.heap.size w' w1) := T1
  clear S1 T1
  go_wp2_with fail
  go_loopw [14] (fun i_ w2 => ∃ i : Nat, i_ = .int .i64 i ∧ i ≤ l.length ∧ Hid (WrS wb w.heap.size w2 (cs ++ numC (l.length : Int) ++ (l.take i).flatMap numC)) ∧ Hid (WrT wb w.heap.size w' w2)) (fun i_ _ => l.length - (intOf i_).toNat)
  case atStart => exact ⟨0, rfl, Nat.zero_le _, by simpa using HS1, HT1⟩
  case round =>
    obtain ⟨i, rfl, hi, S2, T2⟩ := hrel
    obtain ⟨w0, hw0⟩ : ∃ w0, w0 = wr := ⟨_, rfl⟩
    rw [← hw0] at S2 T2 ⊢
    clear hw0
    by_cases hlt : i < l.length
    · obtain ⟨x, hx⟩ : ∃ x, l[i]? = some x := ⟨_, List.getElem?_eq_getElem hlt⟩
      have T3 : WrT wb w.heap.size w w0 := HT.out.trans T2.out
      have g3 : Grew w w0 := ⟨T3.1, T3.2.2⟩
      obtain ⟨b, off, ha, hc', hE⟩ := (H.out.grew g3).get (by omega)
      subst ha
      have c0 := hE i x hx
      unfold EI at c0
      rw [Nat.mul_one] at c0
      clear hE
      have d1 : decide ((i : Int) < (l.length : Int)) = true := by simp; omega
      have d2 : decide (i < l.length) = true := by simp; omega
      have ht : (l.take (i + 1)).flatMap numC = (l.take i).flatMap numC ++ numC x := by rw [take_snoc hx, List.flatMap_append]; simp
      have hle : ((l.take (i + 1)).flatMap numC).length ≤ (l.flatMap numC).length := by
        have e : l.flatMap numC = (l.take (i + 1)).flatMap numC ++ (l.drop (i + 1)).flatMap numC := by rw [← List.flatMap_append, List.take_append_drop]
        rw [e, List.length_append]; omega
      rw [ht, List.length_append] at hle
      have hB2 := S2.out.le
      have C : Hid (∀ W, Grew w0 W → Calls Tryz.prog 164 #[.pointer (some ⟨wb, 0, none⟩), .int .i64 x] W fun en w'' => en = .returned UNIT ∧ WrS wb w.heap.size w'' (cs ++ numC (l.length : Int) ++ (l.take (i + 1)).flatMap numC) ∧ WrT wb w.heap.size w0 w'') := fun W g => by
        refine Calls.mono (CC.out x (List.mem_of_getElem? hx) W _ (T3.trans (WrT.of_grew g hB2)) (S2.out.grew g) (by rw [List.length_append, List.length_append]; omega)) ?_
        rintro en w'' ⟨he, h1, h2⟩
        exact ⟨he, by rw [ht, ← List.append_assoc]; exact h1, (WrT.of_grew g hB2).trans h2⟩
      clear hx ht hle T3 g3
      go_wp2_with fail
      refine Calls.mono (C.out _ (Grew.refl _)) ?_
      rintro en w5 ⟨rfl, S5, T5⟩
      have HS5 : Hid (WrS wb w.heap.size w5 (cs ++ numC (l.length : Int) ++ (l.take (i + 1)).flatMap numC)) := S5
      have HT5 : Hid (WrT wb w.heap.size w' w5) := T2.out.trans T5
      clear S5 T5 C
      go_wp2_with fail
      go_roundw
      case rel => exact ⟨i + 1, by go_num, by omega, HS5, HT5⟩
      case measure => simp [intOf]; omega
    · have d1 : decide ((i : Int) < (l.length : Int)) = false := by simp; omega
      have hin : l.take i = l := List.take_of_length_le (by omega)
      rw [hin] at S2
      go_wp2_with fail
      go_end0
      exact ⟨rfl, by rw [← List.append_assoc]; exact S2.out, T2.out⟩
theorem listV_wr {wb : Nat} {w : World} {v : Value} {l : List VT} (h : LV w v l) (hl : l.length ≤ 1048576) (hx : ∀ x ∈ l, R64 x.num ∧ R64 x.heap) : Writes wb w.heap.size 165 #[.pointer (some ⟨wb, 0, none⟩), v, .func (.func 166) #[.pointer (some ⟨wb, 0, none⟩)] #[]] w (numC (l.length : Int) ++ l.flatMap VT.t) := by
  intro w' cs T hS hd
  obtain ⟨a, cap, hv, hcap, hmax⟩ := h.one
  subst hv
  have CC : Hid (∀ x ∈ l, Writes wb w.heap.size 166 #[.pointer (some ⟨wb, 0, none⟩), x.v] w (VT.t x)) := fun x hm => val_wr (hx x hm).1 (hx x hm).2
  have H : Hid (LV w (.slice a l.length cap) l) := h
  have HT : Hid (WrT wb w.heap.size w w') := T
  have HS : Hid (WrS wb w.heap.size w' cs) := hS
  rw [List.length_append] at hd
  have hwl : wb < w'.heap.size := hS.lt
  clear h hx hS T
  go_enter Tryz.func165, Tryz.ntmps165
  go_wp2_with fail
  refine Calls.mono (number_wr (w := w') (n := (l.length : Int)) (by unfold R64; omega) w' cs (WrT.refl _ _ _) HS.out (by omega)) ?_
  rintro en w1 ⟨rfl, S1, T1⟩
  have HS1 : Hid (WrS wb w.heap.size w1 (cs ++ numC (l.length : Int))) := S1
  have HT1 : Hid (WrT wb w.heap.size w' w1) := T1
  clear S1 T1
  go_wp2_with fail
  go_loopw [14] (fun i_ w2 => ∃ i : Nat, i_ = .int .i64 i ∧ i ≤ l.length ∧ Hid (WrS wb w.heap.size w2 (cs ++ numC (l.length : Int) ++ (l.take i).flatMap VT.t)) ∧ Hid (WrT wb w.heap.size w' w2)) (fun i_ _ => l.length - (intOf i_).toNat)
  case atStart => exact ⟨0, rfl, Nat.zero_le _, by simpa using HS1, HT1⟩
  case round =>
    obtain ⟨i, rfl, hi, S2, T2⟩ := hrel
    obtain ⟨w0, hw0⟩ : ∃ w0, w0 = wr := ⟨_, rfl⟩
    rw [← hw0] at S2 T2 ⊢
    clear hw0
    by_cases hlt : i < l.length
    · obtain ⟨x, hx⟩ : ∃ x, l[i]? = some x := ⟨_, List.getElem?_eq_getElem hlt⟩
      have T3 : WrT wb w.heap.size w w0 := HT.out.trans T2.out
      have g3 : Grew w w0 := ⟨T3.1, T3.2.2⟩
      obtain ⟨b, off, ha, hc', hE⟩ := (H.out.grew g3).get (by omega)
      subst ha
      obtain ⟨c0, c1, c2⟩ := hE i x hx
      clear hE
      have d1 : decide ((i : Int) < (l.length : Int)) = true := by simp; omega
      have d2 : decide (i < l.length) = true := by simp; omega
      have ht : (l.take (i + 1)).flatMap VT.t = (l.take i).flatMap VT.t ++ VT.t x := by rw [take_snoc hx, List.flatMap_append]; simp
      have hle : ((l.take (i + 1)).flatMap VT.t).length ≤ (l.flatMap VT.t).length := by
        have e : l.flatMap VT.t = (l.take (i + 1)).flatMap VT.t ++ (l.drop (i + 1)).flatMap VT.t := by rw [← List.flatMap_append, List.take_append_drop]
        rw [e, List.length_append]; omega
      rw [ht, List.length_append] at hle
      have hB2 := S2.out.le
      have C : Hid (∀ W, Grew w0 W → Calls Tryz.prog 166 #[.pointer (some ⟨wb, 0, none⟩), x.v] W fun en w'' => en = .returned UNIT ∧ WrS wb w.heap.size w'' (cs ++ numC (l.length : Int) ++ (l.take (i + 1)).flatMap VT.t) ∧ WrT wb w.heap.size w0 w'') := fun W g => by
        refine Calls.mono (CC.out x (List.mem_of_getElem? hx) W _ (T3.trans (WrT.of_grew g hB2)) (S2.out.grew g) (by rw [List.length_append, List.length_append]; omega)) ?_
        rintro en w'' ⟨he, h1, h2⟩
        exact ⟨he, by rw [ht, ← List.append_assoc]; exact h1, (WrT.of_grew g hB2).trans h2⟩
      clear hx ht hle T3 g3
      obtain ⟨tn, tz, th⟩ := x
      unfold VT.v at C
      simp only at c0 c1 c2 C
      go_wp2_with fail
      refine Calls.mono (C.out _ ((Grew.refl _).alloc _)) ?_
      rintro en w5 ⟨rfl, S5, T5⟩
      have HS5 : Hid (WrS wb w.heap.size w5 (cs ++ numC (l.length : Int) ++ (l.take (i + 1)).flatMap VT.t)) := S5
      have HT5 : Hid (WrT wb w.heap.size w' w5) := T2.out.trans T5
      clear S5 T5 C
      go_wp2_with fail
      go_roundw
      case rel => exact ⟨i + 1, by go_num, by omega, HS5, HT5⟩
      case measure => simp [intOf]; omega
    · have d1 : decide ((i : Int) < (l.length : Int)) = false := by simp; omega
      have hin : l.take i = l := List.take_of_length_le (by omega)
      rw [hin] at S2
      go_wp2_with fail
      go_end0
      exact ⟨rfl, by rw [← List.append_assoc]; exact S2.out, T2.out⟩
theorem listF_wr {wb : Nat} {w : World} {v : Value} {l : List FT} (h : LF w v l) (hl : l.length ≤ 1048576) (hx : ∀ x ∈ l, R64 x.ty.num ∧ R64 x.ty.heap) : Writes wb w.heap.size 167 #[.pointer (some ⟨wb, 0, none⟩), v, .func (.func 168) #[.pointer (some ⟨wb, 0, none⟩)] #[]] w (numC (l.length : Int) ++ l.flatMap FT.t) := by
  intro w' cs T hS hd
  obtain ⟨a, cap, hv, hcap, hmax⟩ := h.one
  subst hv
  have CC : Hid (∀ x ∈ l, Writes wb w.heap.size 168 #[.pointer (some ⟨wb, 0, none⟩), x.v] w (FT.t x)) := fun x hm => field_wr (hx x hm).1 (hx x hm).2
  have H : Hid (LF w (.slice a l.length cap) l) := h
  have HT : Hid (WrT wb w.heap.size w w') := T
  have HS : Hid (WrS wb w.heap.size w' cs) := hS
  rw [List.length_append] at hd
  have hwl : wb < w'.heap.size := hS.lt
  clear h hx hS T
  go_enter Tryz.func167, Tryz.ntmps167
  go_wp2_with fail
  refine Calls.mono (number_wr (w := w') (n := (l.length : Int)) (by unfold R64; omega) w' cs (WrT.refl _ _ _) HS.out (by omega)) ?_
  rintro en w1 ⟨rfl, S1, T1⟩
  have HS1 : Hid (WrS wb w.heap.size w1 (cs ++ numC (l.length : Int))) := S1
  have HT1 : Hid (WrT wb w.heap.size w' w1) := T1
  clear S1 T1
  go_wp2_with fail
  go_loopw [14] (fun i_ w2 => ∃ i : Nat, i_ = .int .i64 i ∧ i ≤ l.length ∧ Hid (WrS wb w.heap.size w2 (cs ++ numC (l.length : Int) ++ (l.take i).flatMap FT.t)) ∧ Hid (WrT wb w.heap.size w' w2)) (fun i_ _ => l.length - (intOf i_).toNat)
  case atStart => exact ⟨0, rfl, Nat.zero_le _, by simpa using HS1, HT1⟩
  case round =>
    obtain ⟨i, rfl, hi, S2, T2⟩ := hrel
    obtain ⟨w0, hw0⟩ : ∃ w0, w0 = wr := ⟨_, rfl⟩
    rw [← hw0] at S2 T2 ⊢
    clear hw0
    by_cases hlt : i < l.length
    · obtain ⟨x, hx⟩ : ∃ x, l[i]? = some x := ⟨_, List.getElem?_eq_getElem hlt⟩
      have T3 : WrT wb w.heap.size w w0 := HT.out.trans T2.out
      have g3 : Grew w w0 := ⟨T3.1, T3.2.2⟩
      obtain ⟨b, off, ha, hc', hE⟩ := (H.out.grew g3).get (by omega)
      subst ha
      obtain ⟨⟨c0, c1, c2⟩, c3⟩ := hE i x hx
      clear hE
      have d1 : decide ((i : Int) < (l.length : Int)) = true := by simp; omega
      have d2 : decide (i < l.length) = true := by simp; omega
      have ht : (l.take (i + 1)).flatMap FT.t = (l.take i).flatMap FT.t ++ FT.t x := by rw [take_snoc hx, List.flatMap_append]; simp
      have hle : ((l.take (i + 1)).flatMap FT.t).length ≤ (l.flatMap FT.t).length := by
        have e : l.flatMap FT.t = (l.take (i + 1)).flatMap FT.t ++ (l.drop (i + 1)).flatMap FT.t := by rw [← List.flatMap_append, List.take_append_drop]
        rw [e, List.length_append]; omega
      rw [ht, List.length_append] at hle
      have hB2 := S2.out.le
      have C : Hid (∀ W, Grew w0 W → Calls Tryz.prog 168 #[.pointer (some ⟨wb, 0, none⟩), x.v] W fun en w'' => en = .returned UNIT ∧ WrS wb w.heap.size w'' (cs ++ numC (l.length : Int) ++ (l.take (i + 1)).flatMap FT.t) ∧ WrT wb w.heap.size w0 w'') := fun W g => by
        refine Calls.mono (CC.out x (List.mem_of_getElem? hx) W _ (T3.trans (WrT.of_grew g hB2)) (S2.out.grew g) (by rw [List.length_append, List.length_append]; omega)) ?_
        rintro en w'' ⟨he, h1, h2⟩
        exact ⟨he, by rw [ht, ← List.append_assoc]; exact h1, (WrT.of_grew g hB2).trans h2⟩
      clear hx ht hle T3 g3
      obtain ⟨⟨tn, tz, th⟩, tm⟩ := x
      unfold FT.v at C
      simp only at c0 c1 c2 c3 C
      go_wp2_with fail
      refine Calls.mono (C.out _ ((Grew.refl _).alloc _)) ?_
      rintro en w5 ⟨rfl, S5, T5⟩
      have HS5 : Hid (WrS wb w.heap.size w5 (cs ++ numC (l.length : Int) ++ (l.take (i + 1)).flatMap FT.t)) := S5
      have HT5 : Hid (WrT wb w.heap.size w' w5) := T2.out.trans T5
      clear S5 T5 C
      go_wp2_with fail
      go_roundw
      case rel => exact ⟨i + 1, by go_num, by omega, HS5, HT5⟩
      case measure => simp [intOf]; omega
    · have d1 : decide ((i : Int) < (l.length : Int)) = false := by simp; omega
      have hin : l.take i = l := List.take_of_length_le (by omega)
      rw [hin] at S2
      go_wp2_with fail
      go_end0
      exact ⟨rfl, by rw [← List.append_assoc]; exact S2.out, T2.out⟩
end Go.Proofs.YtnmbniojejckpaaGreatDoor
