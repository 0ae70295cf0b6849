/-
  slices.DeleteFunc over the row of all opcodes; no statement is proved here.
-/
import Derived.Test.YtikbfhhebhhglaaGreatDoorVrN
import Derived.Lib.SliceRun
namespace Go.Proofs.YtikbfhhebhhglaaGreatDoor
open Go.RowKit
set_option linter.unusedVariables false
set_option linter.unusedSimpArgs false

def olF (k : Nat) : Int := OL[k]?.getD 0
/- The block g is a row of 243 numbers. -/
def RowZ (w : World) (g : Nat) (F : Nat → Int) : Prop := ∃ cur, w.heap[g]? = some (.cells cur 3 (0, 0)) ∧ ∀ k, k < 243 → cur[k]? = some (.int .i64 (F k))
theorem RowZ.lt {w : World} {g : Nat} {F : Nat → Int} (h : RowZ w g F) : g < w.heap.size := by
  obtain ⟨cur, h1, _⟩ := h
  exact lt_of_obj h1
theorem RowZ.cell {w : World} {g : Nat} {F : Nat → Int} (h : RowZ w g F) {k : Nat} (hk : k < 243) : w.cell? ⟨g, k, none⟩ = some (.int .i64 (F k)) := by
  obtain ⟨cur, h1, h2⟩ := h
  exact (cell_of h1 k).trans (h2 k hk)
theorem RowZ.free {w : World} {g : Nat} {F : Nat → Int} (h : RowZ w g F) (k : Nat) : w.frozen? ⟨g, k, none⟩ = false := by
  obtain ⟨cur, h1, h2⟩ := h
  exact free_of h1 k
theorem RowZ.grew {w w' : World} {g : Nat} {F : Nat → Int} (h : RowZ w g F) (gr : Grew w w') : RowZ w' g F := by
  obtain ⟨cur, h1, h2⟩ := h
  exact ⟨cur, (gr.turn []).other h1 (by simp), h2⟩
theorem RowZ.set {w : World} {g : Nat} {F : Nat → Int} (h : RowZ w g F) (i : Nat) (x : Int) : RowZ (w.setCell ⟨g, i, none⟩ (.int .i64 x)) g (fun k => if k = i then x else F k) := by
  obtain ⟨cur, h1, h2⟩ := h
  refine ⟨_, heap_set h1 i _, fun k hk => ?_⟩
  have hlt := (Array.getElem?_eq_some_iff.1 (h2 k hk)).1
  rw [Array.getElem?_setIfInBounds]
  by_cases hki : k = i
  · subst hki
    rw [if_pos rfl, if_pos hlt]
    simp
  · rw [if_neg (fun e => hki e.symm), h2 k hk]
    show _ = some (Value.int IntKind.i64 (if k = i then x else F k))
    rw [if_neg hki]
theorem RowZ.eq {w : World} {g : Nat} {F F' : Nat → Int} (h : RowZ w g F) (e : ∀ k, k < 243 → F k = F' k) : RowZ w g F' := by
  obtain ⟨cur, h1, h2⟩ := h
  exact ⟨cur, h1, fun k hk => by rw [h2 k hk, e k hk]⟩
theorem RowZ.wipe {g : Nat} : ∀ (n i : Nat) {w : World} {F : Nat → Int}, RowZ w g F → ∃ F', RowZ (w.setCells g i (List.replicate n (.int .i64 0))) g F' ∧ ∀ k, k < i → F' k = F k
  | 0, i, w, F, h => ⟨F, h, fun _ _ => rfl⟩
  | n + 1, i, w, F, h => by
    obtain ⟨F', h1, h2⟩ := RowZ.wipe n (i + 1) (h.set i 0)
    refine ⟨F', h1, fun k hk => ?_⟩
    rw [h2 k (by omega), if_neg (by omega)]
theorem Grew.wipe {w0 : World} {g : Nat} (hB : w0.heap.size ≤ g) (v : Value) : ∀ (n i : Nat) {w : World}, Grew w0 w → Grew w0 (w.setCells g i (List.replicate n v))
  | 0, i, w, h => h
  | n + 1, i, w, h => Grew.wipe hB v n (i + 1) (h.set (p := ⟨g, i, none⟩) hB v)
/- What is kept of the first j stands ahead; behind j nothing has turned. -/
structure KI (F : Nat → Int) (i j : Nat) : Prop where
  le : i ≤ j
  len : ((OL.take j).filter inVR).length = i
  low : ∀ k, k < i → ((OL.take j).filter inVR)[k]? = some (F k)
  high : ∀ k, j ≤ k → k < 243 → OL[k]? = some (F k)
theorem OL_take {j : Nat} {n : Int} (h : OL[j]? = some n) : OL.take (j + 1) = OL.take j ++ [n] := by
  obtain ⟨h', he⟩ := List.getElem?_eq_some_iff.1 h
  rw [List.take_succ_eq_append_getElem h', he]
theorem KI.skip {F : Nat → Int} {i j : Nat} (h : KI F i j) (hj : j < 243) (hq : inVR (F j) = false) : KI F i (j + 1) := by
  have hn := h.high j (Nat.le_refl _) hj
  have he : (OL.take (j + 1)).filter inVR = (OL.take j).filter inVR := by
    rw [OL_take hn, List.filter_append]
    simp [hq]
  exact ⟨by have := h.le; omega, by rw [he]; exact h.len, fun k hk => by rw [he]; exact h.low k hk, fun k h1 h2 => h.high k (by omega) h2⟩
theorem KI.keep {F : Nat → Int} {i j : Nat} (h : KI F i j) (hj : j < 243) (hq : inVR (F j) = true) : KI (fun k => if k = i then F j else F k) (i + 1) (j + 1) := by
  have hn := h.high j (Nat.le_refl _) hj
  have hle := h.le
  have he : (OL.take (j + 1)).filter inVR = (OL.take j).filter inVR ++ [F j] := by
    rw [OL_take hn, List.filter_append]
    simp [hq]
  refine ⟨by omega, by rw [he, List.length_append, h.len]; rfl, fun k hk => ?_, fun k h1 h2 => ?_⟩
  · rw [he]
    by_cases hki : k = i
    · subst hki
      rw [if_pos rfl, List.getElem?_append_right (by rw [h.len]; exact Nat.le_refl _), h.len]
      simp
    · rw [if_neg hki, List.getElem?_append_left (by rw [h.len]; omega)]
      exact h.low k (by omega)
  · show OL[k]? = some (if k = i then F j else F k)
    rw [if_neg (by omega)]
    exact h.high k (by omega) h2
theorem olF_at {k : Nat} (hk : k < 243) : OL[k]? = some (olF k) := by
  unfold olF
  rw [List.getElem?_eq_getElem (by rw [OL_len]; exact hk)]
  rfl
theorem KI.start : KI olF 0 1 := ⟨by omega, by decide +kernel, fun k hk => absurd hk (Nat.not_lt_zero _), fun k _ h2 => olF_at h2⟩
theorem KI.done {F : Nat → Int} {i : Nat} (h : KI F i 243) : i = 36 ∧ ∀ k, k < 36 → VRL[k]? = some (F k) := by
  have e : OL.take 243 = OL := by rw [← OL_len, List.take_length]
  have hl := h.len
  rw [e] at hl
  have h36 : i = 36 := by rw [← hl]; exact VRL_len
  refine ⟨h36, fun k hk => ?_⟩
  have := h.low k (by omega)
  rw [e] at this
  exact this
set_option maxRecDepth 100000 in
set_option maxHeartbeats 2000000 in
theorem idxD_any {w0 w : World} {g c : Nat} (G : Grew w0 w) (R : RowZ w g olF) (C : ∀ X op, Calls Tryz.prog 15 #[.int .i64 op] X fun en w' => en = .returned (.bool (!inVR op)) ∧ Grew X w') :
    Calls Tryz.prog 23 #[.slice (some ⟨g, 0, none⟩) 243 c, .func (.func 15) #[] #[]] w fun en w' => en = .returned (.int .i64 0) ∧ Grew w w' := by
  have CC : Hid (∀ X, Calls Tryz.prog 15 #[.int .i64 0] X fun en w' => en = .returned (.bool true) ∧ Grew X w') := fun X => C X 0
  have q0 := R.cell (k := 0) (by decide)
  have e0 : olF 0 = 0 := by decide +kernel
  rw [e0] at q0
  clear R C
  go_enter Tryz.func23, Tryz.ntmps23
  go_wp2_with fail
  go_loopw [8] (fun i_ w' => i_ = .int .i64 0 ∧ w' = w) (fun i_ _ => 0)
  case atStart => exact ⟨rfl, rfl⟩
  case round =>
    obtain ⟨rfl, hw⟩ := hrel
    have hwr : wr = w := hw
    subst hwr
    go_wp2_with fail
    refine (CC.out _).mono ?_
    rintro en w1 ⟨rfl, g1⟩
    have G1 := Hid.mk' g1
    clear g1 CC
    go_wp2_with fail
    go_ret
    exact ⟨rfl, G1.out⟩
set_option maxRecDepth 100000 in
set_option maxHeartbeats 4000000 in
theorem delF_any {w0 w : World} {g c : Nat} (G : Grew w0 w) (hB : w0.heap.size ≤ g) (R : RowZ w g olF) (hc1 : 243 ≤ c) (hc2 : c ≤ maxLen) (C : ∀ X op, Calls Tryz.prog 15 #[.int .i64 op] X fun en w' => en = .returned (.bool (!inVR op)) ∧ Grew X w') :
    Calls Tryz.prog 13 #[.slice (some ⟨g, 0, none⟩) 243 c, .func (.func 15) #[] #[]] w fun en w' => ∃ F, en = .returned (.slice (some ⟨g, 0, none⟩) 36 c) ∧ (∀ k, k < 36 → VRL[k]? = some (F k)) ∧ RowZ w' g F ∧ Grew w0 w' := by
  have CI : Hid (Calls Tryz.prog 23 #[.slice (some ⟨g, 0, none⟩) 243 c, .func (.func 15) #[] #[]] w fun en w' => en = .returned (.int .i64 0) ∧ Grew w w') := idxD_any G R C
  have CC : Hid (∀ X op, Calls Tryz.prog 15 #[.int .i64 op] X fun en w' => en = .returned (.bool (!inVR op)) ∧ Grew X w') := C
  have GG := Hid.mk' G
  have RR := Hid.mk' R
  have HB := Hid.mk' hB
  clear R C G hB
  go_enter Tryz.func13, Tryz.ntmps13
  go_wp2_with fail
  refine CI.out.mono ?_
  rintro en w1 ⟨rfl, g1⟩
  have G1 : Hid (Grew w0 w1) := GG.out.trans g1
  have R1 : Hid (RowZ w1 g olF) := RR.out.grew g1
  clear g1 CI GG RR
  go_wp2_with fail
  go_loopw [5, 6, 7] (fun si sj _ wx => ∃ (i j : Nat) (F : Nat → Int), si = .int .i64 i ∧ sj = .int .i64 j ∧ j ≤ 243 ∧ Hid (KI F i j) ∧ Hid (RowZ wx g F) ∧ Hid (Grew w0 wx)) (fun _ sj _ _ => 243 - (intOf sj).toNat)
  case atStart => exact ⟨0, 1, olF, rfl, by go_num, by omega, KI.start, R1, G1⟩
  case round =>
    obtain ⟨i, j, F, rfl, rfl, hj, HK, HR, HG⟩ := hrel
    clear R1 G1
    have hle := HK.out.le
    by_cases hlt : j < 243
    · have d1 : decide ((j : Int) < 243) = true := by simp; omega
      have cj := HR.out.cell hlt
      have ci := HR.out.cell (k := i) (by omega)
      have fi := HR.out.free i
      have hgl := HR.out.lt
      have CJ : Hid (∀ X, Calls Tryz.prog 15 #[.int .i64 (F j)] X fun en w' => en = .returned (.bool (!inVR (F j))) ∧ Grew X w') := fun X => CC.out X (F j)
      obtain ⟨u, hu⟩ : ∃ u, F j = u := ⟨_, rfl⟩
      have HU := Hid.mk' hu
      rw [hu] at cj CJ
      obtain ⟨old, ho⟩ : ∃ old, F i = old := ⟨_, rfl⟩
      rw [ho] at ci
      clear hu ho CC
      cases hq : inVR u with
      | true =>
        have HQ : Hid (inVR (F j) = true) := by rw [HU.out]; exact hq
        rw [hq] at CJ
        clear hq
        go_wp2_with fail
        refine (CJ.out _).mono ?_
        rintro en w2 ⟨rfl, g2⟩
        have G2 : Hid (Grew w0 w2) := HG.out.trans g2
        have R2 : Hid (RowZ w2 g F) := HR.out.grew g2
        have ci2 := R2.out.cell (k := i) (by omega)
        have fi2 := R2.out.free i
        have hgl2 := R2.out.lt
        clear g2 CJ cj ci fi hgl HG HR
        go_wp2_with fail
        go_roundw
        case rel =>
          refine ⟨i + 1, j + 1, _, by go_num, by go_num, by omega, HK.out.keep hlt HQ.out, ?_, G2.out.set (p := ⟨g, i, none⟩) HB.out _⟩
          have := R2.out.set i (F j)
          rw [HU.out] at this
          rw [HU.out]
          exact this
        case measure => simp [intOf]; omega
      | false =>
        have HQ : Hid (inVR (F j) = false) := by rw [HU.out]; exact hq
        rw [hq] at CJ
        clear hq
        go_wp2_with fail
        refine (CJ.out _).mono ?_
        rintro en w2 ⟨rfl, g2⟩
        have G2 : Hid (Grew w0 w2) := HG.out.trans g2
        have R2 : Hid (RowZ w2 g F) := HR.out.grew g2
        clear g2 CJ cj ci fi hgl HG HR
        go_wp2_with fail
        go_roundw
        case rel => exact ⟨i, j + 1, F, rfl, by go_num, by omega, HK.out.skip hlt HQ.out, R2, G2⟩
        case measure => simp [intOf]; omega
    · obtain rfl : j = 243 := by omega
      obtain ⟨rfl, hF⟩ := HK.out.done
      have HF := Hid.mk' hF
      have hcl : ∀ ty, (Builtin.clear_ #[23] ty #[.slice (some ⟨g, 36, none⟩) 207 (c - 36)]).run Tryz.prog wr = .ok (.tuple #[]) (wr.setCells g 36 (List.replicate 207 (.int .i64 0))) :=
        fun ty => Lib.run_clear_slice wr _ 3 ty (.int .i64 0) Tryz.underlying23 (fun w => by kernel_rfl) rfl rfl g 36 207 _ (by omega) (fun t ht => by rw [HR.out.cell (by omega)]; rfl) (fun t ht => HR.out.free _)
      have d2 : (36 : Int) ≤ (c : Int) := by omega
      clear hF CC hle hlt
      go_wp2_with fail
      go_ret
      obtain ⟨F', hr, he⟩ := RowZ.wipe 207 36 HR.out
      exact ⟨F', rfl, fun k hk => by rw [he k hk]; exact HF.out k hk, hr, Grew.wipe HB.out _ 207 36 HG.out⟩
end Go.Proofs.YtikbfhhebhhglaaGreatDoor
