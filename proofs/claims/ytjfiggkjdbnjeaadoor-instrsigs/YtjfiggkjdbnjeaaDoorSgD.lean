/-
  The walks of the document's letter, num, within, words, from, one, Bytes; no statement is proved here.
-/
import Derived.Test.YtjfiggkjdbnjeaaDoorPreW
import Derived.Test.YtjfiggkjdbnjeaaDoorSigM
namespace Go.Proofs.YtjfiggkjdbnjeaaDoor
open Go.RowKit
set_option linter.unusedVariables false
set_option linter.unusedSimpArgs false

theorem grew_tb {w w1 w' : World} {b B : Nat} (g : Grew w w1) (t : TB b B w1 w') (hb : w.heap.size ≤ b) (hB : w.heap.size ≤ B) : Grew w w' :=
  ⟨⟨t.os.trans g.1.os, t.tape.trans g.1.tape, t.output.trans g.1.output, Nat.le_trans g.2 t.size, fun k hk => (t.block k (Nat.lt_of_lt_of_le hk g.2) (by omega) (by omega)).trans (g.1.block k hk)⟩, Nat.le_trans g.2 t.size⟩
theorem BA_lit (x l : List UInt8) : ((BA x).toList == l) = decide (x = l) := by rw [BA_toList]; by_cases h : x = l <;> simp [h]
set_option maxRecDepth 100000 in
theorem letter_any (s : List UInt8) (w : World) : Calls Tryd.prog 41 #[.string (BA s)] w fun e w' => e = .returned (.int .i64 (letterP s)) ∧ w' = w := by
  have e1 := BA_lit s [105, 51, 50]
  have e2 := BA_lit s [105, 54, 52]
  have e3 := BA_lit s [102, 51, 50]
  by_cases h1 : s = [105, 51, 50]
  · have hv : Hid (letterP s = 1) := by show _ = _; rw [letterP, if_pos h1]
    rw [decide_eq_true h1] at e1
    clear e2 e3 h1
    generalize BA s = S at *
    go_enter Tryd.func41, Tryd.ntmps41
    go_wp2
    go_ret
    rw [hv.out]
    exact ⟨rfl, rfl⟩
  · rw [decide_eq_false h1] at e1
    by_cases h2 : s = [105, 54, 52]
    · have hv : Hid (letterP s = 2) := by show _ = _; rw [letterP, if_neg h1, if_pos h2]
      rw [decide_eq_true h2] at e2
      clear e3 h1 h2
      generalize BA s = S at *
      go_enter Tryd.func41, Tryd.ntmps41
      go_wp2
      go_ret
      rw [hv.out]
      exact ⟨rfl, rfl⟩
    · rw [decide_eq_false h2] at e2
      by_cases h3 : s = [102, 51, 50]
      · have hv : Hid (letterP s = 3) := by show _ = _; rw [letterP, if_neg h1, if_neg h2, if_pos h3]
        rw [decide_eq_true h3] at e3
        clear h1 h2 h3
        generalize BA s = S at *
        go_enter Tryd.func41, Tryd.ntmps41
        go_wp2
        go_ret
        rw [hv.out]
        exact ⟨rfl, rfl⟩
      · rw [decide_eq_false h3] at e3
        have hv : Hid (letterP s = 4) := by show _ = _; rw [letterP, if_neg h1, if_neg h2, if_neg h3]
        clear h1 h2 h3
        generalize BA s = S at *
        go_enter Tryd.func41, Tryd.ntmps41
        go_wp2
        go_ret
        rw [hv.out]
        exact ⟨rfl, rfl⟩
set_option maxRecDepth 100000 in
theorem num_any (n : Int) (w : World) : Calls Tryd.prog 42 #[.int .i64 n] w fun e w' => e = .returned (.agg #[.int .i64 n, .bool false, .int .i64 0]) ∧ Grew w w' := by
  go_enter Tryd.func42, Tryd.ntmps42
  go_wp2
  exact bodyPost_ret (v := .agg #[.int .i64 n, .bool false, .int .i64 0]) (by simp [results, Tryd.results42, go_sem]) rfl ⟨rfl, (Grew.refl w).alloc _⟩
theorem within_hit {s p : List UInt8} {i : Nat} (hi : i + p.length ≤ s.length) (h : (s.drop i).take p.length = p) : withinF p (s.drop i) i = i := by
  cases hd : s.drop i with
  | nil =>
    rw [hd] at h
    simp at h
    rw [withinF, if_pos h]
  | cons c r =>
    rw [hd] at h
    have hl : (s.drop i).length = s.length - i := List.length_drop
    rw [hd] at hl
    rw [withinF, if_pos (by omega), if_pos h]
theorem within_next {s p : List UInt8} {i : Nat} (hi : i + p.length ≤ s.length) (h : (s.drop i).take p.length ≠ p) : withinF p (s.drop i) i = withinF p (s.drop (i + 1)) (i + 1) := by
  cases hd : s.drop i with
  | nil =>
    rw [hd] at h
    have hl : (s.drop i).length = s.length - i := List.length_drop
    rw [hd] at hl
    have : p = [] := List.eq_nil_of_length_eq_zero (by simp at hl; omega)
    subst this
    exact absurd rfl h
  | cons c r =>
    rw [hd] at h
    have hl : (s.drop i).length = s.length - i := List.length_drop
    rw [hd] at hl
    have hr : s.drop (i + 1) = r := by rw [← List.drop_drop, hd]; rfl
    rw [withinF, if_pos (by omega), if_neg h, hr]
theorem within_out {s p : List UInt8} {i : Nat} (hi : ¬ i + p.length ≤ s.length) (hp : p ≠ []) : withinF p (s.drop i) i = -1 := by
  cases hd : s.drop i with
  | nil => rw [withinF, if_neg hp]
  | cons c r =>
    have hl : (s.drop i).length = s.length - i := List.length_drop
    rw [hd] at hl
    simp only [List.length_cons] at hl
    rw [withinF, if_neg (by simp only [List.length_cons]; omega)]
set_option maxRecDepth 100000 in
set_option maxHeartbeats 1000000 in
theorem within_any (s p : List UInt8) (hs : s.length ≤ 10000) (hp : p ≠ []) (hl : p.length ≤ 10000) (w : World) :
    Calls Tryd.prog 47 #[.string (BA s), .string (BA p)] w fun e w' => e = .returned (.int .i64 (withinP s p)) ∧ w' = w := by
  have HB : Hid (∀ (i : Nat) (W : World), i + p.length ≤ s.length → (Instr.slice 9 (.string (BA s)) (some (.int .i64 (i : Int))) (some (.int .i64 ((i : Int) + (p.length : Int)))) none).run Tryd.prog W = .ok (.string (BA ((s.drop i).take p.length))) W) := by
    intro i W h
    rw [run_slice_string W 9 (BA s) .i64 .i64 i ((i : Int) + (p.length : Int)) Tryd.underlying9 (by omega) (by omega) (by rw [BA_size]; omega)]
    have e : ((i : Int) + (p.length : Int)).toNat = i + p.length := by omega
    rw [e, Int.toNat_natCast, BA_extract, List.drop_take]
    simp
  have z1 := BA_size s
  have z2 := BA_size p
  have HQ : Hid (∀ x, ((BA x).toList == (BA p).toList) = decide (x = p)) := fun x => BA_eq x p
  have HV : Hid (withinP s p = withinF p (s.drop 0) 0) := rfl
  obtain ⟨R, hR⟩ : ∃ R, withinP s p = R := ⟨_, rfl⟩
  rw [hR] at HV ⊢
  obtain ⟨S, hS⟩ : ∃ S, BA s = S := ⟨_, rfl⟩
  obtain ⟨P, hP⟩ : ∃ P, BA p = P := ⟨_, rfl⟩
  rw [hS] at HB z1 ⊢
  rw [hP] at z2 HQ ⊢
  clear hR hS hP
  go_enter Tryd.func47, Tryd.ntmps47
  go_wp2
  go_loop [5] (fun t => ∃ i : Nat, i ≤ s.length + 1 ∧ t = .int .i64 i ∧ R = withinF p (s.drop i) i) (fun t => s.length + 1 - (intOf t).toNat)
  case atStart => exact ⟨0, by omega, rfl, HV.out⟩
  case round =>
    obtain ⟨i, hi, rfl, hr⟩ := hrel
    have HRR : Hid (R = withinF p (s.drop i) i) := hr
    clear hr HV
    by_cases hlt : i + p.length ≤ s.length
    · have hsl := fun W => HB.out i W hlt
      have d1 : decide ((i : Int) + (p.length : Int) ≤ (s.length : Int)) = true := by simp; omega
      have hq := HQ.out ((s.drop i).take p.length)
      by_cases hm : (s.drop i).take p.length = p
      · have HM : Hid (R = (i : Int)) := by show _ = _; rw [HRR.out, within_hit hlt hm]
        rw [decide_eq_true hm] at hq
        generalize BA ((s.drop i).take p.length) = X at *
        clear HB HQ hm
        go_wp2
        go_ret
        rw [HM.out]
        exact ⟨rfl, rfl⟩
      · have HM : Hid (R = withinF p (s.drop (i + 1)) (i + 1)) := by show _ = _; rw [HRR.out, within_next hlt hm]
        rw [decide_eq_false hm] at hq
        generalize BA ((s.drop i).take p.length) = X at *
        clear HB HQ hm
        go_wp2
        go_round
        case rel => exact ⟨i + 1, by omega, by go_num, HM.out⟩
        case measure => simp [intOf]; omega
    · have HM : Hid (R = -1) := by show _ = _; rw [HRR.out, within_out hlt hp]
      have d1 : decide ((i : Int) + (p.length : Int) ≤ (s.length : Int)) = false := by simp; omega
      clear HB HQ
      go_wp2
      go_ret
      rw [HM.out]
      exact ⟨rfl, rfl⟩
set_option maxRecDepth 100000 in
set_option maxHeartbeats 1000000 in
theorem words_any (s : List UInt8) (hl : s.length ≤ 60000) (w : World) :
    Calls Tryd.prog 67 #[.string (BA s)] w fun e w' => ∃ v, e = .returned v ∧ w'.ownsRow w.heap.size 9 1 v (cutW s []).length ((cutW s []).map ST) ∧ Grew w w' := by
  have HB : Hid (∀ (st pos : Nat) (W : World), st ≤ pos → pos ≤ s.length → (Instr.slice 9 (.string (BA s)) (some (.int .i64 (st : Int))) (some (.int .i64 (pos : Int))) none).run Tryd.prog W = .ok (.string (BA ((s.take pos).drop st))) W) := by
    intro st pos W h1 h2
    rw [run_slice_string W 9 (BA s) .i64 .i64 st pos Tryd.underlying9 (by omega) (by omega) (by rw [BA_size]; omega)]
    simp [BA_extract]
  have hz := BA_size s
  have HC : Hid (∀ (pos : Nat) (h : pos < (BA s).size) (h' : pos < s.length), (BA s)[pos]'h = s[pos]'h') := fun pos h h' => BA_get s pos h
  obtain ⟨S, hS⟩ : ∃ S, BA s = S := ⟨_, rfl⟩
  rw [hS] at HB hz HC ⊢
  clear hS
  obtain ⟨R, hR⟩ : ∃ R, cutW s [] = R := ⟨_, rfl⟩
  have HR : Hid (cutW s [] = R) := hR
  rw [hR]
  clear hR
  go_enter Tryd.func67, Tryd.ntmps67
  go_wp2_with fail
  go_loopw [3, 4, 5] (fun l f i wx => ∃ (pos st : Nat) (acc : List (List UInt8)), pos ≤ s.length + 1 ∧ i = .int .i64 pos ∧ f = .int .i64 st ∧ wx.ownsRow w.heap.size 9 1 l acc.length (acc.map ST) ∧ Grew w wx ∧ acc.length ≤ pos ∧
    (pos ≤ s.length → st ≤ pos ∧ acc ++ cutW (s.drop pos) ((s.take pos).drop st) = R) ∧ (pos = s.length + 1 → acc = R)) (fun _ _ i _ => s.length + 1 - (intOf i).toNat)
  case atStart => exact ⟨0, 0, [], by omega, rfl, rfl, World.ownsRow_nil _ _ _ _, Grew.refl w, by simp, fun _ => ⟨Nat.le_refl _, by simpa using HR.out⟩, fun h => by omega⟩
  case round =>
    obtain ⟨pos, st, acc, hp, rfl, rfl, hown, pg, hal, hin, hend⟩ := hrel
    have PG : Hid (Grew w wr) := pg
    by_cases hlt : pos ≤ s.length
    · obtain ⟨hst, hcut⟩ := hin hlt
      have hsl := fun W => HB.out st pos W hst hlt
      have HCUT : Hid (acc ++ cutW (s.drop pos) ((s.take pos).drop st) = R) := hcut
      have hsz := pg.2
      obtain ⟨Y, hY⟩ : ∃ Y, BA ((s.take pos).drop st) = Y := ⟨_, rfl⟩
      have HY : Hid (BA ((s.take pos).drop st) = Y) := hY
      rw [hY] at hsl
      clear hin hend hcut HB HR pg hY
      have d1 : decide ((pos : Int) ≤ s.length) = true := by simp; omega
      by_cases hps : pos < s.length
      · have hpS : pos < S.size := by omega
        have hc := HC.out pos hpS hps
        obtain ⟨c, hcc⟩ : ∃ c, s[pos]'hps = c := ⟨_, rfl⟩
        rw [hcc] at hc
        have HCC : Hid (s[pos]'hps = c) := hcc
        clear hcc HC
        have d2 : ((pos : Int) == s.length) = false := by simp; omega
        by_cases h32 : c = 32
        · have d3 : ((c.toNat : Int) == 32) = true := by rw [h32]; rfl
          go_wp2_with (at_builtin; refine wp_app1 rfl (.tmp 22) (.tmp 27) 112 9 1 16 (.string ⟨#[]⟩) Tryd.underlying112 (by kernel_rfl) rfl (by decide) (by decide) rfl w.heap.size rfl rfl hown (by omega) rfl (by intro u hu; simp at hu; subst hu; rfl) (by omega) ?_; intro v' w' hv' ht' hb')
          go_roundw
          case rel =>
            refine ⟨pos + 1, pos + 1, acc ++ [(s.take pos).drop st], by omega, by go_num, by go_num, ?_, grew_tb PG.out ht' (Nat.le_refl _) (Nat.le_refl _), by simp; omega, fun _ => ⟨Nat.le_refl _, ?_⟩, fun h => by omega⟩
            · rw [List.length_append, List.map_append]
              simp only [List.map_cons, List.map_nil, ST, HY.out]
              exact hv'
            · rw [← HCUT.out, cut_word hps HCC.out h32]
              simp
          case measure => simp [intOf]; omega
        · have d3 : ((c.toNat : Int) == 32) = false := by
            have : c.toNat ≠ 32 := fun h => h32 (UInt8.toNat_inj.1 (by show c.toNat = 32; exact h))
            simp
            omega
          have HO : Hid (wr.ownsRow w.heap.size 9 1 u3 acc.length (acc.map ST)) := hown
          clear hown
          go_wp2_with fail
          go_roundw
          case rel =>
            refine ⟨pos + 1, st, acc, by omega, by go_num, rfl, HO.out, PG.out, by omega, fun _ => ⟨by omega, ?_⟩, fun h => by omega⟩
            rw [← HCUT.out, cut_step hps HCC.out hst h32]
          case measure => simp [intOf]; omega
      · have d2 : ((pos : Int) == s.length) = true := by simp; omega
        go_wp2_with (at_builtin; refine wp_app1 rfl (.tmp 22) (.tmp 27) 112 9 1 16 (.string ⟨#[]⟩) Tryd.underlying112 (by kernel_rfl) rfl (by decide) (by decide) rfl w.heap.size rfl rfl hown (by omega) rfl (by intro u hu; simp at hu; subst hu; rfl) (by omega) ?_; intro v' w' hv' ht' hb')
        go_roundw
        case rel =>
          refine ⟨pos + 1, pos + 1, acc ++ [(s.take pos).drop st], by omega, by go_num, by go_num, ?_, grew_tb PG.out ht' (Nat.le_refl _) (Nat.le_refl _), by simp; omega, fun h => by omega, fun _ => ?_⟩
          · rw [List.length_append, List.map_append]
            simp only [List.map_cons, List.map_nil, ST, HY.out]
            exact hv'
          · rw [← HCUT.out, show s.drop pos = [] from List.drop_eq_nil_of_le (by omega)]
            rfl
        case measure => simp [intOf]; omega
    · have hE := hend (by omega)
      subst hE
      have d1 : decide ((pos : Int) ≤ s.length) = false := by simp; omega
      have HO : Hid (wr.ownsRow w.heap.size 9 1 u3 acc.length (acc.map ST)) := hown
      clear hin hend HB HR HC hown pg
      go_wp2_with fail
      go_ret
      exact ⟨_, rfl, HO.out, PG.out⟩
end Go.Proofs.YtjfiggkjdbnjeaaDoor
