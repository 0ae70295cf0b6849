/-
  The walks of PutName of both sides; no statement is proved here.
-/
import Derived.Test.YtfnfbioenngjoaaDoorN2B
import Derived.Lib.AppendStr
import Derived.Test.YtfnfbioenngjoaaDoorPutU
import Derived.Test.YtfnfbioenngjoaaDoorWr2
namespace Go.Proofs.YtfnfbioenngjoaaDoor
open Go.RowKit
set_option linter.unusedVariables false
set_option linter.unusedSimpArgs false

theorem Grew.iter (w : World) (s : ByteArray) (pos : Nat) : Grew w (w.iter s pos) := (Grew.refl w).alloc _
theorem ret_place {a a' : Int} {b b' : Bool} (h1 : a = a') (h2 : b = b') : Ending.returned (.tuple #[.int .i64 a, .bool b]) = .returned (.tuple #[.int .i64 a', .bool b']) := by rw [h1, h2]
theorem stop_le (l : List Int) (a : Nat) : stop l a ≤ 4 := by
  unfold stop
  have h := lt_cases (l.getD a 0)
  split
  · omega
  · have := run_le l a (lt (l.getD a 0)) (l.getD a 0) 4 1 (by omega)
    omega
set_option maxRecDepth 100000 in
set_option maxHeartbeats 4000000 in
theorem wf_any (l : List Int) (w : World) (hb : Byt l) (hlen : l.length ≤ 140737488351232) :
    Calls Tryd.prog 72 #[.string (strOfNums l)] w fun e w' => e = .returned (.tuple #[.int .i64 (U l).1, .bool (U l).2]) ∧ Grew w w' := by
  have hsz := strOfNums_size l
  have HSL : Hid (∀ (i : Nat) (w : World), i ≤ l.length → (Instr.slice 9 (.string (strOfNums l)) (some (.int .i64 i)) none none).run Tryd.prog w = .ok (.string (strOfNums (l.drop i))) w) := by
    intro i w hi
    rw [run_slice_string_from_if w 9 _ .i64 i Tryd.underlying9, if_pos (by rw [hsz]; omega), Int.toNat_natCast, str_drop _ i _ hsz]
  have HD1 : Hid (∀ pos, pos < l.length → whole l pos → (Utf8.decode (strOfNums l) pos).2 = lt (l.getD pos 0) ∧ ((Utf8.decode (strOfNums l) pos).1 = 65533 → (l.drop pos).take 3 = [239, 191, 189])) := fun pos h hw => dec_whole hb h hw
  have HD2 : Hid (∀ pos, pos < l.length → ¬ whole l pos → Utf8.decode (strOfNums l) pos = (65533, 1) ∧ (l.drop pos).take 3 ≠ [239, 191, 189]) := fun pos h hw => dec_bad hb h hw
  have HP : Hid (∀ (pos : Nat) (b : Bool) (w : World), b = decide ((l.drop pos).take 3 = [239, 191, 189]) → Calls Tryd.prog 75 #[.string (strOfNums (l.drop pos)), .string ⟨#[239, 191, 189]⟩] w fun e w' => e = .returned (.bool b) ∧ w' = w) :=
    fun pos b w h => prefix_any (l.drop pos) b w h (hb.drop pos)
  have HB : Hid (∀ (pos : Nat) (w : World), pos < l.length → ¬ whole l pos → Calls Tryd.prog 76 #[.string (strOfNums (l.drop pos))] w fun e w' => e = .returned (.int .i64 (stop l pos)) ∧ Grew w w') := by
    intro pos w h hw
    rw [← bgn_stop h hw]
    have e : l.drop pos = l.getD pos 0 :: l.drop (pos + 1) := by
      rw [List.drop_eq_getElem_cons h]; simp [List.getD, h]
    have hbd := hb.drop pos
    rw [e] at hbd ⊢
    exact begun_any _ _ w hbd (by simp; omega)
  generalize strOfNums l = s at *
  obtain ⟨rU, hU⟩ : ∃ r, r = U l := ⟨_, rfl⟩
  rw [← hU]
  have HU : Hid (rU = uat l 0) := hU
  clear hU hb
  go_enter Tryd.func72, Tryd.ntmps72
  go_wp2_with fail
  go_loopw [4, 5] (fun _ _ w' => ∃ (pos : Nat), w' = w.iter s pos ∧ rU = uat l pos) (fun _ _ w' => s.size - w'.iterPos w.heap.size)
  case atStart => exact ⟨0, rfl, HU.out⟩
  case round =>
    obtain ⟨pos, rfl, hu⟩ := hrel
    have HUP : Hid (rU = uat l pos) := hu
    clear hu
    by_cases hp : pos < s.size
    · have hp' : pos < l.length := by omega
      have hsl := fun w => HSL.out pos w (by omega)
      have hnx : ∀ ty, (Instr.next (.pointer (some ⟨w.heap.size, 0, none⟩)) true ty).run Tryd.prog (w.iter s pos) = _ := fun ty => run_next_any w s pos ty hp
      by_cases hw : whole l pos
      · obtain ⟨h1, h2⟩ := HD1.out pos hp' hw
        obtain ⟨R, hR⟩ : ∃ R, (Utf8.decode s pos).1 = R := ⟨_, rfl⟩
        obtain ⟨K, hK⟩ : ∃ K, (Utf8.decode s pos).2 = K := ⟨_, rfl⟩
        have hl := lt_pos hw
        rw [hR] at h2
        rw [hK] at h1
        simp only [hR, hK] at hnx
        have HN : Hid (rU = uat l (pos + K)) := by rw [h1, ← uat_step hp' hw]; exact HUP.out
        have hK1 : 1 ≤ K := by omega
        clear h1 hl hK hR
        by_cases hr : R = 65533
        · have hr' : ((R : Int) == 65533) = true := beq_iff_eq.2 (by omega)
          have c := fun w => HP.out pos true w (by rw [h2 hr]; rfl)
          clear hr h2 hw
          go_wp2_with fail
          refine (c _).mono ?_
          rintro e w1 ⟨rfl, rfl⟩
          clear c
          go_wp2_with fail
          go_roundw
          case rel => exact ⟨pos + K, rfl, HN.out⟩
          case measure => simp; omega
        · have hr' : ((R : Int) == 65533) = false := beq_eq_false_iff_ne.2 (by omega)
          clear hr h2 hw
          go_wp2_with fail
          go_roundw
          case rel => exact ⟨pos + K, rfl, HN.out⟩
          case measure => simp; omega
      · obtain ⟨h1, h2⟩ := HD2.out pos hp' hw
        rw [h1] at hnx
        have c := fun w => HP.out pos false w (by simp [h2])
        have c2 := fun w => HB.out pos w hp' hw
        have hst := stop_le l pos
        have HN : Hid (rU = (((pos + stop l pos : Nat) : Int), false)) := by rw [← uat_bad hp' hw]; exact HUP.out
        clear h1 h2 hw
        generalize stop l pos = st at *
        go_wp2_with fail
        refine (c _).mono ?_
        rintro e w1 ⟨rfl, rfl⟩
        clear c
        go_wp2_with fail
        refine (c2 _).mono ?_
        rintro e w1 ⟨rfl, hg⟩
        clear c2
        go_wp2_with fail
        go_ret2
        refine ⟨ret_place (by rw [HN.out]; omega) (by rw [HN.out]), ?_⟩
        exact (Grew.iter w s _).trans hg
    · have hnx : ∀ ty, (Instr.next (.pointer (some ⟨w.heap.size, 0, none⟩)) true ty).run Tryd.prog (w.iter s pos) = _ := fun ty => run_next_end w s pos ty hp
      go_wp2_with fail
      go_ret2
      have := HUP.out
      rw [uat_end (by omega)] at this
      exact ⟨ret_place (by rw [this]) (by rw [this]), Grew.iter w s _⟩
end Go.Proofs.YtfnfbioenngjoaaDoor

namespace Go.Proofs.YtfnfbioenngjoaaDoor
open Go.RowKit
set_option linter.unusedVariables false
set_option linter.unusedSimpArgs false

theorem ret_place' {a a' : Int} {b b' : Bool} (h1 : a = a') (h2 : b = b') : Ending.returned (.tuple #[.int .i64 a, .bool b]) = .returned (.tuple #[.int .i64 a', .bool b']) := by rw [h1, h2]
theorem Grew.of_drewN (w : World) (n : Nat) : Grew w (w.drewN n) := (Grew.refl w).drewN n
theorem stop_run {l : List Int} {a n : Nat} {f : Int} (hf : f = l.getD a 0) (hn : n = lt f) (h0 : n ≠ 0) : stop l a = run l a n f 4 1 := by
  subst hn; subst hf; unfold stop; rw [if_neg h0]
theorem run_go {l : List Int} {a n : Nat} {f : Int} {g k : Nat} (h : k < n) (h1 : a + k < l.length) (h2 : fl f k (l.getD (a + k) 0) = true) : run l a n f (g + 1) k = run l a n f g (k + 1) := by
  simp only [run]; rw [if_pos h, if_pos ⟨h1, h2⟩]
theorem run_no {l : List Int} {a n : Nat} {f : Int} {g k : Nat} (h : k < n) (h1 : ¬ (a + k < l.length ∧ fl f k (l.getD (a + k) 0) = true)) : run l a n f (g + 1) k = k := by
  simp only [run]; rw [if_pos h, if_neg h1]
theorem run_end {l : List Int} {a n : Nat} {f : Int} {g k : Nat} (h : ¬ k < n) : run l a n f g k = k := by
  cases g with
  | zero => rfl
  | succ g => simp only [run]; rw [if_neg h]
set_option maxRecDepth 100000 in
theorem refU_none (ad : Option Addr) (cap : Nat) (w : World) :
    Calls Tryd.prog 56 #[.slice ad 0 cap] w fun e w' => e = .returned (.tuple #[.int .i64 0, .bool true]) ∧ Grew w w' := by
  go_enter Tryd.func56, Tryd.ntmps56
  go_wp2_with fail
  refine wp_loop_rounds 1 ?_
  rw [rounds_succ]
  go_wp2
  go_ret2
  exact ⟨rfl, Grew.refl w⟩
set_option maxRecDepth 100000 in
set_option maxHeartbeats 4000000 in
theorem refU_in (b off cap : Nat) (l : List Int) (w : World) (hlen : l.length ≤ 140737488351232) (hc : ∀ j, j < l.length → w.cell? ⟨b, off + j, none⟩ = some (.int .u8 (l.getD j 0))) (hb : Byt l) :
    Calls Tryd.prog 56 #[.slice (some ⟨b, off, none⟩) l.length cap] w fun e w' => e = .returned (.tuple #[.int .i64 (U l).1, .bool (U l).2]) ∧ Grew w w' := by
  obtain ⟨rU, hU⟩ : ∃ r, r = U l := ⟨_, rfl⟩
  rw [← hU]
  have HU : Hid (rU = uat l 0) := hU
  have HC : Hid (∀ j, j < l.length → w.cell? ⟨b, off + j, none⟩ = some (.int .u8 (l.getD j 0))) := hc
  have HB : Hid (Byt l) := hb
  clear hU hb hc
  go_enter Tryd.func56, Tryd.ntmps56
  go_wp2_with fail
  go_loopw [4, 5, 6] (fun at_ _ _ w' => ∃ (a d : Nat), at_ = .int .i64 a ∧ w' = w.drewN d ∧ a ≤ l.length ∧ rU = uat l a) (fun at_ _ _ _ => l.length - (intOf at_).toNat)
  case atStart => exact ⟨0, 0, rfl, rfl, by omega, HU.out⟩
  case round =>
    obtain ⟨a, d, rfl, rfl, ha, hu⟩ := hrel
    have HUP : Hid (rU = uat l a) := hu
    clear hu
    by_cases hp : a < l.length
    · obtain ⟨f, hf⟩ : ∃ f, f = l.getD a 0 := ⟨_, rfl⟩
      have hcell := HC.out a hp
      obtain ⟨hf0, hf1⟩ := HB.out a
      rw [← hf] at hcell hf0 hf1
      have cl := letter_any f
      obtain ⟨n, hn⟩ : ∃ n, n = lt f := ⟨_, rfl⟩
      have hn4 : n ≤ 4 := by have := lt_cases f; omega
      rw [← hn] at cl
      have HF : Hid (f = l.getD a 0) := hf
      have HN : Hid (n = lt f) := hn
      clear hf hn
      by_cases h0 : n = 0
      · have HW : Hid (rU = ((a : Int), false)) := by
          have hnw : ¬ whole l a := fun h => h.1 (by rw [← HF.out, ← HN.out]; exact h0)
          show rU = _
          rw [HUP.out, uat_bad hp hnw, stop, if_pos (by rw [← HF.out, ← HN.out]; exact h0)]; rfl
        subst h0
        go_wp2_with fail
        refine (cl _ hf0 hf1).mono ?_
        rintro e w1 ⟨rfl, rfl⟩
        go_wp2_with fail
        go_ret2
        exact ⟨ret_place' (by rw [HW.out]) (by rw [HW.out]), Grew.of_drewN _ _⟩
      · have HS : Hid (stop l a = run l a n f 4 1) := stop_run HF.out HN.out h0
        have h0' : ((n : Int) == 0) = false := beq_eq_false_iff_ne.2 (by omega)
        go_wp2_with fail
        refine (cl _ hf0 hf1).mono ?_
        rintro e w1 ⟨rfl, rfl⟩
        clear cl
        go_wp2_with fail
        go_loopw [6] (fun k_ w' => ∃ (k d : Nat), k_ = .int .i64 k ∧ w' = w.drewN d ∧ 1 ≤ k ∧ k ≤ n ∧ a + k ≤ l.length ∧ run l a n f 4 1 = run l a n f (5 - k) k) (fun k_ _ => n - (intOf k_).toNat)
        case atStart => exact ⟨1, d, rfl, rfl, by omega, by omega, by omega, rfl⟩
        case round =>
          obtain ⟨k, d', rfl, rfl, hk1, hkn, hak, hrun⟩ := hrel
          have HRN : Hid (run l a n f 4 1 = run l a n f (5 - k) k) := hrun
          clear hrun
          by_cases hlt : k < n
          · by_cases hin : a + k < l.length
            · obtain ⟨c, hcc⟩ : ∃ c, c = l.getD (a + k) 0 := ⟨_, rfl⟩
              have hcell2 := HC.out (a + k) hin
              rw [← hcc] at hcell2
              have cf := fun w => follows_any f c k w
              have HCC : Hid (c = l.getD (a + k) 0) := hcc
              clear hcc
              cases hfl : fl f k c with
              | false =>
                rw [hfl] at cf
                have HW : Hid (rU = (((a + k : Nat) : Int), false)) := by
                  have hs : stop l a = k := by
                    rw [HS.out, HRN.out, show 5 - k = (4 - k) + 1 from by omega, run_no hlt (by rw [← HCC.out, hfl]; simp)]
                  have hnw : ¬ whole l a := fun h => by
                    have := h.2; rw [← HF.out, ← HN.out, hs] at this; omega
                  show rU = _
                  rw [HUP.out, uat_bad hp hnw, hs]
                go_wp2_with fail
                go_quiet ((go_at_call 67; exact q_same (fun _ => cf _)))
                go_wp2_with fail
                go_ret2
                exact ⟨ret_place' (by rw [HW.out]; omega) (by rw [HW.out]), Grew.of_drewN _ _⟩
              | true =>
                rw [hfl] at cf
                go_wp2_with fail
                go_quiet ((go_at_call 67; exact q_same (fun _ => cf _)))
                go_wp2_with fail
                go_roundw
                case rel =>
                  refine ⟨k + 1, _, by go_num, rfl, by omega, by omega, by omega, ?_⟩
                  rw [HRN.out, show 5 - k = (5 - (k + 1)) + 1 from by omega, run_go hlt hin (by rw [← HCC.out]; exact hfl)]
                case measure => simp [intOf]; omega
            · have HW : Hid (rU = ((l.length : Int), false)) := by
                have hs : stop l a = k := by
                  rw [HS.out, HRN.out, show 5 - k = (4 - k) + 1 from by omega, run_no hlt (by rintro ⟨h, _⟩; omega)]
                have hnw : ¬ whole l a := fun h => by
                  have := h.2; rw [← HF.out, ← HN.out, hs] at this; omega
                show rU = _
                rw [HUP.out, uat_bad hp hnw, hs, show a + k = l.length from by omega]
              go_wp2_with fail
              go_ret2
              exact ⟨ret_place' (by rw [HW.out]) (by rw [HW.out]), Grew.of_drewN _ _⟩
          · have HW : Hid (rU = uat l (a + n)) := by
              have hs : stop l a = n := by
                rw [HS.out, HRN.out, run_end hlt]; omega
              have hw : whole l a := ⟨by rw [← HF.out, ← HN.out]; exact h0, by rw [hs, ← HF.out]; exact HN.out⟩
              show rU = _
              rw [HUP.out, uat_step hp hw, ← HF.out, ← HN.out]
            go_wp2_with fail
            go_roundw
            case rel => exact ⟨a + n, d', by go_num, rfl, by omega, HW.out⟩
            case measure => simp [intOf]; omega
    · go_wp2_with fail
      go_ret2
      have := HUP.out
      rw [uat_end (by omega)] at this
      exact ⟨ret_place' (by rw [this]) (by rw [this]), Grew.of_drewN _ _⟩
theorem refU_any (v : Value) (l : List Int) (w : World) (hR : Reads w v l) (hb : Byt l) (hlen : l.length ≤ 140737488351232) :
    Calls Tryd.prog 56 #[v] w fun e w' => e = .returned (.tuple #[.int .i64 (U l).1, .bool (U l).2]) ∧ Grew w w' := by
  obtain ⟨ad, cap, rfl, hlc, hm, _, h⟩ := hR
  rcases h with rfl | ⟨b, off, rfl, hc⟩
  · exact refU_none ad cap w
  · exact refU_in b off cap l w hlen hc hb
end Go.Proofs.YtfnfbioenngjoaaDoor

namespace Go.Proofs.YtfnfbioenngjoaaDoor
open Go.RowKit
set_option linter.unusedVariables false
set_option linter.unusedSimpArgs false

theorem strCells_nums (r : List Int) (hb : Byt r) : Lib.strCells (strOfNums r) = U8 r := by
  unfold Lib.strCells U8
  rw [strOfNums_data, List.map_map]
  apply List.map_congr_left
  intro x hx
  have := hb.mem x hx
  simp only [Function.comp]
  rw [UInt8.toNat_ofNat']
  congr 1
  omega
/- The bytes of a string, appended to a slice of the call's own. -/
theorem wp_appStr {w0 w : World} {ops : Array Oper} {rest : List Oper} {o : Oper} {a : Act} {Q : Exit → Act → World → Prop} (hgd : o.guard = none) (s x : Operand)
    (ho : o.op = .call { callee := .builtin .append, args := #[s, x], argTypes := #[38, 9] }) {base : Nat} {v : Value} {l r : List Int}
    (hs : a.eval s = v) (hx : a.eval x = .string (strOfNums r)) (hh : Has base w0 w v l) (hb : Byt r) (hlen : l.length + r.length ≤ 140737488355328)
    (h : ∀ v' w', Has base w0 w' v' (l ++ r) → wpList Tryd.prog ops Q rest (a.put o.dst v') w') :
    wpList Tryd.prog ops Q (o :: rest) a w := by
  obtain ⟨i0, hi, hz0, hz1, hz2⟩ := info_parts infoB
  obtain ⟨hown, hbl, hle⟩ := hh
  have hsz := strOfNums_size r
  refine Lib.wpList_append_own_string w hgd s x 38 9 ho base 5 i0 Tryd.underlying38 Tryd.underlying9 hi hz0 hz1 hz2 v l.length (U8 l) hs hown (strOfNums r) hx (by unfold maxLen; omega) (by omega) hle ?_
  intro v' w' ho' hg _
  refine h v' w' ⟨?_, hbl.grown hg hle (fun k hk => (hown.lt k hk).1), Nat.le_trans hle hg.size⟩
  rw [List.length_append, show U8 (l ++ r) = U8 l ++ U8 r from by simp [U8], ← strCells_nums r hb, ← hsz]; exact ho'
theorem bytes_of (l : List Int) (hb : Byt l) (hlen : l.length ≤ 140737488351232) (w : World) :
    ∃ a c w1, (convert 9 38 (.string (strOfNums l))).run Tryd.prog w = .ok (.slice a l.length c) w1 ∧ Reads w1 (.slice a l.length c) l ∧ Grew w w1 := by
  have h := run_bytes_of_string (P := Tryd.prog) w 9 38 5 (strOfNums l) Tryd.underlying9 Tryd.underlying38 Tryd.underlying5
  rw [strOfNums_size] at h
  refine ⟨_, _, _, h, ?_, ((Grew.refl w).drew).alloc _⟩
  refine ⟨_, _, rfl, grownCap_ge _ _ _ _, grownCap_le_maxLen _ _ _ _ (by unfold maxLen; omega), (fun h => by cases h), Or.inr ⟨w.heap.size, 0, rfl, fun j hj => ?_⟩⟩
  have hsz : (strOfNums l).data.size = l.length := strOfNums_size l
  rw [Nat.zero_add]
  refine (World.cell?_alloc_mark w.drew _ _ _ j).trans ?_
  rw [bytesRow_at _ _ j (by omega)]
  have := str_at l hb j (by rw [strOfNums_size]; exact hj)
  rw [← this]; rfl
theorem Has.grewW {w w' : World} {v : Value} {l : List Int} (h : Has w.heap.size w w' v l) : Grew w w' := ⟨h.2.1, h.2.2⟩
/- Why a text is no name; its bytes. -/
def nf (l : List Int) : Int := if 65536 < l.length then 2 else if (U l).2 = true then 0 else 21
def nb (l : List Int) : List Int := PU l.length ++ l
def pn (l : List Int) : List Int := if nf l = 0 then nb l else []
theorem byt_PU (n : Int) (h0 : 0 ≤ n) (h1 : n ≤ 18446744073709551615) : Byt (PU n) := by
  have h : ∀ f n, 0 ≤ n → n < 128 * 128 ^ f → ∀ x ∈ putU f n, 0 ≤ x ∧ x ≤ 255 := by
    intro f
    induction f with
    | zero => intro n h0 h1 x hx; simp [putU] at hx; omega
    | succ f ih =>
      intro n h0 h1 x hx
      simp only [putU] at hx
      split at hx
      · rcases List.mem_cons.1 hx with rfl | hx
        · omega
        · refine ih (n / 128) (by omega) ?_ x hx
          rw [Int.pow_succ] at h1
          omega
      · simp at hx; omega
  exact Byt.of_mem (h 10 n h0 (by have : (128 : Int) * 128 ^ 10 = 151115727451828646838272 := by decide
                                  omega))
set_option maxRecDepth 100000 in
theorem nf_any (l : List Int) (w : World) (hb : Byt l) (hlen : l.length ≤ 140737488351232) :
    Calls Tryd.prog 63 #[.string (strOfNums l)] w fun en w' => en = .returned (.int .i64 (nf l)) ∧ Grew w w' := by
  have hsz := strOfNums_size l
  have c := fun w => wf_any l w hb hlen
  by_cases hl : 65536 < l.length
  · have e : nf l = 2 := by unfold nf; rw [if_pos hl]
    rw [e]
    clear e hb c
    generalize strOfNums l = s at *
    go_enter Tryd.func63, Tryd.ntmps63
    go_wp2_with fail
    go_ret
    exact ⟨rfl, Grew.refl w⟩
  · obtain ⟨i, g, hu⟩ : ∃ i g, U l = (i, g) := ⟨_, _, rfl⟩
    rw [hu] at c
    cases g with
    | true =>
      have e : nf l = 0 := by unfold nf; rw [if_neg hl, hu]; rfl
      rw [e]
      clear e hb hu
      generalize strOfNums l = s at *
      go_enter Tryd.func63, Tryd.ntmps63
      go_wp2_with fail
      refine (c _).mono ?_
      rintro en w1 ⟨rfl, hg⟩
      clear c
      go_wp2_with fail
      go_ret
      exact ⟨rfl, hg⟩
    | false =>
      have e : nf l = 21 := by unfold nf; rw [if_neg hl, hu]; rfl
      rw [e]
      clear e hb hu
      generalize strOfNums l = s at *
      go_enter Tryd.func63, Tryd.ntmps63
      go_wp2_with fail
      refine (c _).mono ?_
      rintro en w1 ⟨rfl, hg⟩
      clear c
      go_wp2_with fail
      go_ret
      exact ⟨rfl, hg⟩
set_option maxRecDepth 100000 in
theorem nb_any (l : List Int) (w : World) (hb : Byt l) (hlen : l.length ≤ 140737488351232) :
    Calls Tryd.prog 64 #[.string (strOfNums l)] w fun en w' => ∃ v, en = .returned v ∧ Has w.heap.size w w' v (nb l) := by
  have hsz := strOfNums_size l
  have c := fun w => putU_any (l.length : Int) w (by omega) (by omega)
  have hpl := PU_len l.length
  have HB : Hid (Byt l) := hb
  have HS : Hid (strOfNums l = strOfNums l) := rfl
  clear hb
  unfold nb
  obtain ⟨s, hs⟩ : ∃ s, s = strOfNums l := ⟨_, rfl⟩
  rw [← hs] at hsz ⊢
  have HE : Hid (s = strOfNums l) := hs
  clear hs HS
  go_enter Tryd.func64, Tryd.ntmps64
  go_wp2_with fail
  refine (c _).mono ?_
  rintro en w1 ⟨v1, rfl, hh⟩
  clear c
  go_wp2_with (at_builtin; refine wp_appStr rfl _ _ rfl rfl (congrArg Value.string HE.out) hh HB.out (by omega) ?_; intro v' w2 hh2)
  go_ret
  exact ⟨_, rfl, hh2⟩
set_option maxRecDepth 100000 in
theorem putName_any (l : List Int) (w : World) (hb : Byt l) (hlen : l.length ≤ 140737488351232) :
    Calls Tryd.prog 49 #[.string (strOfNums l)] w fun en w' => ∃ v, en = .returned (.tuple #[v, .int .i64 (nf l)]) ∧ Reads w' v (pn l) ∧ Grew w w' := by
  have c := fun w => nf_any l w hb hlen
  have c2 := fun w => nb_any l w hb hlen
  unfold pn
  generalize strOfNums l = s at *
  obtain ⟨e, he⟩ : ∃ e, e = nf l := ⟨_, rfl⟩
  rw [← he] at c ⊢
  clear he hb
  by_cases h0 : e = 0
  · rw [if_pos h0]
    subst h0
    go_enter Tryd.func49, Tryd.ntmps49
    go_wp2_with fail
    refine (c _).mono ?_
    rintro en w1 ⟨rfl, hg⟩
    clear c
    go_wp2_with fail
    refine (c2 _).mono ?_
    rintro en w2 ⟨v2, rfl, hh⟩
    clear c2
    go_wp2_with fail
    go_ret2
    exact ⟨v2, rfl, hh.reads, hg.trans hh.grewW⟩
  · rw [if_neg h0]
    have h0' : (e != 0) = true := by simpa using h0
    clear c2 h0
    go_enter Tryd.func49, Tryd.ntmps49
    go_wp2_with fail
    refine (c _).mono ?_
    rintro en w1 ⟨rfl, hg⟩
    clear c
    go_wp2_with fail
    go_ret2
    exact ⟨_, rfl, ⟨none, 0, rfl, Nat.le_refl _, Nat.zero_le _, fun _ => rfl, Or.inl rfl⟩, hg⟩
theorem reads_nil (w : World) : Reads w (.slice none 0 0) [] := ⟨none, 0, rfl, Nat.le_refl _, Nat.zero_le _, fun _ => rfl, Or.inl rfl⟩
set_option maxRecDepth 100000 in
theorem refPutName_any (l : List Int) (w : World) (hb : Byt l) (hlen : l.length ≤ 140737488351232) :
    Calls Tryd.prog 35 #[.string (strOfNums l)] w fun en w' => ∃ v, en = .returned (.tuple #[v, .int .i64 (nf l)]) ∧ Reads w' v (pn l) ∧ Grew w w' := by
  have hsz := strOfNums_size l
  have hpl := PU_len l.length
  by_cases hl : 65536 < l.length
  · have e : nf l = 2 := by unfold nf; rw [if_pos hl]
    unfold pn
    rw [e, if_neg (by decide)]
    clear e hb
    generalize strOfNums l = s at *
    go_enter Tryd.func35, Tryd.ntmps35
    go_wp2_with fail
    go_ret2
    exact ⟨_, rfl, reads_nil _, Grew.refl w⟩
  · obtain ⟨i, g, hu⟩ : ∃ i g, U l = (i, g) := ⟨_, _, rfl⟩
    obtain ⟨a1, c1, w1, hcv, hr1, hg1⟩ := bytes_of l hb hlen w
    have c := refU_any _ l w1 hr1 hb hlen
    rw [hu] at c
    have cp := fun w => refPutU_any (l.length : Int) w (by omega) (by omega)
    cases g with
    | true =>
      have e : nf l = 0 := by unfold nf; rw [if_neg hl, hu]; rfl
      unfold pn
      rw [e, if_pos rfl]
      have HB : Hid (Byt l) := hb
      unfold nb
      clear e hb hu hr1
      obtain ⟨s, hs⟩ : ∃ s, s = strOfNums l := ⟨_, rfl⟩
      rw [← hs] at hsz hcv ⊢
      have HE : Hid (s = strOfNums l) := hs
      clear hs
      go_enter Tryd.func35, Tryd.ntmps35
      go_wp2_with fail
      refine c.mono ?_
      rintro en w2 ⟨rfl, hg2⟩
      clear c
      go_wp2_with fail
      refine (cp _).mono ?_
      rintro en w3 ⟨v3, rfl, hh⟩
      clear cp
      go_wp2_with (at_builtin; refine wp_appStr rfl _ _ rfl rfl (congrArg Value.string HE.out) hh HB.out (by omega) ?_; intro v' w4 hh4)
      go_ret2
      exact ⟨_, rfl, hh4.reads, (hg1.trans hg2).trans hh4.grewW⟩
    | false =>
      have e : nf l = 21 := by unfold nf; rw [if_neg hl, hu]; rfl
      unfold pn
      rw [e, if_neg (by decide)]
      clear e hb hu cp hr1
      generalize strOfNums l = s at *
      go_enter Tryd.func35, Tryd.ntmps35
      go_wp2_with fail
      refine c.mono ?_
      rintro en w2 ⟨rfl, hg⟩
      clear c
      go_wp2_with fail
      go_ret2
      exact ⟨_, rfl, reads_nil _, hg1.trans hg⟩
end Go.Proofs.YtfnfbioenngjoaaDoor
