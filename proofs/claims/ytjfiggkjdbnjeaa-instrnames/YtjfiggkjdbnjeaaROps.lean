/-
  The walks of word and Form, and of the document's Ops and Op; no statement is proved here.
-/
import Derived.Test.YtjfiggkjdbnjeaaFindW
import Derived.Test.YtjfiggkjdbnjeaaFormW
import Derived.Test.YtjfiggkjdbnjeaaOpW
namespace Go.Proofs.Ytjfiggkjdbnjeaa
open Go.RowKit
set_option linter.unusedVariables false
set_option linter.unusedSimpArgs false

set_option maxRecDepth 100000 in
set_option maxHeartbeats 1000000 in
theorem word_any (f : Int) (h0 : 0 ≤ f) (h1 : f ≤ 16) (w : World) : Calls Try.prog 18 #[.int .i64 f] w fun e w' => e = .returned (.string (BA (wordP f))) ∧ Grew w w' := by
  obtain ⟨a1, a2, a3⟩ := fwords_fine
  have C : Hid (Calls Try.prog 15 #[.string (BA fwords)] w fun e w' => ∃ v, e = .returned v ∧ w'.ownsRow w.heap.size 9 1 v (cutW fwords []).length ((cutW fwords []).map ST) ∧ Grew w w') := cut_any fwords a1 a2 w
  by_cases hf : f = 0
  · subst hf
    have e : Hid (wordP 0 = []) := rfl
    clear C
    go_enter Try.func18, Try.ntmps18
    go_wp2_with fail
    go_ret
    rw [e.out]
    exact ⟨rfl, Grew.refl w⟩
  · obtain ⟨k, hk⟩ : ∃ k : Nat, f - 1 = (k : Int) := ⟨(f - 1).toNat, by omega⟩
    have hk16 : k < 16 := by omega
    have HW : Hid (wordP f = ((cutW fwords [])[k]?).getD []) := by
      show wordP f = _
      rw [wordP, if_neg hf, hk, Int.toNat_natCast]
    have hfn : f = (k : Int) + 1 := by omega
    obtain ⟨L, hL⟩ : ∃ L, cutW fwords [] = L := ⟨_, rfl⟩
    rw [hL] at C HW a3
    have hq : (f == 0) = false := by simpa using hf
    obtain ⟨N, hN⟩ : ∃ N, wordP f = N := ⟨_, rfl⟩
    rw [hN] at HW ⊢
    have hwr : IntKind.i64.wrap (f - 1) = (k : Int) := by rw [wrap_id (by omega) (by omega), hk]
    have hsub : f - 1 = (k : Int) := hk
    clear hN hL hk hf hfn a1 a2
    generalize hBA : BA fwords = SF at *
    have hSF : SF = ⟨#[45, 32, 98, 108, 111, 99, 107, 32, 116, 114, 121, 32, 120, 32, 120, 121, 32, 116, 97, 98, 108, 101, 32, 115, 101, 108, 101, 99, 116, 32, 109, 101, 109, 32, 105, 51, 50, 32, 105, 54, 52, 32, 102, 51, 50, 32, 102, 54, 52, 32, 104, 101, 97, 112, 32, 99, 97, 115, 116, 32, 98, 114, 95, 99, 97, 115, 116, 32, 120, 110]⟩ := by rw [← hBA]; rfl
    clear hBA
    subst hSF
    go_enter Try.func18, Try.ntmps18
    go_wp2_with fail
    refine C.out.mono ?_
    rintro e w1 ⟨v, rfl, hv, g1⟩
    obtain ⟨g, c, rfl, hc1, hc2, hg⟩ := row_at hv (by omega)
    have q0 := hv.cellAt k (by omega)
    rw [List.getElem?_map, List.getElem?_eq_getElem (by omega)] at q0
    have eN : Hid (N = L[k]'(by omega)) := by show N = _; rw [HW.out, List.getElem?_eq_getElem (by omega)]; rfl
    generalize L[k]'(by omega) = X at *
    simp only [Option.map_some, ST] at q0
    have G1 : Hid (Grew w w1) := g1
    have hl : (k : Int) < L.length := by omega
    clear g1 hv C HW
    go_wp2_with fail
    go_ret
    rw [eN.out]
    exact ⟨rfl, G1.out⟩
set_option maxRecDepth 100000 in
set_option maxHeartbeats 1000000 in
theorem Form_any (op : Int) (w : World) : Calls Try.prog 7 #[.int .i64 op] w fun e w' => e = .returned (.string (BA (formD op))) ∧ Grew w w' := by
  obtain ⟨h1, h2, h3⟩ := form_same op
  have C1 := formOf_any op w
  have C2 := fun W => word_any (formP op) h2 h3 W
  rw [h1] at C2
  have H2 : Hid _ := C2
  clear C2 h1 h2 h3
  go_enter Try.func7, Try.ntmps7
  go_wp2_with fail
  refine C1.mono ?_
  rintro e w1 ⟨rfl, rfl⟩
  clear C1
  go_wp2_with fail
  refine (H2.out _).mono ?_
  rintro e w2 ⟨rfl, g2⟩
  have G2 : Hid (Grew w1 w2) := g2
  clear g2
  go_wp2_with fail
  go_ret
  exact ⟨rfl, G2.out⟩
theorem BA_nil (l : List UInt8) : (BA l).toList.isEmpty = l.isEmpty := by rw [BA_toList]
def hasF (op : Int) : Bool := !(formD op).isEmpty
theorem filt_snoc (n : Nat) (f : Int) (p : Int → Bool) : (rangeI f (n + 1)).filter p = (rangeI f n).filter p ++ (if p (f + n) then [f + n] else []) := by
  rw [range_snoc, List.filter_append]
  congr 1
  by_cases h : p (f + n) = true
  · simp [h]
  · simp [h]
theorem filt_le (n : Nat) (f : Int) (p : Int → Bool) : ((rangeI f n).filter p).length ≤ n := by
  have := List.length_filter_le p (rangeI f n)
  rw [range_len] at this
  exact this
theorem opsD_is : opsD = (rangeI 0 256).filter hasF ++ (rangeI 64256 32).filter hasF ++ (rangeI 64512 32).filter hasF := by
  unfold opsD
  rw [List.filter_append, List.filter_append]
  rfl
/- What is collected of an opcode's range, behind what was collected ahead. -/
def acc (pre : List Int) (f : Int) (k : Nat) : List Int := pre ++ (rangeI f k).filter hasF
theorem acc_0 (pre : List Int) (f : Int) : acc pre f 0 = pre := by simp [acc, rangeI]
theorem acc_no {pre : List Int} {f : Int} {k : Nat} (h : hasF (f + k) = false) : acc pre f (k + 1) = acc pre f k := by
  unfold acc
  rw [filt_snoc, h, if_neg (by simp), List.append_nil]
theorem acc_yes {pre : List Int} {f : Int} {k : Nat} (h : hasF (f + k) = true) : acc pre f (k + 1) = acc pre f k ++ [f + k] := by
  unfold acc
  rw [filt_snoc, h, if_pos rfl, List.append_assoc]
theorem acc_le (pre : List Int) (f : Int) (k : Nat) : (acc pre f k).length ≤ pre.length + k := by
  unfold acc
  have := filt_le k f hasF
  rw [List.length_append]
  omega
theorem acc_all : acc (acc (acc [] 0 256) 64256 32) 64512 32 = OL := by
  unfold acc
  rw [List.nil_append, ← opsD_is, ops_same]
set_option maxRecDepth 100000 in
set_option maxHeartbeats 4000000 in
theorem refOps_any (w : World) :
    Calls Try.prog 13 #[] w fun e w' => ∃ v, e = .returned v ∧ w'.ownsRow w.heap.size 3 1 v OL.length (IV OL) ∧ Grew w w' := by
  go_enter Try.func13, Try.ntmps13
  go_wp2_with fail
  go_loopw [1, 2] (fun s i wx => ∃ k : Nat, k ≤ 256 ∧ i = .int .i64 ((k : Int)) ∧ wx.ownsRow w.heap.size 3 1 s (acc [] 0 k).length (IV (acc [] 0 k)) ∧ Grew w wx) (fun _ i _ => 256 - (intOf i).toNat)
  case atStart => exact ⟨0, by omega, by go_num, by rw [acc_0]; exact World.ownsRow_nil _ _ _ _, Grew.refl w⟩
  case round =>
    obtain ⟨k, hk, rfl, p0, pg⟩ := hrel
    have P0 : Hid (wr.ownsRow w.heap.size 3 1 u1 (acc [] 0 k).length (IV (acc [] 0 k))) := p0
    have PG : Hid (Grew w wr) := pg
    obtain ⟨ua, uc, hu1⟩ := row_one p0
    subst hu1
    clear p0 pg
    by_cases hlt : k < 256
    · have d1 : decide ((k : Int) < 256) = true := by simp; omega
      have C := refForm_any ((k : Int)) (by omega) (by omega) wr
      have hn : (acc [] 0 k).length ≤ 2000 := by have := acc_le [] 0 k; rw [List.length_nil] at this; omega
      have HY : Hid (hasF ((k : Int)) = true → acc [] 0 (k + 1) = (acc [] 0 k) ++ [(k : Int)]) := fun h => by have := acc_yes (pre := []) (f := 0) (k := k) (by rw [Int.zero_add]; exact h); rwa [Int.zero_add] at this
      have HNo : Hid (hasF ((k : Int)) = false → acc [] 0 (k + 1) = (acc [] 0 k)) := fun h => by exact acc_no (by rw [Int.zero_add]; exact h)
      have HH : Hid (hasF ((k : Int)) = !(formD ((k : Int))).isEmpty) := rfl
      obtain ⟨F, hF⟩ : ∃ F, formD ((k : Int)) = F := ⟨_, rfl⟩
      rw [hF] at C HH
      obtain ⟨AA, hAA⟩ : ∃ AA, (acc [] 0 k) = AA := ⟨_, rfl⟩
      rw [hAA] at P0 hn HY HNo ⊢
      clear hF hAA
      go_wp2_with fail
      refine C.mono ?_
      rintro e w2 ⟨rfl, g2⟩
      have G2 : Hid (Grew w w2) := PG.out.trans g2
      have R2 : w2.ownsRow w.heap.size 3 1 (.slice ua AA.length uc) AA.length (IV AA) := row_turn P0.out (g2.turn []) (by simp)
      have hs2 := G2.out.2
      have hz := BA_nil F
      clear g2 C P0 PG
      cases hF : F.isEmpty with
      | true =>
        rw [hF] at hz HH
        have R3 : Hid (w2.ownsRow w.heap.size 3 1 (.slice ua AA.length uc) AA.length (IV AA)) := R2
        clear hF R2
        go_wp2_with fail
        go_roundw
        case rel =>
          refine ⟨k + 1, by omega, by go_num, ?_, G2.out⟩
          rw [HNo.out HH.out]
          exact R3.out
        case measure => simp [intOf]; omega
      | false =>
        rw [hF] at hz HH
        clear hF
        go_wp2_with (at_builtin; refine wp_app1 rfl (.tmp 12) (.tmp 14) 29 3 1 8 (.int .i64 0) Try.underlying29 (by kernel_rfl) rfl (by decide) (by decide) rfl w.heap.size rfl rfl R2 (by omega) rfl (by intro u hu; simp at hu; subst hu; rfl) (by omega) ?_; intro v' w' hv' ht' hb')
        go_roundw
        case rel =>
          refine ⟨k + 1, by omega, by go_num, ?_, grew_tb G2.out ht' (Nat.le_refl _) (Nat.le_refl _)⟩
          rw [HY.out HH.out, List.length_append, IV, List.map_append]
          exact hv'
        case measure => simp [intOf]; omega
    · have hkE : (k : Int) = 256 := by omega
      have hkn : k = 256 := by omega
      rw [hkE]
      rw [hkn] at P0 ⊢
      clear hkE hkn hlt hk
      have hb1 : (acc [] 0 256).length ≤ 256 := by have := acc_le [] 0 256; simpa using this
      obtain ⟨B1, hB1⟩ : ∃ B1, acc [] 0 256 = B1 := ⟨_, rfl⟩
      have HB1 : Hid (acc [] 0 256 = B1) := hB1
      rw [hB1] at P0 hb1 ⊢
      clear hB1
      have Q1 : Hid _ := P0.out
      have QG1 : Hid (Grew w wr) := PG.out
      clear P0 PG
      go_wp2_with fail
      go_loopw [1, 3] (fun s i wx => ∃ k : Nat, k ≤ 32 ∧ i = .int .i64 (64256 + (k : Int)) ∧ wx.ownsRow w.heap.size 3 1 s (acc B1 64256 k).length (IV (acc B1 64256 k)) ∧ Grew w wx) (fun _ i _ => 64288 - (intOf i).toNat)
      case atStart => exact ⟨0, by omega, by go_num, by rw [acc_0]; exact Q1.out, QG1.out⟩
      case round =>
        obtain ⟨k, hk, rfl, p0, pg⟩ := hrel
        have P0 : Hid (wr.ownsRow w.heap.size 3 1 u1 (acc B1 64256 k).length (IV (acc B1 64256 k))) := p0
        have PG : Hid (Grew w wr) := pg
        obtain ⟨ua, uc, hu1⟩ := row_one p0
        subst hu1
        clear p0 pg
        by_cases hlt : k < 32
        · have d1 : decide (64256 + (k : Int) < 64288) = true := by simp; omega
          have C := refForm_any (64256 + (k : Int)) (by omega) (by omega) wr
          have hn : (acc B1 64256 k).length ≤ 2000 := by have := acc_le B1 64256 k; omega
          have HY : Hid (hasF (64256 + (k : Int)) = true → acc B1 64256 (k + 1) = (acc B1 64256 k) ++ [64256 + (k : Int)]) := fun h => by exact acc_yes h
          have HNo : Hid (hasF (64256 + (k : Int)) = false → acc B1 64256 (k + 1) = (acc B1 64256 k)) := fun h => by exact acc_no h
          have HH : Hid (hasF (64256 + (k : Int)) = !(formD (64256 + (k : Int))).isEmpty) := rfl
          obtain ⟨F, hF⟩ : ∃ F, formD (64256 + (k : Int)) = F := ⟨_, rfl⟩
          rw [hF] at C HH
          obtain ⟨AA, hAA⟩ : ∃ AA, (acc B1 64256 k) = AA := ⟨_, rfl⟩
          rw [hAA] at P0 hn HY HNo ⊢
          clear hF hAA
          go_wp2_with fail
          refine C.mono ?_
          rintro e w2 ⟨rfl, g2⟩
          have G2 : Hid (Grew w w2) := PG.out.trans g2
          have R2 : w2.ownsRow w.heap.size 3 1 (.slice ua AA.length uc) AA.length (IV AA) := row_turn P0.out (g2.turn []) (by simp)
          have hs2 := G2.out.2
          have hz := BA_nil F
          clear g2 C P0 PG
          cases hF : F.isEmpty with
          | true =>
            rw [hF] at hz HH
            have R3 : Hid (w2.ownsRow w.heap.size 3 1 (.slice ua AA.length uc) AA.length (IV AA)) := R2
            clear hF R2
            go_wp2_with fail
            go_roundw
            case rel =>
              refine ⟨k + 1, by omega, by go_num, ?_, G2.out⟩
              rw [HNo.out HH.out]
              exact R3.out
            case measure => simp [intOf]; omega
          | false =>
            rw [hF] at hz HH
            clear hF
            go_wp2_with (at_builtin; refine wp_app1 rfl (.tmp 23) (.tmp 25) 29 3 1 8 (.int .i64 0) Try.underlying29 (by kernel_rfl) rfl (by decide) (by decide) rfl w.heap.size rfl rfl R2 (by omega) rfl (by intro u hu; simp at hu; subst hu; rfl) (by omega) ?_; intro v' w' hv' ht' hb')
            go_roundw
            case rel =>
              refine ⟨k + 1, by omega, by go_num, ?_, grew_tb G2.out ht' (Nat.le_refl _) (Nat.le_refl _)⟩
              rw [HY.out HH.out, List.length_append, IV, List.map_append]
              exact hv'
            case measure => simp [intOf]; omega
        · have hkE : 64256 + (k : Int) = 64288 := by omega
          have hkn : k = 32 := by omega
          rw [hkE]
          rw [hkn] at P0 ⊢
          clear hkE hkn hlt hk
          have hb2 : (acc B1 64256 32).length ≤ 288 := by have := acc_le B1 64256 32; omega
          obtain ⟨B2, hB2⟩ : ∃ B2, acc B1 64256 32 = B2 := ⟨_, rfl⟩
          have HB2 : Hid (acc B1 64256 32 = B2) := hB2
          rw [hB2] at P0 hb2 ⊢
          clear hB2
          have Q2 : Hid _ := P0.out
          have QG2 : Hid (Grew w wr) := PG.out
          clear P0 PG
          go_wp2_with fail
          go_loopw [1, 4] (fun s i wx => ∃ k : Nat, k ≤ 32 ∧ i = .int .i64 (64512 + (k : Int)) ∧ wx.ownsRow w.heap.size 3 1 s (acc B2 64512 k).length (IV (acc B2 64512 k)) ∧ Grew w wx) (fun _ i _ => 64544 - (intOf i).toNat)
          case atStart => exact ⟨0, by omega, by go_num, by rw [acc_0]; exact Q2.out, QG2.out⟩
          case round =>
            obtain ⟨k, hk, rfl, p0, pg⟩ := hrel
            have P0 : Hid (wr.ownsRow w.heap.size 3 1 u1 (acc B2 64512 k).length (IV (acc B2 64512 k))) := p0
            have PG : Hid (Grew w wr) := pg
            obtain ⟨ua, uc, hu1⟩ := row_one p0
            subst hu1
            clear p0 pg
            by_cases hlt : k < 32
            · have d1 : decide (64512 + (k : Int) < 64544) = true := by simp; omega
              have C := refForm_any (64512 + (k : Int)) (by omega) (by omega) wr
              have hn : (acc B2 64512 k).length ≤ 2000 := by have := acc_le B2 64512 k; omega
              have HY : Hid (hasF (64512 + (k : Int)) = true → acc B2 64512 (k + 1) = (acc B2 64512 k) ++ [64512 + (k : Int)]) := fun h => by exact acc_yes h
              have HNo : Hid (hasF (64512 + (k : Int)) = false → acc B2 64512 (k + 1) = (acc B2 64512 k)) := fun h => by exact acc_no h
              have HH : Hid (hasF (64512 + (k : Int)) = !(formD (64512 + (k : Int))).isEmpty) := rfl
              obtain ⟨F, hF⟩ : ∃ F, formD (64512 + (k : Int)) = F := ⟨_, rfl⟩
              rw [hF] at C HH
              obtain ⟨AA, hAA⟩ : ∃ AA, (acc B2 64512 k) = AA := ⟨_, rfl⟩
              rw [hAA] at P0 hn HY HNo ⊢
              clear hF hAA
              go_wp2_with fail
              refine C.mono ?_
              rintro e w2 ⟨rfl, g2⟩
              have G2 : Hid (Grew w w2) := PG.out.trans g2
              have R2 : w2.ownsRow w.heap.size 3 1 (.slice ua AA.length uc) AA.length (IV AA) := row_turn P0.out (g2.turn []) (by simp)
              have hs2 := G2.out.2
              have hz := BA_nil F
              clear g2 C P0 PG
              cases hF : F.isEmpty with
              | true =>
                rw [hF] at hz HH
                have R3 : Hid (w2.ownsRow w.heap.size 3 1 (.slice ua AA.length uc) AA.length (IV AA)) := R2
                clear hF R2
                go_wp2_with fail
                go_roundw
                case rel =>
                  refine ⟨k + 1, by omega, by go_num, ?_, G2.out⟩
                  rw [HNo.out HH.out]
                  exact R3.out
                case measure => simp [intOf]; omega
              | false =>
                rw [hF] at hz HH
                clear hF
                go_wp2_with (at_builtin; refine wp_app1 rfl (.tmp 34) (.tmp 36) 29 3 1 8 (.int .i64 0) Try.underlying29 (by kernel_rfl) rfl (by decide) (by decide) rfl w.heap.size rfl rfl R2 (by omega) rfl (by intro u hu; simp at hu; subst hu; rfl) (by omega) ?_; intro v' w' hv' ht' hb')
                go_roundw
                case rel =>
                  refine ⟨k + 1, by omega, by go_num, ?_, grew_tb G2.out ht' (Nat.le_refl _) (Nat.le_refl _)⟩
                  rw [HY.out HH.out, List.length_append, IV, List.map_append]
                  exact hv'
                case measure => simp [intOf]; omega
            · have hkE : 64512 + (k : Int) = 64544 := by omega
              have hkn : k = 32 := by omega
              rw [hkE]
              rw [hkn] at P0 ⊢
              clear hkE hkn hlt hk
              go_wp2_with fail
              go_ret
              have e : acc B2 64512 32 = OL := by rw [← HB2.out, ← HB1.out, acc_all]
              have P3 := P0.out
              rw [e] at P3 ⊢
              exact ⟨_, rfl, P3, PG.out⟩
/- The document's Op: the first of the list whose name it is. -/
theorem find_op {s : List UInt8} {l : List Int} {j : Nat} {n : Int} (h : OL[j]? = some n) (hn : nameD n = s) (hj : ∀ x ∈ OL.take j, nameD x ≠ s) : opP s = some n := by
  unfold OL at h
  rw [List.getElem?_map] at h
  cases hp : PL[j]? with
  | none => rw [hp] at h; cases h
  | some p =>
    rw [hp] at h
    simp only [Option.map_some, Option.some.injEq] at h
    obtain ⟨h', he⟩ := List.getElem?_eq_some_iff.1 hp
    have hps : p.2 = s := by rw [← PL_name p (List.mem_of_getElem? hp), names_same, h]; exact hn
    refine find_hit (a := PL.take j) (b := PL.drop (j + 1)) ?_ ?_
    · conv => lhs; rw [← List.take_append_drop j PL, List.drop_eq_getElem_cons h', he]
      rw [← hps, ← h]
    · intro q hq hqs
      refine hj q.1 ?_ ?_
      · unfold OL
        rw [← List.map_take]
        exact List.mem_map.2 ⟨q, hq, rfl⟩
      · rw [← names_same, PL_name q (List.mem_of_mem_take hq)]
        exact hqs
theorem find_op_no {s : List UInt8} (hj : ∀ x ∈ OL, nameD x ≠ s) : opP s = none := by
  refine find_no ?_
  intro q hq hqs
  refine hj q.1 (List.mem_map.2 ⟨q, hq, rfl⟩) ?_
  rw [← names_same, PL_name q hq]
  exact hqs
theorem OL_bd {j : Nat} {n : Int} (h : OL[j]? = some n) : 0 ≤ n ∧ n ≤ 70000 := by
  have := OL_in n (List.mem_of_getElem? h)
  omega
def opW (o : Option Int) : Int := match o with
  | some n => n
  | none => -1
set_option maxRecDepth 100000 in
set_option maxHeartbeats 2000000 in
theorem refOp_any (s : List UInt8) (w : World) :
    Calls Try.prog 10 #[.string (BA s)] w fun e w' => e = .returned (.int .i64 (opW (opP s))) ∧ Grew w w' := by
  go_enter Try.func10, Try.ntmps10
  go_wp2_with fail
  refine (refOps_any _).mono ?_
  rintro e w1 ⟨v, rfl, hv, g1⟩
  rw [OL_len] at hv
  obtain ⟨g, c, rfl, hc1, hc2, hg⟩ := row_at hv (by omega)
  have V1 : Hid (w1.ownsRow w.heap.size 3 1 (.slice (some ⟨g, 0, none⟩) 243 c) 243 (IV OL)) := hv
  have G1 : Hid (Grew w w1) := g1
  clear hv g1
  go_wp2_with fail
  go_loopw [4] (fun i wx => ∃ j : Nat, j ≤ 243 ∧ i = .int .i64 j ∧ (∀ x ∈ OL.take j, nameD x ≠ s) ∧ Grew w1 wx) (fun i _ => 243 - (intOf i).toNat)
  case atStart => exact ⟨0, by omega, rfl, by simp, Grew.refl w1⟩
  case round =>
    obtain ⟨j, hj, rfl, hno, pg⟩ := hrel
    have HNO : Hid (∀ x ∈ OL.take j, nameD x ≠ s) := hno
    have PG : Hid (Grew w1 wr) := pg
    clear hno
    by_cases hlt : j < 243
    · obtain ⟨n, hn⟩ : ∃ n, OL[j]? = some n := ⟨OL[j]'(by rw [OL_len]; exact hlt), List.getElem?_eq_getElem (by rw [OL_len]; exact hlt)⟩
      have HN : Hid (OL[j]? = some n) := hn
      obtain ⟨b1, b2⟩ := OL_bd hn
      have q0 : wr.cell? ⟨g, j, none⟩ = some (.int .i64 n) := by
        rw [pg.1.cell hg, V1.out.cellAt j (by omega)]
        unfold IV
        rw [List.getElem?_map, hn]
        rfl
      have CN : Hid (Calls Try.prog 6 #[.int .i64 n] wr fun e w' => e = .returned (.string (BA (nameD n))) ∧ Grew wr w') := refName_any n (by omega) (by omega) wr
      have hgr : g < wr.heap.size := Nat.lt_of_lt_of_le hg pg.2
      have d1 : decide ((j : Int) < 243) = true := by simp; omega
      clear hn pg
      go_wp2_with fail
      refine CN.out.mono ?_
      rintro e w2 ⟨rfl, g2⟩
      have G2 : Hid (Grew w1 w2) := PG.out.trans g2
      have q2 : w2.cell? ⟨g, j, none⟩ = some (.int .i64 n) := by rw [g2.1.cell hgr]; exact q0
      have heq := BA_eq (nameD n) s
      clear g2 CN q0
      by_cases hm : nameD n = s
      · have hd : ((BA (nameD n)).toList == (BA s).toList) = true := by rw [heq]; simp [hm]
        have HM : Hid (nameD n = s) := hm
        clear heq hm
        go_wp2_with fail
        go_ret
        rw [find_op (l := OL) HN.out HM.out HNO.out]
        exact ⟨rfl, G1.out.trans G2.out⟩
      · have hd : ((BA (nameD n)).toList == (BA s).toList) = false := by rw [heq]; simp [hm]
        clear heq
        go_wp2_with fail
        go_roundw
        case rel =>
          refine ⟨j + 1, by omega, by go_num, fun x hx => ?_, G2.out⟩
          obtain ⟨h', he⟩ := List.getElem?_eq_some_iff.1 HN.out
          rw [List.take_succ_eq_append_getElem h', he] at hx
          rcases List.mem_append.1 hx with h | h
          · exact HNO.out x h
          · simp at h
            subst h
            exact hm
        case measure => simp [intOf]; omega
    · have hjn : j = 243 := by omega
      have HE : Hid (opP s = none) := by
        refine find_op_no ?_
        have := HNO.out
        rw [hjn, ← OL_len, List.take_length] at this
        exact this
      have d1 : decide ((j : Int) < 243) = false := by simp; omega
      clear hjn pg
      go_wp2_with fail
      go_ret
      rw [HE.out]
      exact ⟨rfl, G1.out.trans PG.out⟩
theorem name_add : nameP 106 = [105, 51, 50, 46, 97, 100, 100] := by decide +kernel
set_option maxRecDepth 100000 in
theorem awake_any (w : World) : Calls Try.prog 11 #[] w fun e w' => e = .returned (.bool true) ∧ Grew w w' := by
  have C := name_any 106 (by omega) (by omega) w
  rw [name_add] at C
  have hd : ((BA [105, 51, 50, 46, 97, 100, 100]).toList == [105, 51, 50, 46, 97, 100, 100]) = true := by rw [BA_toList]; rfl
  generalize BA [105, 51, 50, 46, 97, 100, 100] = S at *
  go_enter Try.func11, Try.ntmps11
  go_wp2_with fail
  refine C.mono ?_
  rintro e w1 ⟨rfl, g1⟩
  have G1 : Hid (Grew w w1) := g1
  clear g1 C
  go_wp2_with fail
  go_ret
  exact ⟨rfl, G1.out⟩
end Go.Proofs.Ytjfiggkjdbnjeaa
