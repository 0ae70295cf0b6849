/-
  The document's Expand; no statement is proved here.
-/
import Derived.Test.YtfedijclhlchbaaGreatDoorKep
namespace Go.Proofs.YtfedijclhlchbaaGreatDoor
open Go.RowKit
set_option linter.unusedVariables false
set_option linter.unusedSimpArgs false
set_option linter.constructorNameAsVariable false

set_option maxRecDepth 100000 in
set_option maxHeartbeats 2000000 in
theorem dexpand_f {w : World} {b1 o1 vc : Nat} {x : List LC} (h : ∀ i y, x[i]? = some y → EL w b1 (o1 + i * 4) y) (hx : Runs x) :
    Calls Tryz.prog 8 #[.slice (some ⟨b1, o1, none⟩) x.length vc] w (ExpK x w) := by
  have H : Hid (∀ i y, x[i]? = some y → EL w b1 (o1 + i * 4) y) := h
  have HX : Hid (∀ y ∈ x, 0 ≤ y.count) := hx.1
  have HS : Hid (sumL x ≤ 50000) := hx.2.1
  have hlen := hx.2.2
  clear h hx
  go_enter Tryz.func8, Tryz.ntmps8
  go_wp2_with fail
  go_loopw [4, 5] (fun n_ i_ w' => ∃ (i s : Nat), i_ = .int .i64 (i : Int) ∧ n_ = .int .u64 (s : Int) ∧ i ≤ x.length ∧ s ≤ 50000 ∧ Hid ((s : Int) = sumL (x.take i)) ∧ Hid (Grew w w')) (fun _ i_ _ => x.length - (intOf i_).toNat)
  case atStart => exact ⟨0, 0, rfl, rfl, by omega, by omega, by simp [Hid, sumL], Grew.refl w⟩
  case round =>
    obtain ⟨i, s, rfl, rfl, hi, hs5, HL, HG⟩ := hrel
    obtain ⟨w4, hw4⟩ : ∃ w4, w4 = wr := ⟨_, rfl⟩
    rw [← hw4] at HG ⊢
    clear hw4
    by_cases hlt : i < x.length
    · obtain ⟨y, hy⟩ : ∃ y, x[i]? = some y := ⟨_, List.getElem?_eq_getElem hlt⟩
      obtain ⟨x0, x1, x2, x3⟩ := (H.out i y hy).grew HG.out
      have h0 := HX.out y (List.mem_of_getElem? hy)
      have h1 := sumL_at hy
      have h2 := (sumL_take HX.out (i + 1)).2
      have hs := HS.out
      have hl2 := HL.out
      obtain ⟨cn, ⟨tn, tz, th⟩⟩ := y
      simp only at x0 x1 x2 x3 h0 h1
      obtain ⟨c, rfl⟩ : ∃ c : Nat, cn = c := ⟨cn.toNat, by omega⟩
      have hsc : s + c ≤ 50000 := by omega
      have HL2 : Hid (((s + c : Nat) : Int) = sumL (x.take (i + 1))) := by show ((s + c : Nat) : Int) = _; omega
      have hcv : IntKind.u64.wrap (c : Int) = (c : Int) := by rw [IntKind.wrap_u64]; omega
      have hadd : IntKind.u64.wrap ((s : Int) + (c : Int)) = ((s + c : Nat) : Int) := by rw [IntKind.wrap_u64]; omega
      have d1 : decide ((i : Int) < (x.length : Int)) = true := by simp; omega
      have d2 : decide (i < x.length) = true := by simp; omega
      have d5 : decide (50000 < s + c) = false := by simp; omega
      have d6 : decide ((50000 : Int) < (s : Int) + (c : Int)) = false := by simp; omega
      have i2 : (i : Int) < (x.length : Int) := by omega
      clear hl2 h0 h1 h2 HL hs
      go_wp2_with fail
      go_roundw
      case rel => exact ⟨i + 1, s + c, by go_num, by first | rfl | rw [hadd], by omega, by omega, HL2, HG⟩
      case measure => simp [intOf]; omega
    · have d1 : decide ((i : Int) < (x.length : Int)) = false := by simp; omega
      clear HL hs5
      go_wp2_with fail
      go_loopw [6, 7] (fun v_ i_ w' => ∃ (i : Nat), i_ = .int .i64 (i : Int) ∧ i ≤ x.length ∧ Hid (RowV w.heap.size w' v_ (expL (x.take i))) ∧ Hid (Grew w w')) (fun _ i_ _ => x.length - (intOf i_).toNat)
      case atStart => exact ⟨0, rfl, Nat.zero_le _, by simpa [Hid, expL] using RowV.nil _ _, HG⟩
      case round =>
        clear HG d1 hlt hi
        obtain ⟨i, rfl, hi, HR, HG⟩ := hrel
        obtain ⟨aa, cc, hv⟩ := row_one HR.out
        subst hv
        obtain ⟨w5, hw5⟩ : ∃ w5, w5 = wr := ⟨_, rfl⟩
        rw [← hw5] at HG HR ⊢
        clear hw5
        by_cases hlt : i < x.length
        · obtain ⟨y, hy⟩ : ∃ y, x[i]? = some y := ⟨_, List.getElem?_eq_getElem hlt⟩
          have HE : Hid (EL w b1 (o1 + i * 4) y) := H.out i y hy
          have h0 := HX.out y (List.mem_of_getElem? hy)
          have h1 := sumL_at hy
          have h2 := (sumL_take HX.out (i + 1)).2
          have h3 := expL_at hy
          have h4 := expL_len (x.take i) (fun z hz => HX.out z (List.mem_of_mem_take hz))
          have hs := HS.out
          obtain ⟨cn, ⟨tn, tz, th⟩⟩ := y
          simp only at h0 h1 h3
          obtain ⟨c, rfl⟩ : ∃ c : Nat, cn = c := ⟨cn.toNat, by omega⟩
          rw [Int.toNat_natCast] at h3
          have hcl : (expL (x.take i)).length + c ≤ 50000 := by omega
          have H3 : Hid (expL (x.take (i + 1)) = expL (x.take i) ++ List.replicate c ⟨tn, tz, th⟩) := h3
          have d1 : decide ((i : Int) < (x.length : Int)) = true := by simp; omega
          have d2 : decide (i < x.length) = true := by simp; omega
          have i2 : (i : Int) < (x.length : Int) := by omega
          clear h0 h1 h2 h3 h4 hs
          generalize expL (x.take i) = X at *
          go_wp2_with fail
          go_loopw [6, 8] (fun v_ k_ w' => ∃ (k : Nat), k_ = .int .u32 (k : Int) ∧ k ≤ c ∧ Hid (RowV w.heap.size w' v_ (X ++ List.replicate k ⟨tn, tz, th⟩)) ∧ Hid (Grew w w')) (fun _ k_ _ => c - (intOf k_).toNat)
          case atStart => exact ⟨0, rfl, Nat.zero_le _, by simpa [Hid] using HR.out, HG⟩
          case round =>
            clear HR HG
            obtain ⟨k, rfl, hk, HR, HG⟩ := hrel
            obtain ⟨a6, c6, hv⟩ := row_one HR.out
            subst hv
            obtain ⟨w6, hw6⟩ : ∃ w6, w6 = wr := ⟨_, rfl⟩
            rw [← hw6] at HR HG ⊢
            clear hw6
            obtain ⟨x0, x1, x2, x3⟩ := HE.out.grew HG.out
            simp only at x0 x1 x2 x3
            have hlx : (X ++ List.replicate k (⟨tn, tz, th⟩ : VT)).length = X.length + k := by simp
            by_cases hkc : k < c
            · have d5 : decide ((k : Int) < (c : Int)) = true := by simp; omega
              have hB6 : w.heap.size ≤ w6.heap.size := HG.out.2
              have HRo := HR.out
              unfold RowV at HRo
              rw [hlx] at HRo ⊢
              have HR6 : Hid (w6.ownsRow w.heap.size 36 3 (.slice a6 (X.length + k) c6) (X.length + k) ((X ++ List.replicate k (⟨tn, tz, th⟩ : VT)).flatMap VT.c)) := HRo
              clear HRo HR
              go_wp2_with (at_builtin; refine wp_app1 (v := .slice a6 (X.length + k) c6) (n := X.length + k) (cs := (X ++ List.replicate k (⟨tn, tz, th⟩ : VT)).flatMap VT.c) (B := w.heap.size) rfl _ _ 30 36 3 24 _ Tryz.underlying30 infoV rfl (by decide) (by decide) rfl w.heap.size rfl rfl HR6.out hB6 rfl (by simp [Value.oneCell']) (by omega) ?_; intro v7 w7 hO7 hT7 hG7)
              have G7 : Hid (Grew w w7) := hT7.grew HG.out (Nat.le_refl _)
              have R7 : Hid (RowV w.heap.size w7 v7 (X ++ List.replicate (k + 1) ⟨tn, tz, th⟩)) := by
                rw [replicate_next]
                exact RowV.snoc (a := (⟨tn, tz, th⟩ : VT)) (by rw [hlx]; exact hO7)
              go_roundw
              case rel => exact ⟨k + 1, by go_num, by omega, R7, G7⟩
              case measure => simp [intOf]; omega
            · have d5 : decide ((k : Int) < (c : Int)) = false := by simp; omega
              obtain rfl : k = c := by omega
              go_wp2_with fail
              go_roundw
              case rel => exact ⟨i + 1, by go_num, by omega, by rw [H3.out]; exact HR, HG⟩
              case measure => simp [intOf]; omega
        · have d1 : decide ((i : Int) < (x.length : Int)) = false := by simp; omega
          have HR2 : Hid (RowV w.heap.size w5 (.slice aa (expL (x.take i)).length cc) (expL x)) := by
            have := HR.out
            rwa [show x.take i = x from List.take_of_length_le (by omega)] at this ⊢
          clear HR
          generalize (expL (x.take i)).length = len at *
          go_wp2_with fail
          refine bodyPost_ret (v := .tuple #[.slice aa len cc, .int .i64 0]) (by simp [results, Tryz.results8, go_sem]) rfl ?_
          exact ⟨_, rfl, HR2.out, HG.out⟩
set_option maxRecDepth 100000 in
theorem dexpand_e {w : World} {va : Option Addr} {vc : Nat} : Calls Tryz.prog 8 #[.slice va 0 vc] w (ExpK [] w) := by
  go_enter Tryz.func8, Tryz.ntmps8
  go_wp2_with fail
  go_loopw [4, 5] (fun n_ i_ w' => i_ = .int .i64 0 ∧ n_ = .int .u64 0 ∧ Hid (Grew w w')) (fun _ _ _ => 0)
  case atStart => exact ⟨rfl, rfl, Grew.refl w⟩
  case round =>
    obtain ⟨rfl, rfl, HG⟩ := hrel
    go_wp2_with fail
    go_loopw [6, 7] (fun v_ i_ w' => i_ = .int .i64 0 ∧ v_ = .slice none 0 0 ∧ Hid (Grew w w')) (fun _ _ _ => 0)
    case atStart => exact ⟨rfl, rfl, HG⟩
    case round =>
      clear HG
      obtain ⟨rfl, rfl, HG⟩ := hrel
      go_wp2_with fail
      refine bodyPost_ret (v := .tuple #[.slice none 0 0, .int .i64 0]) (by simp [results, Tryz.results8, go_sem]) rfl ?_
      exact ⟨_, rfl, RowV.nil _ _, HG.out⟩
theorem dexpand_any {w : World} {v : Value} {x : List LC} (h : LL w v x) (hx : Runs x) : Calls Tryz.prog 8 #[v] w (ExpK x w) := by
  obtain ⟨va, vc, hv, hle, hmx, hz, he⟩ := h
  subst hv
  rcases he with rfl | ⟨b, off, rfl, hc⟩
  · exact dexpand_e
  · exact dexpand_f hc hx
end Go.Proofs.YtfedijclhlchbaaGreatDoor
