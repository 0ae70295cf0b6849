/-
  Code's Expand; no statement is proved here.
-/
import Derived.Test.YtfedijclhlchbaaGreatDoorKex
namespace Go.Proofs.YtfedijclhlchbaaGreatDoor
open Go.RowKit
set_option linter.unusedVariables false
set_option linter.unusedSimpArgs false
set_option linter.constructorNameAsVariable false

/- The types one by one, as a row of the call's own. -/
def ExpK (x : List LC) (w : World) (en : Ending) (w' : World) : Prop := ∃ rv, en = .returned (.tuple #[rv, .int .i64 0]) ∧ RowV w.heap.size w' rv (expL x) ∧ Grew w w'
theorem expL_at {x : List LC} {i : Nat} {y : LC} (h : x[i]? = some y) : expL (x.take (i + 1)) = expL (x.take i) ++ List.replicate y.count.toNat y.ty := by
  rw [take_get h, expL_snoc]
theorem replicate_next {α : Type} (k : Nat) (a : α) (X : List α) : X ++ List.replicate (k + 1) a = (X ++ List.replicate k a) ++ [a] := by
  rw [List.append_assoc, ← List.replicate_succ']
theorem row_grewX {w w' : World} {B : Nat} {e : TypeId} {k : Nat} {v : Value} {n : Nat} {cs : List Value} (h : w.ownsRow B e k v n cs) (g : Grew w w') : w'.ownsRow B e k v n cs := row_turn h (g.turn []) (by simp)
set_option maxRecDepth 100000 in
set_option maxHeartbeats 2000000 in
theorem expand_f {w : World} {b1 o1 vc : Nat} {x : List LC} (h : ∀ i y, x[i]? = some y → EL w b1 (o1 + i * 4) y) (hx : Runs x) (hll : LL w (.slice (some ⟨b1, o1, none⟩) x.length vc) x) :
    Calls Tryz.prog 7 #[.slice (some ⟨b1, o1, none⟩) x.length vc] w (ExpK x w) := by
  have CT := total_any hll hx
  have H : Hid (∀ i y, x[i]? = some y → EL w b1 (o1 + i * 4) y) := h
  have HX : Hid (∀ y ∈ x, 0 ≤ y.count) := hx.1
  have HS : Hid (sumL x ≤ 50000) := hx.2.1
  have hlen := hx.2.2
  obtain ⟨T, hT⟩ : ∃ T : Nat, sumL x = T := ⟨(sumL x).toNat, by have := sumL_nonneg x hx.1; omega⟩
  have hT2 : T ≤ 50000 := by have := HS.out; omega
  rw [hT] at CT
  clear h hx hll
  go_enter Tryz.func7, Tryz.ntmps7
  go_wp2_with fail
  refine CT.mono ?_
  rintro en w1 ⟨rfl, g1⟩
  have G1 : Hid (Grew w w1) := g1
  clear g1 CT hT
  obtain ⟨i0, hi0, hz0, hz1, hz2⟩ := info_parts infoV
  go_wp2_with (at_make; refine wpList_make_own _ rfl _ _ 30 rfl w.heap.size 36 i0 _ 3 Tryz.underlying30 hi0 hz0 hz1 .i64 .i64 _ T rfl rfl rfl (by rw [hz2]; omega) (by unfold maxLen; omega) G1.out.2 ?_; intro w2 hO2 hg2)
  have G2 : Hid (Grew w w2) := grown_grew hg2 G1.out
  have R2 : Hid (RowV w.heap.size w2 (.slice (some ⟨w1.heap.size, 0, none⟩) 0 T) []) := hO2
  clear hg2 hO2 hi0 hz0 hz1 hz2
  generalize (Value.slice (some ⟨w1.heap.size, 0, none⟩) 0 T) = tv0 at *
  go_loopw [6, 20] (fun v_ i_ w' => ∃ (i : Nat), i_ = .int .i64 (i : Int) ∧ i ≤ x.length ∧ Hid (RowV w.heap.size w' v_ (expL (x.take i))) ∧ Hid (Grew w w')) (fun _ i_ _ => x.length - (intOf i_).toNat)
  case atStart => exact ⟨0, rfl, Nat.zero_le _, by simpa [Hid, expL] using R2.out, G2⟩
  case round =>
    clear R2 G2
    rename_i v_ i_
    obtain ⟨i, rfl, hi, HR, HG⟩ := hrel
    obtain ⟨aa, cc, hv⟩ := row_one HR.out
    subst hv
    by_cases hlt : i < x.length
    · obtain ⟨y, hy⟩ : ∃ y, x[i]? = some y := ⟨_, List.getElem?_eq_getElem hlt⟩
      obtain ⟨x0, x1, x2, x3⟩ := (H.out i y hy).grew HG.out
      have h0 := HX.out y (List.mem_of_getElem? hy)
      have h1 := sumL_at hy
      have h2 := (sumL_take HX.out (i + 1)).2
      have h3 := expL_at hy
      have h4 := expL_len (x.take i) (fun z hz => HX.out z (List.mem_of_mem_take hz))
      have hs := HS.out
      obtain ⟨cn, ⟨tn, tz, th⟩⟩ := y
      simp only at x0 x1 x2 x3 h0 h1 h3
      obtain ⟨c, rfl⟩ : ∃ c : Nat, cn = c := ⟨cn.toNat, by omega⟩
      rw [Int.toNat_natCast] at h3
      have hcl : (expL (x.take i)).length + c ≤ 50000 := by omega
      have H3 : Hid (expL (x.take (i + 1)) = expL (x.take i) ++ List.replicate c ⟨tn, tz, th⟩) := h3
      have d1 : decide ((i : Int) < (x.length : Int)) = true := by simp; omega
      have d2 : decide (i < x.length) = true := by simp; omega
      have i2 : (i : Int) < (x.length : Int) := by omega
      clear h0 h1 h2 h3 h4 hs
      generalize expL (x.take i) = X at *
      go_wp2_with fail
      have G5 : Hid (Grew w (wr.alloc (.cells #[.int .u32 (c : Int), .int .i64 tn, .bool tz, .int .i64 th] 50))) := HG.out.alloc _
      have B5 : Hid ((wr.alloc (.cells #[.int .u32 (c : Int), .int .i64 tn, .bool tz, .int .i64 th] 50)).heap[wr.heap.size]? = some (.cells #[.int .u32 (c : Int), .int .i64 tn, .bool tz, .int .i64 th] 50 (0, 0))) := heap_alloc_last _ _
      have R5 : Hid (RowV w.heap.size (wr.alloc (.cells #[.int .u32 (c : Int), .int .i64 tn, .bool tz, .int .i64 th] 50)) (.slice aa X.length cc) X) := row_grewX HR.out ((Grew.refl _).alloc _)
      generalize (wr.alloc (.cells #[.int .u32 (c : Int), .int .i64 tn, .bool tz, .int .i64 th] 50)) = w5 at *
      clear HR HG x0 x1 x2 x3
      generalize wr.heap.size = rb at *
      go_loopw [6, 26] (fun v_ k_ w' => ∃ (k : Nat), k_ = .int .u32 (k : Int) ∧ k ≤ c ∧ Hid (RowV w.heap.size w' v_ (X ++ List.replicate k ⟨tn, tz, th⟩)) ∧ Hid (w'.heap[rb]? = some (.cells #[.int .u32 (c : Int), .int .i64 tn, .bool tz, .int .i64 th] 50 (0, 0))) ∧ Hid (Grew w w')) (fun _ k_ _ => c - (intOf k_).toNat)
      case atStart => exact ⟨0, rfl, Nat.zero_le _, by simpa [Hid] using R5.out, B5, G5⟩
      case round =>
        clear R5 B5 G5
        obtain ⟨k, rfl, hk, HR, HB, HG⟩ := hrel
        obtain ⟨a6, c6, hv⟩ := row_one HR.out
        subst hv
        obtain ⟨w6, hw6⟩ : ∃ w6, w6 = wr := ⟨_, rfl⟩
        rw [← hw6] at HB HR HG ⊢
        clear hw6
        have hlx : (X ++ List.replicate k (⟨tn, tz, th⟩ : VT)).length = X.length + k := by simp
        by_cases hkc : k < c
        · have d5 : decide ((k : Int) < (c : Int)) = true := by simp; omega
          have c1 := cell_of HB.out 1
          have c2 := cell_of HB.out 2
          have c3 := cell_of HB.out 3
          simp at c1 c2 c3
          have hB6 : w.heap.size ≤ w6.heap.size := HG.out.2
          have HRo := HR.out
          unfold RowV at HRo
          rw [hlx] at HRo ⊢
          have HR6 : Hid (w6.ownsRow w.heap.size 36 3 (.slice a6 (X.length + k) c6) (X.length + k) ((X ++ List.replicate k (⟨tn, tz, th⟩ : VT)).flatMap VT.c)) := HRo
          clear HRo HR
          go_wp2_with (at_builtin; refine wp_app1 (v := .slice a6 (X.length + k) c6) (n := X.length + k) (cs := (X ++ List.replicate k (⟨tn, tz, th⟩ : VT)).flatMap VT.c) (B := w.heap.size) rfl _ _ 30 36 3 24 _ Tryz.underlying30 infoV rfl (by decide) (by decide) rfl w.heap.size rfl rfl HR6.out hB6 rfl (by simp [Value.oneCell']) (by omega) ?_; intro v7 w7 hO7 hT7 hG7)
          have G7 : Hid (Grew w w7) := hT7.grew HG.out (Nat.le_refl _)
          have B7 : Hid (w7.heap[rb]? = some (.cells #[.int .u32 (c : Int), .int .i64 tn, .bool tz, .int .i64 th] 50 (0, 0))) := (hG7 rb (lt_of_obj HB.out) (row_not HR6.out HB.out (by decide))).trans HB.out
          have R7 : Hid (RowV w.heap.size w7 v7 (X ++ List.replicate (k + 1) ⟨tn, tz, th⟩)) := by
            rw [replicate_next]
            exact RowV.snoc (a := (⟨tn, tz, th⟩ : VT)) (by rw [hlx]; exact hO7)
          go_roundw
          case rel => exact ⟨k + 1, by go_num, by omega, R7, B7, G7⟩
          case measure => simp [intOf]; omega
        · have d5 : decide ((k : Int) < (c : Int)) = false := by simp; omega
          obtain rfl : k = c := by omega
          go_wp2_with fail
          go_roundw
          case rel => exact ⟨i + 1, by go_num, by omega, by rw [H3.out]; exact HR, HG⟩
          case measure => simp [intOf]; omega
    · have d1 : decide ((i : Int) < (x.length : Int)) = false := by simp; omega
      have HR2 : Hid (RowV w.heap.size wr (.slice aa (expL (x.take i)).length cc) (expL x)) := by
        have := HR.out
        rwa [show x.take i = x from List.take_of_length_le (by omega)] at this ⊢
      clear HR
      generalize (expL (x.take i)).length = len at *
      go_wp2_with fail
      refine bodyPost_ret (v := .tuple #[.slice aa len cc, .int .i64 0]) (by simp [results, Tryz.results7, go_sem]) rfl ?_
      exact ⟨_, rfl, HR2.out, HG.out⟩
set_option maxRecDepth 100000 in
theorem expand_e {w : World} {va : Option Addr} {vc : Nat} : Calls Tryz.prog 7 #[.slice va 0 vc] w (ExpK [] w) := by
  go_enter Tryz.func7, Tryz.ntmps7
  go_wp2_with fail
  refine total_e.mono ?_
  rintro en w1 ⟨rfl, g1⟩
  have G1 : Hid (Grew w w1) := g1
  clear g1
  obtain ⟨i0, hi0, hz0, hz1, hz2⟩ := info_parts infoV
  go_wp2_with (at_make; refine wpList_make_own _ rfl _ _ 30 rfl w.heap.size 36 i0 _ 3 Tryz.underlying30 hi0 hz0 hz1 .i64 .i64 _ 0 rfl rfl rfl (by rw [hz2]; omega) (by unfold maxLen; omega) G1.out.2 ?_; intro w2 hO2 hg2)
  have G2 : Hid (Grew w w2) := grown_grew hg2 G1.out
  have R2 : Hid (RowV w.heap.size w2 (.slice (some ⟨w1.heap.size, 0, none⟩) 0 0) []) := hO2
  clear hg2 hO2 hi0 hz0 hz1 hz2
  go_loopw [6, 20] (fun v_ i_ w' => i_ = .int .i64 0 ∧ v_ = .slice (some ⟨w1.heap.size, 0, none⟩) 0 0 ∧ Hid (RowV w.heap.size w' v_ []) ∧ Hid (Grew w w')) (fun _ _ _ => 0)
  case atStart => exact ⟨rfl, rfl, R2, G2⟩
  case round =>
    clear R2 G2
    obtain ⟨rfl, rfl, HR, HG⟩ := hrel
    go_wp2_with fail
    refine bodyPost_ret (v := .tuple #[.slice (some ⟨w1.heap.size, 0, none⟩) 0 0, .int .i64 0]) (by simp [results, Tryz.results7, go_sem]) rfl ?_
    exact ⟨_, rfl, HR.out, HG.out⟩
theorem expand_any {w : World} {v : Value} {x : List LC} (h : LL w v x) (hx : Runs x) : Calls Tryz.prog 7 #[v] w (ExpK x w) := by
  have h' := h
  obtain ⟨va, vc, hv, hle, hmx, hz, he⟩ := h
  subst hv
  rcases he with rfl | ⟨b, off, rfl, hc⟩
  · exact expand_e
  · exact expand_f hc hx h'
end Go.Proofs.YtfedijclhlchbaaGreatDoor
