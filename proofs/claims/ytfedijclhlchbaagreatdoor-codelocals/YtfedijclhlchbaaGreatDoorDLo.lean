/-
  The document's Locals; no statement is proved here.
-/
import Derived.Test.YtfedijclhlchbaaGreatDoorKlo
import Derived.Test.YtfedijclhlchbaaGreatDoorDTop
import Derived.Test.YtfedijclhlchbaaGreatDoorLsK
namespace Go.Proofs.YtfedijclhlchbaaGreatDoor
open Go.RowKit
set_option linter.unusedVariables false
set_option linter.unusedSimpArgs false
set_option linter.constructorNameAsVariable false

set_option maxRecDepth 100000 in
set_option maxHeartbeats 2000000 in
theorem dlocals_in (v : Value) (l : List Int) (p : Nat) (w : World) (hR : Reads w v l) (hB : Byt l) (hl : l.length ≤ 140737488351232) (hp : p ≤ l.length) :
    Calls Tryz.prog 5 #[v, .int .i64 (p : Int)] w (TopK (topOf (localsR l p)) w) := by
  have CN : Hid (∀ X (q : Nat), Grew w X → Calls Tryz.prog 12 #[v, .int .i64 (q : Int), .int .i64 (l.length : Int), .int .i64 32, .bool false] X fun e w' => e = .returned (.tuple #[.int .u64 (rd 32 false l q l.length).1, .int .i64 (rd 32 false l q l.length).2.1, .int .i64 (rd 32 false l q l.length).2.2]) ∧ w' = X) := fun X q g => num32u_any v l q l.length X (g.reads hR) hB hl
  have CV : Hid (∀ X (q : Nat), Grew w X → Calls Tryz.prog 13 #[v, .int .i64 (q : Int)] X fun en w' => en = .returned (ansV (topR (valR l) ⟨0, false, 0⟩ l (q : Int))) ∧ Grew X w') := fun X q g => dtopV_any v l q X (g.reads hR) hB hl
  have HB : Hid (Byt l) := hB
  obtain ⟨sa, cap, rfl⟩ := hR.len
  have d1 : decide ((p : Int) < 0) = false := by simp
  have d2 : decide ((l.length : Int) < (p : Int)) = false := by simp; omega
  clear hR hB
  unfold localsR
  rcases numR_ways (b := 32) (sg := false) hp with ⟨n, q0, hr, hq1, hq2, hx⟩ | ⟨n, f, e, hr, hq1, hq2, hq3, hx⟩
  · have hnb := rd_32 HB.out hr
    rw [hx]
    have C0 := CN.out w p (Grew.refl w)
    rw [hr] at C0
    simp only at C0
    unfold limR
    simp only
    clear hx hr
    by_cases h3 : 50000 < n
    · rw [if_pos h3]
      have d3 : decide (50000 < n) = true := by simpa using h3
      simp only [thenR, topOf]
      go_enter Tryz.func5, Tryz.ntmps5
      go_wp2_with fail
      refine C0.mono ?_
      rintro en w1 ⟨rfl, h1⟩
      obtain rfl := h1.symm
      clear C0
      go_wp2_with fail
      go_ret3
      exact ⟨_, rfl, RowL.nil _ _, Grew.refl _⟩
    · rw [if_neg h3]
      have d3 : decide (50000 < n) = false := by simpa using h3
      obtain ⟨N, rfl⟩ : ∃ N : Nat, n = N := ⟨n.toNat, by omega⟩
      simp only [thenR, Int.toNat_natCast]
      obtain ⟨R, hR⟩ : ∃ R, R = runsR l N 50000 [] q0 := ⟨_, rfl⟩
      rw [← hR]
      have HR : Hid (R = runsR l N 50000 [] q0) := hR
      have hN : N ≤ 50000 := by omega
      clear hR hnb
      go_enter Tryz.func5, Tryz.ntmps5
      go_wp2_with fail
      refine C0.mono ?_
      rintro en w1 ⟨rfl, h1⟩
      obtain rfl := h1.symm
      clear C0
      go_wp2_with fail
      go_loopw [1, 10, 11, 12] (fun at_ all_ v_ i_ wr => ∃ (k : Nat) (acc : List LC) (q sum : Nat), at_ = .int .i64 (q : Int) ∧ all_ = .int .u64 (sum : Int) ∧ i_ = .int .u64 (k : Int) ∧ k ≤ N ∧ sum ≤ 50000 ∧ q ≤ l.length ∧ acc.length = k ∧ Hid (RowL w.heap.size wr v_ acc) ∧ Hid (Grew w wr) ∧ Hid (R = runsR l (N - k) (50000 - (sum : Int)) acc q)) (fun _ _ _ i_ _ => N - (intOf i_).toNat)
      case atStart => exact ⟨0, [], q0, 0, rfl, rfl, rfl, by omega, by omega, hq2, rfl, RowL.nil _ _, Grew.refl _, HR⟩
      case round =>
        obtain ⟨k, acc, q, sum, rfl, rfl, rfl, hk, hsum, hql, hacc, WR, GR, HE⟩ := hrel
        subst hacc
        obtain ⟨aa, cc, hv⟩ := row_one WR.out
        subst hv
        by_cases hkn : acc.length < N
        · have d4 : decide ((acc.length : Int) < (N : Int)) = true := by simp; omega
          have d4' : decide (acc.length < N) = true := by simp; omega
          have HE2 := HE.out
          rw [show N - acc.length = (N - (acc.length + 1)) + 1 by omega, runsR] at HE2
          have C1 := CN.out wr q GR.out
          rcases numR_ways (b := 32) (sg := false) hql with ⟨c, q1, hr, hr1, hr2, hx⟩ | ⟨c, f, e, hr, hr1, hr2, hr3, hx⟩
          · have hcb := rd_32 HB.out hr
            rw [hr] at C1
            rw [hx] at HE2
            simp only at C1
            simp only [limR] at HE2
            obtain ⟨c, rfl⟩ : ∃ c' : Nat, c = c' := ⟨c.toNat, by omega⟩
            have hcb2 : c < 4294967296 := by omega
            clear hcb hx hr HE
            have hadd : IntKind.u64.wrap ((sum : Int) + (c : Int)) = ((sum + c : Nat) : Int) := by rw [IntKind.wrap_u64]; omega
            by_cases h5 : 50000 < sum + c
            · rw [if_pos (by omega)] at HE2
              have HE3 : Hid (R = .error (q, 2)) := HE2
              have d5 : decide (50000 < sum + c) = true := by simpa using h5
              have d6 : decide ((50000 : Int) < (sum : Int) + (c : Int)) = true := by simp; omega
              clear HE2
              go_wp2_with fail
              refine C1.mono ?_
              rintro en w2 ⟨rfl, h2⟩
              obtain rfl := h2.symm
              clear C1
              go_wp2_with fail
              go_ret3
              rw [HE3.out]
              exact ⟨_, rfl, RowL.nil _ _, GR.out⟩
            · rw [if_neg (by omega)] at HE2
              simp only [thenR] at HE2
              have d5 : decide (50000 < sum + c) = false := by simpa using h5
              have d6 : decide ((50000 : Int) < (sum : Int) + (c : Int)) = false := by simp; omega
              have hcv : IntKind.u32.wrap (c : Int) = (c : Int) := by rw [IntKind.wrap_u32]; omega
              have C2 : Hid (Calls Tryz.prog 13 #[.slice sa l.length cap, .int .i64 (q1 : Int)] wr fun en w' => en = .returned (ansV (topR (valR l) ⟨0, false, 0⟩ l (q1 : Int))) ∧ Grew wr w') := CV.out wr q1 GR.out
              rw [topR_in hr2] at C2
              have hadv := val_adv l q1 hr2
              cases hy : valR l q1 with
              | error y =>
                obtain ⟨f, e⟩ := y
                rw [hy] at HE2 C2
                have he : ((e : Int) != 0) = true := by
                  have := (hadv.2 f e hy).2.1
                  simp; omega
                have HE3 : Hid (R = .error (f, e)) := HE2
                unfold ansV VT.v vt at C2
                simp only at C2
                clear HE2 hy hadv
                go_wp2_with fail
                refine C1.mono ?_
                rintro en w2 ⟨rfl, h2⟩
                obtain rfl := h2.symm
                clear C1
                go_wp2_with fail
                refine C2.out.mono ?_
                rintro en w3 ⟨rfl, g3⟩
                have G3 : Hid (Grew w w3) := GR.out.trans g3
                clear C2 g3
                go_wp2_with fail
                go_ret3
                rw [HE3.out]
                exact ⟨_, rfl, RowL.nil _ _, G3.out.alloc _⟩
              | ok y =>
                obtain ⟨⟨n1, nul1, hp1⟩, q2⟩ := y
                have hq2' := (hadv.1 _ _ hy).2
                rw [hy] at HE2 C2
                have HE3 : Hid (R = runsR l (N - (acc.length + 1)) (50000 - (sum : Int) - (c : Int)) (acc ++ [⟨c, ⟨n1, nul1, hp1⟩⟩]) q2) := HE2
                unfold ansV VT.v vt at C2
                simp only at C2
                clear HE2 hy hadv
                go_wp2_with fail
                refine C1.mono ?_
                rintro en w2 ⟨rfl, h2⟩
                obtain rfl := h2.symm
                clear C1
                go_wp2_with fail
                refine C2.out.mono ?_
                rintro en w3 ⟨rfl, g3⟩
                have W3 : Hid (RowL w.heap.size (w3.alloc (.cells #[.int .i64 n1, .bool nul1, .int .i64 hp1] 36)) (.slice aa acc.length cc) acc) := row_turn WR.out ((g3.alloc _).turn []) (by simp)
                have G3 : Hid (Grew w (w3.alloc (.cells #[.int .i64 n1, .bool nul1, .int .i64 hp1] 36))) := (GR.out.trans g3).alloc _
                have hB3 : w.heap.size ≤ (w3.alloc (.cells #[.int .i64 n1, .bool nul1, .int .i64 hp1] 36)).heap.size := G3.out.2
                clear C2 g3 WR GR
                go_wp2_with (at_builtin; refine wp_app1 (v := .slice aa acc.length cc) (n := acc.length) (cs := acc.flatMap LC.c) (B := w.heap.size) rfl _ _ 23 50 4 32 _ Tryz.underlying23 infoL rfl (by decide) (by decide) rfl w.heap.size rfl (by rw [alloc_size]; rfl) W3.out hB3 rfl (by simp [Value.oneCell']) (by omega) ?_; intro v4 w4 hO4 hT4 hG4)
                have G4 : Hid (Grew w w4) := hT4.grew G3.out (Nat.le_refl _)
                go_roundw
                case rel => exact ⟨acc.length + 1, acc ++ [(⟨(c : Int), ⟨n1, nul1, hp1⟩⟩ : LC)], q2, sum + c, by go_num, by first | rfl | (rw [hadd]), by go_num, by omega, by omega, hq2', by simp, RowL.snoc (a := (⟨(c : Int), ⟨n1, nul1, hp1⟩⟩ : LC)) hO4, G4, by rw [HE3.out]; exact congrArg (fun z => runsR l (N - (acc.length + 1)) z _ q2) (by omega)⟩
                case measure => simp [intOf]; omega
          · rw [hr] at C1
            rw [hx] at HE2
            simp only at C1
            have HE3 : Hid (R = .error (f, e)) := HE2
            have he : ((e : Int) != 0) = true := by
              rcases hr3 with rfl | rfl <;> rfl
            clear HE HE2 hx hr hr3
            go_wp2_with fail
            refine C1.mono ?_
            rintro en w2 ⟨rfl, h2⟩
            obtain rfl := h2.symm
            clear C1
            go_wp2_with fail
            go_ret3
            rw [HE3.out]
            exact ⟨_, rfl, RowL.nil _ _, GR.out⟩
        · have d4 : decide ((acc.length : Int) < (N : Int)) = false := by simp; omega
          have d4' : decide (acc.length < N) = false := by simp; omega
          have HE2 := HE.out
          rw [show N - acc.length = 0 by omega, runsR] at HE2
          have HE3 : Hid (R = .ok (acc, q)) := HE2
          clear HE HE2
          go_wp2_with fail
          go_ret3
          rw [HE3.out]
          exact ⟨_, rfl, WR.out, GR.out⟩
  · have C0 := CN.out w p (Grew.refl w)
    rw [hr] at C0
    rw [hx]
    simp only at C0
    unfold limR
    simp only [thenR, topOf]
    have he : ((e : Int) != 0) = true := by
      rcases hq3 with rfl | rfl <;> rfl
    clear hx hr hq3
    go_enter Tryz.func5, Tryz.ntmps5
    go_wp2_with fail
    refine C0.mono ?_
    rintro en w1 ⟨rfl, h1⟩
    obtain rfl := h1.symm
    clear C0
    go_wp2_with fail
    go_ret3
    exact ⟨_, rfl, RowL.nil _ _, Grew.refl _⟩
set_option maxRecDepth 100000 in
theorem dlocals_out (v : Value) (l : List Int) (x : Int) (w : World) (hR : Reads w v l) (hin : ¬ (0 ≤ x ∧ x ≤ l.length)) :
    Calls Tryz.prog 5 #[v, .int .i64 x] w (TopK ([], 0, 1) w) := by
  obtain ⟨sa, cap, rfl⟩ := hR.len
  clear hR
  by_cases h0 : x < 0
  · have d1 : decide (x < 0) = true := by simpa using h0
    go_enter Tryz.func5, Tryz.ntmps5
    go_wp2_with fail
    go_ret3
    exact ⟨_, rfl, RowL.nil _ _, Grew.refl _⟩
  · have d1 : decide (x < 0) = false := by simpa using h0
    have d2 : decide ((l.length : Int) < x) = true := by simp; omega
    go_enter Tryz.func5, Tryz.ntmps5
    go_wp2_with fail
    go_ret3
    exact ⟨_, rfl, RowL.nil _ _, Grew.refl _⟩
theorem dlocals_any (v : Value) (l : List Int) (x : Int) (w : World) (hR : Reads w v l) (hB : Byt l) (hl : l.length ≤ 140737488351232) :
    Calls Tryz.prog 5 #[v, .int .i64 x] w (TopK (topR (localsR l) [] l x) w) := by
  by_cases hin : 0 ≤ x ∧ x ≤ l.length
  · obtain ⟨p, rfl⟩ : ∃ p : Nat, x = p := ⟨x.toNat, by omega⟩
    rw [topR_topOf (by omega)]
    exact dlocals_in v l p w hR hB hl (by omega)
  · rw [topR_out hin]
    exact dlocals_out v l x w hR hin
end Go.Proofs.YtfedijclhlchbaaGreatDoor
