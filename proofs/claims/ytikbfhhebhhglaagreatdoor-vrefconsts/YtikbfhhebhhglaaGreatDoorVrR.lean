/-
  What may stand in a constant expression, a list of instructions: the document's answer; no statement is proved here.
-/
import Derived.Test.YtikbfhhebhhglaaGreatDoorVrQ
import Derived.Deep.RegionHeld3
namespace Go.Proofs.YtikbfhhebhhglaaGreatDoor
open Go.RowKit
set_option linter.unusedVariables false
set_option linter.unusedSimpArgs false

set_option maxRecDepth 100000 in
set_option maxHeartbeats 8000000 in
theorem rconst_any {w : World} (s0 s1 s2 s3 s5 s6 s7 s8 : Value) {gv : Value} {GL : List GLt} (hG : LGl w gv GL) {lv : Value} {l : List IT} (hL : LIn w lv l) (gb : Int) :
    Calls Tryz.prog 6 #[.agg #[s0, s1, s2, s3, gv, s5, s6, s7, s8], lv, .int .i64 gb] w fun en w' => en = .returned (.tuple #[.int .i64 ((cstP GL gb l 0).1 : Int), .int .i64 (cstP GL gb l 0).2]) ∧ Grew w w' := by
  obtain ⟨la, lc, elv, hlc, hmx⟩ := hL.one
  subst elv
  obtain ⟨ga, gc, egv, hgc, hmg⟩ := hG.one
  subst egv
  have HL := Hid.mk' hL
  have HG := Hid.mk' hG
  have e00 : l.length ≤ 9223372036854775807 := by have := hmx; simp [maxLen] at this; omega
  have e01 : GL.length ≤ 9223372036854775807 := by have := hmg; simp [maxLen] at this; omega
  obtain ⟨R, hR⟩ : ∃ R, R = cstP GL gb l 0 := ⟨_, rfl⟩
  rw [← hR]
  have HR : Hid (R = cstP GL gb (l.drop 0) 0) := hR
  clear hL hG hR hmx hmg
  go_enter Tryz.func6, Tryz.ntmps6
  go_wp2_with fail
  obtain ⟨w1, hw1⟩ : ∃ w1, w1 = w.alloc (.cells #[s0, s1, s2, s3, .slice ga GL.length gc, s5, s6, s7, s8] 30) := ⟨_, rfl⟩
  have N0 : Hid (w1.cell? ⟨w.heap.size, 4, none⟩ = some (.slice ga GL.length gc)) := by rw [hw1]; exact (cell_of (heap_alloc_last _ _) 4).trans rfl
  have G0 : Hid (Grew w w1) := by rw [hw1]; exact (Grew.refl w).alloc _
  rw [← hw1]
  clear hw1
  go_loopw [8] (fun k_ wx => ∃ k : Nat, k_ = .int .i64 k ∧ k ≤ l.length ∧ Hid (R = cstP GL gb (l.drop k) k) ∧ Hid (Grew w1 wx)) (fun k_ _ => l.length - (intOf k_).toNat)
  case atStart => exact ⟨0, rfl, Nat.zero_le _, HR, Grew.refl _⟩
  case round =>
    clear HR
    obtain ⟨k, rfl, hk, HR, HX⟩ := hrel
    by_cases hlt : k < l.length
    · obtain ⟨t, ht⟩ : ∃ t, l[k]? = some t := ⟨_, List.getElem?_eq_getElem hlt⟩
      obtain ⟨b, off, ea, _, hE⟩ := HL.out.get (by omega)
      subst ea
      have hT := EIn.grew (hE k t ht) (G0.out.trans HX.out)
      have h32 := hT.lt
      have c0 := hT.c0
      have c1 := hT.c1
      have hbl := lt_of_cell c0
      have d1 : decide ((k : Int) < (l.length : Int)) = true := by simp; omega
      have d2 : decide (k < l.length) = true := by simp; omega
      have HE := Hid.mk' (step_P (GL := GL) (gb := gb) ht)
      clear hE ht hT
      obtain ⟨op, n, rs⟩ := t
      simp only at c0 c1 h32
      have HEs : Hid (cstP GL gb (l.drop k) k = if cstE GL gb op n = 0 then cstP GL gb (l.drop (k + 1)) (k + 1) else (k, cstE GL gb op n)) := HE.out
      clear HE
      have HE := Hid.mk' HEs.out
      clear HEs
      by_cases h0 : op = 35
      · subst h0
        have hcst : cstE GL gb 35 n = gloC GL gb n := rfl
        have N4 := cell_grew N0.out HX.out
        have hw : IntKind.i64.wrap (n : Int) = (n : Int) := by rw [IntKind.wrap_i64]; omega
        have e1 : IntKind.u64.wrap (n : Int) = (n : Int) := by rw [IntKind.wrap_u64]; omega
        have e2 : IntKind.u64.wrap (GL.length : Int) = (GL.length : Int) := by rw [IntKind.wrap_u64]; omega
        by_cases hg : gb ≤ (n : Int)
        · have hE : cstE GL gb 35 n = 150 := by rw [hcst]; unfold gloC; rw [if_pos hg]
          have HE2 : Hid (R = (k, 150)) := by
            have := HE.out
            rw [if_neg (by rw [hE]; decide), hE] at this
            exact HR.out.trans this
          have d3 : decide (gb ≤ (n : Int)) = true := by simpa using hg
          clear hE hcst HE HR hg
          go_wp2_with fail
          refine wp_region_ck [(b, off + k * 17 + 1, .int .u32 (n : Int)), (w.heap.size, 4, .slice ga GL.length gc)] (by kernel_rfl) (by kernel_rfl) ⟨⟨lt_of_cell c1, c1⟩, ⟨lt_of_cell N4, N4⟩, trivial⟩ ?_
          repeat (first
            | go_big_quiet_skip
            | (go_big_quiet_want
               go_big_quiet_op
               first
               | (refine ⟨.bool true, fun w' hw' => ?_, ?_⟩
                  · (go_simp; done)
                  go_big_quiet_on)
               | (refine ⟨.bool false, fun w' hw' => ?_, ?_⟩
                  · (go_simp; done)
                  go_big_quiet_on)
               | (refine ⟨.int .i64 (n : Int), fun w' hw' => ?_, ?_⟩
                  · (go_simp; done)
                  go_big_quiet_on)
               | (refine ⟨.int .i64 (GL.length : Int), fun w' hw' => ?_, ?_⟩
                  · (go_simp; done)
                  go_big_quiet_on)
               | (refine ⟨.int .u64 (n : Int), fun w' hw' => ?_, ?_⟩
                  · (go_simp; done)
                  go_big_quiet_on)
               | (refine ⟨.int .u64 (GL.length : Int), fun w' hw' => ?_, ?_⟩
                  · (go_simp; done)
                  go_big_quiet_on)
               | go_big_quiet_on
               | (refine ⟨_, fun _ _ => rfl, ?_⟩; go_big_quiet_on)
               | (refine ⟨.int .u32 (n : Int), fun w' hw' => ?_, ?_⟩
                  · (obtain ⟨_, ⟨_, hc0⟩, ⟨_, hc1⟩, _⟩ := hw'; go_simp; done)
                  go_big_quiet_on)
               | (refine ⟨.slice ga GL.length gc, fun w' hw' => ?_, ?_⟩
                  · (obtain ⟨_, ⟨_, hc0⟩, ⟨_, hc1⟩, _⟩ := hw'; go_simp; done)
                  go_big_quiet_on)))
          refine wpQuiet_nil ?_
          rintro w6 ⟨g6, _⟩
          have HX := Hid.mk' (HX.out.trans g6)
          have c1 := cell_grew c1 g6
          have N4 := cell_grew N4 g6
          skip
          clear g6
          go_wp2_with fail
          refine bodyPost_ret (v := .tuple #[.int .i64 (k : Int), .int .i64 150]) (by simp [results, Tryz.results6, go_sem]) rfl ?_
          exact ⟨by rw [HE2.out], G0.out.trans HX.out⟩
        · have d3 : decide (gb ≤ (n : Int)) = false := by simpa using hg
          cases hp : GL[n]? with
          | none =>
            have hE : cstE GL gb 35 n = 150 := by rw [hcst]; unfold gloC; rw [if_neg hg, hp]
            have HE2 : Hid (R = (k, 150)) := by
              have := HE.out
              rw [if_neg (by rw [hE]; decide), hE] at this
              exact HR.out.trans this
            have hn : GL.length ≤ n := by rw [List.getElem?_eq_none_iff] at hp; exact hp
            have d4 : decide ((GL.length : Int) ≤ (n : Int)) = true := by simp; omega
            have d5 : decide (GL.length ≤ n) = true := by simp; omega
            clear hE hcst HE HR hg hp
            go_wp2_with fail
            refine wp_region_ck [(b, off + k * 17 + 1, .int .u32 (n : Int)), (w.heap.size, 4, .slice ga GL.length gc)] (by kernel_rfl) (by kernel_rfl) ⟨⟨lt_of_cell c1, c1⟩, ⟨lt_of_cell N4, N4⟩, trivial⟩ ?_
            repeat (first
              | go_big_quiet_skip
              | (go_big_quiet_want
                 go_big_quiet_op
                 first
                 | (refine ⟨.bool true, fun w' hw' => ?_, ?_⟩
                    · (go_simp; done)
                    go_big_quiet_on)
                 | (refine ⟨.bool false, fun w' hw' => ?_, ?_⟩
                    · (go_simp; done)
                    go_big_quiet_on)
                 | (refine ⟨.int .i64 (n : Int), fun w' hw' => ?_, ?_⟩
                    · (go_simp; done)
                    go_big_quiet_on)
                 | (refine ⟨.int .i64 (GL.length : Int), fun w' hw' => ?_, ?_⟩
                    · (go_simp; done)
                    go_big_quiet_on)
                 | (refine ⟨.int .u64 (n : Int), fun w' hw' => ?_, ?_⟩
                    · (go_simp; done)
                    go_big_quiet_on)
                 | (refine ⟨.int .u64 (GL.length : Int), fun w' hw' => ?_, ?_⟩
                    · (go_simp; done)
                    go_big_quiet_on)
                 | go_big_quiet_on
                 | (refine ⟨_, fun _ _ => rfl, ?_⟩; go_big_quiet_on)
                 | (refine ⟨.int .u32 (n : Int), fun w' hw' => ?_, ?_⟩
                    · (obtain ⟨_, ⟨_, hc0⟩, ⟨_, hc1⟩, _⟩ := hw'; go_simp; done)
                    go_big_quiet_on)
                 | (refine ⟨.slice ga GL.length gc, fun w' hw' => ?_, ?_⟩
                    · (obtain ⟨_, ⟨_, hc0⟩, ⟨_, hc1⟩, _⟩ := hw'; go_simp; done)
                    go_big_quiet_on)))
            refine wpQuiet_nil ?_
            rintro w6 ⟨g6, _⟩
            have HX := Hid.mk' (HX.out.trans g6)
            have c1 := cell_grew c1 g6
            have N4 := cell_grew N4 g6
            skip
            clear g6
            go_wp2_with fail
            refine bodyPost_ret (v := .tuple #[.int .i64 (k : Int), .int .i64 150]) (by simp [results, Tryz.results6, go_sem]) rfl ?_
            exact ⟨by rw [HE2.out], G0.out.trans HX.out⟩
          | some p =>
            have hn := (List.getElem?_eq_some_iff.1 hp).1
            obtain ⟨b2, off2, ea, _, hG⟩ := HG.out.get (by omega)
            subst ea
            obtain ⟨_, _, _, x3⟩ := hG n p hp
            have x3 := cell_grew x3 (G0.out.trans HX.out)
            have d4 : decide ((GL.length : Int) ≤ (n : Int)) = false := by simp; omega
            have d5 : decide (GL.length ≤ n) = false := by simp; omega
            have d6 : decide (n < GL.length) = true := by simp; omega
            have d7 : decide ((n : Int) < (GL.length : Int)) = true := by simp; omega
            have d8 : (n : Int) < (GL.length : Int) := by omega
            clear hG
            cases hm : p.mut_ with
            | true =>
              have hE : cstE GL gb 35 n = 161 := by rw [hcst]; unfold gloC; rw [if_neg hg, hp]; simp [hm]
              have HE2 : Hid (R = (k, 161)) := by
                have := HE.out
                rw [if_neg (by rw [hE]; decide), hE] at this
                exact HR.out.trans this
              rw [hm] at x3
              clear hE hcst HE HR hg hp hm
              go_wp2_with fail
              refine wp_region_ck [(b, off + k * 17 + 1, .int .u32 (n : Int)), (w.heap.size, 4, .slice (some ⟨b2, off2, none⟩) GL.length gc)] (by kernel_rfl) (by kernel_rfl) ⟨⟨lt_of_cell c1, c1⟩, ⟨lt_of_cell N4, N4⟩, trivial⟩ ?_
              repeat (first
                | go_big_quiet_skip
                | (go_big_quiet_want
                   go_big_quiet_op
                   first
                   | (refine ⟨.bool true, fun w' hw' => ?_, ?_⟩
                      · (go_simp; done)
                      go_big_quiet_on)
                   | (refine ⟨.bool false, fun w' hw' => ?_, ?_⟩
                      · (go_simp; done)
                      go_big_quiet_on)
                   | (refine ⟨.int .i64 (n : Int), fun w' hw' => ?_, ?_⟩
                      · (go_simp; done)
                      go_big_quiet_on)
                   | (refine ⟨.int .i64 (GL.length : Int), fun w' hw' => ?_, ?_⟩
                      · (go_simp; done)
                      go_big_quiet_on)
                   | (refine ⟨.int .u64 (n : Int), fun w' hw' => ?_, ?_⟩
                      · (go_simp; done)
                      go_big_quiet_on)
                   | (refine ⟨.int .u64 (GL.length : Int), fun w' hw' => ?_, ?_⟩
                      · (go_simp; done)
                      go_big_quiet_on)
                   | go_big_quiet_on
                   | (refine ⟨_, fun _ _ => rfl, ?_⟩; go_big_quiet_on)
                   | (refine ⟨.int .u32 (n : Int), fun w' hw' => ?_, ?_⟩
                      · (obtain ⟨_, ⟨_, hc0⟩, ⟨_, hc1⟩, _⟩ := hw'; go_simp; done)
                      go_big_quiet_on)
                   | (refine ⟨.slice (some ⟨b2, off2, none⟩) GL.length gc, fun w' hw' => ?_, ?_⟩
                      · (obtain ⟨_, ⟨_, hc0⟩, ⟨_, hc1⟩, _⟩ := hw'; go_simp; done)
                      go_big_quiet_on)))
              refine wpQuiet_nil ?_
              rintro w6 ⟨g6, _⟩
              have HX := Hid.mk' (HX.out.trans g6)
              have c1 := cell_grew c1 g6
              have N4 := cell_grew N4 g6
              have x3 := cell_grew x3 g6
              clear g6
              go_wp2_with fail
              refine wp_region_ck [(b, off + k * 17 + 1, .int .u32 (n : Int)), (w.heap.size, 4, .slice (some ⟨b2, off2, none⟩) GL.length gc), (b2, off2 + n * 4 + 3, .bool true)] (by kernel_rfl) (by kernel_rfl) ⟨⟨lt_of_cell c1, c1⟩, ⟨lt_of_cell N4, N4⟩, ⟨lt_of_cell x3, x3⟩, trivial⟩ ?_
              repeat (first
                | go_big_quiet_skip
                | (go_big_quiet_want
                   go_big_quiet_op
                   first
                   | (refine ⟨.bool true, fun w' hw' => ?_, ?_⟩
                      · (go_simp; done)
                      go_big_quiet_on)
                   | (refine ⟨.bool false, fun w' hw' => ?_, ?_⟩
                      · (go_simp; done)
                      go_big_quiet_on)
                   | (refine ⟨.int .i64 (n : Int), fun w' hw' => ?_, ?_⟩
                      · (go_simp; done)
                      go_big_quiet_on)
                   | (refine ⟨.int .i64 (GL.length : Int), fun w' hw' => ?_, ?_⟩
                      · (go_simp; done)
                      go_big_quiet_on)
                   | (refine ⟨.int .u64 (n : Int), fun w' hw' => ?_, ?_⟩
                      · (go_simp; done)
                      go_big_quiet_on)
                   | (refine ⟨.int .u64 (GL.length : Int), fun w' hw' => ?_, ?_⟩
                      · (go_simp; done)
                      go_big_quiet_on)
                   | go_big_quiet_on
                   | (refine ⟨_, fun _ _ => rfl, ?_⟩; go_big_quiet_on)
                   | (refine ⟨.int .u32 (n : Int), fun w' hw' => ?_, ?_⟩
                      · (obtain ⟨_, ⟨_, hc0⟩, ⟨_, hc1⟩, ⟨_, hc2⟩, _⟩ := hw'; go_simp; done)
                      go_big_quiet_on)
                   | (refine ⟨.slice (some ⟨b2, off2, none⟩) GL.length gc, fun w' hw' => ?_, ?_⟩
                      · (obtain ⟨_, ⟨_, hc0⟩, ⟨_, hc1⟩, ⟨_, hc2⟩, _⟩ := hw'; go_simp; done)
                      go_big_quiet_on)
                   | (refine ⟨.bool true, fun w' hw' => ?_, ?_⟩
                      · (obtain ⟨_, ⟨_, hc0⟩, ⟨_, hc1⟩, ⟨_, hc2⟩, _⟩ := hw'; go_simp; done)
                      go_big_quiet_on)))
              refine wpQuiet_nil ?_
              rintro w6 ⟨g6, _⟩
              have HX := Hid.mk' (HX.out.trans g6)
              have c1 := cell_grew c1 g6
              have N4 := cell_grew N4 g6
              have x3 := cell_grew x3 g6
              clear g6
              go_wp2_with fail
              refine bodyPost_ret (v := .tuple #[.int .i64 (k : Int), .int .i64 161]) (by simp [results, Tryz.results6, go_sem]) rfl ?_
              exact ⟨by rw [HE2.out], G0.out.trans HX.out⟩
            | false =>
              have hE : cstE GL gb 35 n = 0 := by rw [hcst]; unfold gloC; rw [if_neg hg, hp]; simp [hm]
              have HE2 : Hid (R = cstP GL gb (l.drop (k + 1)) (k + 1)) := by
                have := HE.out
                rw [if_pos hE] at this
                exact HR.out.trans this
              rw [hm] at x3
              clear hE hcst HE HR hg hp hm
              go_wp2_with fail
              refine wp_region_ck [(b, off + k * 17 + 1, .int .u32 (n : Int)), (w.heap.size, 4, .slice (some ⟨b2, off2, none⟩) GL.length gc)] (by kernel_rfl) (by kernel_rfl) ⟨⟨lt_of_cell c1, c1⟩, ⟨lt_of_cell N4, N4⟩, trivial⟩ ?_
              repeat (first
                | go_big_quiet_skip
                | (go_big_quiet_want
                   go_big_quiet_op
                   first
                   | (refine ⟨.bool true, fun w' hw' => ?_, ?_⟩
                      · (go_simp; done)
                      go_big_quiet_on)
                   | (refine ⟨.bool false, fun w' hw' => ?_, ?_⟩
                      · (go_simp; done)
                      go_big_quiet_on)
                   | (refine ⟨.int .i64 (n : Int), fun w' hw' => ?_, ?_⟩
                      · (go_simp; done)
                      go_big_quiet_on)
                   | (refine ⟨.int .i64 (GL.length : Int), fun w' hw' => ?_, ?_⟩
                      · (go_simp; done)
                      go_big_quiet_on)
                   | (refine ⟨.int .u64 (n : Int), fun w' hw' => ?_, ?_⟩
                      · (go_simp; done)
                      go_big_quiet_on)
                   | (refine ⟨.int .u64 (GL.length : Int), fun w' hw' => ?_, ?_⟩
                      · (go_simp; done)
                      go_big_quiet_on)
                   | go_big_quiet_on
                   | (refine ⟨_, fun _ _ => rfl, ?_⟩; go_big_quiet_on)
                   | (refine ⟨.int .u32 (n : Int), fun w' hw' => ?_, ?_⟩
                      · (obtain ⟨_, ⟨_, hc0⟩, ⟨_, hc1⟩, _⟩ := hw'; go_simp; done)
                      go_big_quiet_on)
                   | (refine ⟨.slice (some ⟨b2, off2, none⟩) GL.length gc, fun w' hw' => ?_, ?_⟩
                      · (obtain ⟨_, ⟨_, hc0⟩, ⟨_, hc1⟩, _⟩ := hw'; go_simp; done)
                      go_big_quiet_on)))
              refine wpQuiet_nil ?_
              rintro w6 ⟨g6, _⟩
              have HX := Hid.mk' (HX.out.trans g6)
              have c1 := cell_grew c1 g6
              have N4 := cell_grew N4 g6
              have x3 := cell_grew x3 g6
              clear g6
              go_wp2_with fail
              refine wp_region_ck [(b, off + k * 17 + 1, .int .u32 (n : Int)), (w.heap.size, 4, .slice (some ⟨b2, off2, none⟩) GL.length gc), (b2, off2 + n * 4 + 3, .bool false)] (by kernel_rfl) (by kernel_rfl) ⟨⟨lt_of_cell c1, c1⟩, ⟨lt_of_cell N4, N4⟩, ⟨lt_of_cell x3, x3⟩, trivial⟩ ?_
              repeat (first
                | go_big_quiet_skip
                | (go_big_quiet_want
                   go_big_quiet_op
                   first
                   | (refine ⟨.bool true, fun w' hw' => ?_, ?_⟩
                      · (go_simp; done)
                      go_big_quiet_on)
                   | (refine ⟨.bool false, fun w' hw' => ?_, ?_⟩
                      · (go_simp; done)
                      go_big_quiet_on)
                   | (refine ⟨.int .i64 (n : Int), fun w' hw' => ?_, ?_⟩
                      · (go_simp; done)
                      go_big_quiet_on)
                   | (refine ⟨.int .i64 (GL.length : Int), fun w' hw' => ?_, ?_⟩
                      · (go_simp; done)
                      go_big_quiet_on)
                   | (refine ⟨.int .u64 (n : Int), fun w' hw' => ?_, ?_⟩
                      · (go_simp; done)
                      go_big_quiet_on)
                   | (refine ⟨.int .u64 (GL.length : Int), fun w' hw' => ?_, ?_⟩
                      · (go_simp; done)
                      go_big_quiet_on)
                   | go_big_quiet_on
                   | (refine ⟨_, fun _ _ => rfl, ?_⟩; go_big_quiet_on)
                   | (refine ⟨.int .u32 (n : Int), fun w' hw' => ?_, ?_⟩
                      · (obtain ⟨_, ⟨_, hc0⟩, ⟨_, hc1⟩, ⟨_, hc2⟩, _⟩ := hw'; go_simp; done)
                      go_big_quiet_on)
                   | (refine ⟨.slice (some ⟨b2, off2, none⟩) GL.length gc, fun w' hw' => ?_, ?_⟩
                      · (obtain ⟨_, ⟨_, hc0⟩, ⟨_, hc1⟩, ⟨_, hc2⟩, _⟩ := hw'; go_simp; done)
                      go_big_quiet_on)
                   | (refine ⟨.bool false, fun w' hw' => ?_, ?_⟩
                      · (obtain ⟨_, ⟨_, hc0⟩, ⟨_, hc1⟩, ⟨_, hc2⟩, _⟩ := hw'; go_simp; done)
                      go_big_quiet_on)))
              refine wpQuiet_nil ?_
              rintro w6 ⟨g6, _⟩
              have HX := Hid.mk' (HX.out.trans g6)
              have c1 := cell_grew c1 g6
              have N4 := cell_grew N4 g6
              have x3 := cell_grew x3 g6
              clear g6
              go_wp2_with fail
              go_roundw
              case rel => exact ⟨k + 1, by go_num, by omega, HE2, HX⟩
              case measure => simp [intOf]; omega
      · by_cases h : op ∈ goodC
        · have hE : cstE GL gb op n = 0 := by unfold cstE; rw [if_neg h0, if_pos h]
          have HE2 : Hid (R = cstP GL gb (l.drop (k + 1)) (k + 1)) := by
            have := HE.out
            rw [if_pos hE] at this
            exact HR.out.trans this
          clear hE HE HR h0
          unfold goodC at h
          simp only [List.mem_cons, List.mem_nil_iff, or_false] at h
          rcases h with rfl | rfl | rfl | rfl | rfl | rfl | rfl | rfl | rfl | rfl | rfl | rfl | rfl | rfl | rfl | rfl | rfl | rfl | rfl | rfl
          · go_wp2_with fail
            go_roundw
            case rel => exact ⟨k + 1, by go_num, by omega, HE2, HX⟩
            case measure => simp [intOf]; omega
          · go_wp2_with fail
            go_roundw
            case rel => exact ⟨k + 1, by go_num, by omega, HE2, HX⟩
            case measure => simp [intOf]; omega
          · go_wp2_with fail
            go_roundw
            case rel => exact ⟨k + 1, by go_num, by omega, HE2, HX⟩
            case measure => simp [intOf]; omega
          · go_wp2_with fail
            go_roundw
            case rel => exact ⟨k + 1, by go_num, by omega, HE2, HX⟩
            case measure => simp [intOf]; omega
          · go_wp2_with fail
            go_roundw
            case rel => exact ⟨k + 1, by go_num, by omega, HE2, HX⟩
            case measure => simp [intOf]; omega
          · go_wp2_with fail
            go_roundw
            case rel => exact ⟨k + 1, by go_num, by omega, HE2, HX⟩
            case measure => simp [intOf]; omega
          · go_wp2_with fail
            go_roundw
            case rel => exact ⟨k + 1, by go_num, by omega, HE2, HX⟩
            case measure => simp [intOf]; omega
          · go_wp2_with fail
            go_roundw
            case rel => exact ⟨k + 1, by go_num, by omega, HE2, HX⟩
            case measure => simp [intOf]; omega
          · go_wp2_with fail
            go_roundw
            case rel => exact ⟨k + 1, by go_num, by omega, HE2, HX⟩
            case measure => simp [intOf]; omega
          · go_wp2_with fail
            go_roundw
            case rel => exact ⟨k + 1, by go_num, by omega, HE2, HX⟩
            case measure => simp [intOf]; omega
          · go_wp2_with fail
            go_roundw
            case rel => exact ⟨k + 1, by go_num, by omega, HE2, HX⟩
            case measure => simp [intOf]; omega
          · go_wp2_with fail
            go_roundw
            case rel => exact ⟨k + 1, by go_num, by omega, HE2, HX⟩
            case measure => simp [intOf]; omega
          · go_wp2_with fail
            go_roundw
            case rel => exact ⟨k + 1, by go_num, by omega, HE2, HX⟩
            case measure => simp [intOf]; omega
          · go_wp2_with fail
            go_roundw
            case rel => exact ⟨k + 1, by go_num, by omega, HE2, HX⟩
            case measure => simp [intOf]; omega
          · go_wp2_with fail
            go_roundw
            case rel => exact ⟨k + 1, by go_num, by omega, HE2, HX⟩
            case measure => simp [intOf]; omega
          · go_wp2_with fail
            go_roundw
            case rel => exact ⟨k + 1, by go_num, by omega, HE2, HX⟩
            case measure => simp [intOf]; omega
          · go_wp2_with fail
            go_roundw
            case rel => exact ⟨k + 1, by go_num, by omega, HE2, HX⟩
            case measure => simp [intOf]; omega
          · go_wp2_with fail
            go_roundw
            case rel => exact ⟨k + 1, by go_num, by omega, HE2, HX⟩
            case measure => simp [intOf]; omega
          · go_wp2_with fail
            go_roundw
            case rel => exact ⟨k + 1, by go_num, by omega, HE2, HX⟩
            case measure => simp [intOf]; omega
          · go_wp2_with fail
            go_roundw
            case rel => exact ⟨k + 1, by go_num, by omega, HE2, HX⟩
            case measure => simp [intOf]; omega
        · have hE : cstE GL gb op n = 160 := by unfold cstE; rw [if_neg h0, if_neg h]
          have HE2 : Hid (R = (k, 160)) := by
            have := HE.out
            rw [if_neg (by rw [hE]; decide), hE] at this
            exact HR.out.trans this
          have e65 : (op == 65) = false := by rw [beq_eq_false_iff_ne]; intro e; exact h (by rw [e]; decide)
          have e66 : (op == 66) = false := by rw [beq_eq_false_iff_ne]; intro e; exact h (by rw [e]; decide)
          have e67 : (op == 67) = false := by rw [beq_eq_false_iff_ne]; intro e; exact h (by rw [e]; decide)
          have e68 : (op == 68) = false := by rw [beq_eq_false_iff_ne]; intro e; exact h (by rw [e]; decide)
          have e106 : (op == 106) = false := by rw [beq_eq_false_iff_ne]; intro e; exact h (by rw [e]; decide)
          have e107 : (op == 107) = false := by rw [beq_eq_false_iff_ne]; intro e; exact h (by rw [e]; decide)
          have e108 : (op == 108) = false := by rw [beq_eq_false_iff_ne]; intro e; exact h (by rw [e]; decide)
          have e124 : (op == 124) = false := by rw [beq_eq_false_iff_ne]; intro e; exact h (by rw [e]; decide)
          have e125 : (op == 125) = false := by rw [beq_eq_false_iff_ne]; intro e; exact h (by rw [e]; decide)
          have e126 : (op == 126) = false := by rw [beq_eq_false_iff_ne]; intro e; exact h (by rw [e]; decide)
          have e208 : (op == 208) = false := by rw [beq_eq_false_iff_ne]; intro e; exact h (by rw [e]; decide)
          have e210 : (op == 210) = false := by rw [beq_eq_false_iff_ne]; intro e; exact h (by rw [e]; decide)
          have e64256 : (op == 64256) = false := by rw [beq_eq_false_iff_ne]; intro e; exact h (by rw [e]; decide)
          have e64257 : (op == 64257) = false := by rw [beq_eq_false_iff_ne]; intro e; exact h (by rw [e]; decide)
          have e64262 : (op == 64262) = false := by rw [beq_eq_false_iff_ne]; intro e; exact h (by rw [e]; decide)
          have e64263 : (op == 64263) = false := by rw [beq_eq_false_iff_ne]; intro e; exact h (by rw [e]; decide)
          have e64264 : (op == 64264) = false := by rw [beq_eq_false_iff_ne]; intro e; exact h (by rw [e]; decide)
          have e64282 : (op == 64282) = false := by rw [beq_eq_false_iff_ne]; intro e; exact h (by rw [e]; decide)
          have e64283 : (op == 64283) = false := by rw [beq_eq_false_iff_ne]; intro e; exact h (by rw [e]; decide)
          have e64284 : (op == 64284) = false := by rw [beq_eq_false_iff_ne]; intro e; exact h (by rw [e]; decide)
          have e35 : (op == 35) = false := by rw [beq_eq_false_iff_ne]; exact h0
          clear hE HE HR h0 h
          go_wp2_with fail
          refine bodyPost_ret (v := .tuple #[.int .i64 (k : Int), .int .i64 160]) (by simp [results, Tryz.results6, go_sem]) rfl ?_
          exact ⟨by rw [HE2.out], G0.out.trans HX.out⟩
    · have d1 : decide ((k : Int) < (l.length : Int)) = false := by simp; omega
      have HE2 : Hid (R = (0, 0)) := by
        have := HR.out
        rw [List.drop_of_length_le (by omega)] at this
        exact this
      clear HR
      go_wp2_with fail
      refine bodyPost_ret (v := .tuple #[.int .i64 0, .int .i64 0]) (by simp [results, Tryz.results6, go_sem]) rfl ?_
      exact ⟨by rw [HE2.out]; rfl, G0.out.trans HX.out⟩
end Go.Proofs.YtikbfhhebhhglaaGreatDoor
