/-
  vref's Ops and the law VrefConsts; no statement is proved here.
-/
import Derived.Test.YtikbfhhebhhglaaGreatDoorVrR
import Derived.Test.YtikbfhhebhhglaaGreatDoorVrD
namespace Go.Proofs.YtikbfhhebhhglaaGreatDoor
open Go.RowKit
set_option linter.unusedVariables false
set_option linter.unusedSimpArgs false

theorem rise_at : ∀ (l : List Int) (j : Nat) (a b : Int), riseB l = true → l[j]? = some a → l[j + 1]? = some b → a < b
  | [], j, a, b, h, h1, h2 => by simp at h1
  | [x], j, a, b, h, h1, h2 => by simp at h2
  | x :: y :: l, 0, a, b, h, h1, h2 => by
    simp only [riseB, Bool.and_eq_true, decide_eq_true_eq] at h
    simp at h1 h2
    subst h1
    subst h2
    exact h.1
  | x :: y :: l, j + 1, a, b, h, h1, h2 => by
    simp only [riseB, Bool.and_eq_true, decide_eq_true_eq] at h
    rw [List.getElem?_cons_succ] at h1 h2
    exact rise_at (y :: l) j a b h.2 h1 h2
theorem has_stepR {op n : Int} {j : Nat} (h : VRL[j]? = some n) : (VRL.take (j + 1)).any (fun x => decide (x = op)) = ((VRL.take j).any (fun x => decide (x = op)) || decide (n = op)) := by
  obtain ⟨h', he⟩ := List.getElem?_eq_some_iff.1 h
  rw [List.take_succ_eq_append_getElem h', he, List.any_append]
  simp
theorem RowZ_of {w : World} {B g c : Nat} (h : w.ownsRow B 3 1 (.slice (some ⟨g, 0, none⟩) 243 c) 243 (IV OL)) : RowZ w g olF ∧ B ≤ g ∧ 243 ≤ c ∧ c ≤ maxLen := by
  obtain ⟨_, ⟨h1, h2⟩ | ⟨g', cap, cur, hv, hb, hg, h3, h4, h5, h6⟩⟩ := h
  · omega
  · simp only [Value.slice.injEq, Option.some.injEq, Addr.mk.injEq, and_true, true_and] at hv
    obtain ⟨rfl, rfl⟩ := hv
    refine ⟨⟨cur, hg, fun k hk => ?_⟩, hb, h3, h4⟩
    have e1 : (cur.toList.take (243 * 1))[k]? = some (.int .i64 (olF k)) := by
      rw [h6]
      unfold IV
      rw [List.getElem?_map, olF_at hk]
      rfl
    rw [List.getElem?_take, if_pos (by omega)] at e1
    simpa using e1
set_option maxRecDepth 100000 in
set_option maxHeartbeats 2000000 in
theorem vrops_any (w : World) : Calls Tryz.prog 7 #[] w fun en w' => ∃ g c F, en = .returned (.slice (some ⟨g, 0, none⟩) 36 c) ∧ w.heap.size ≤ g ∧ 36 ≤ c ∧ c ≤ maxLen ∧ (∀ k, k < 36 → VRL[k]? = some (F k)) ∧ RowZ w' g F ∧ Grew w w' := by
  have CO : Hid (∀ W, Calls Tryz.prog 14 #[] W fun e w' => ∃ v, e = .returned v ∧ w'.ownsRow W.heap.size 3 1 v OL.length (IV OL) ∧ Grew W w') := ops_any
  go_enter Tryz.func7, Tryz.ntmps7
  go_wp2_with fail
  refine (CO.out _).mono ?_
  rintro en w1 ⟨v, rfl, hv, g1⟩
  rw [OL_len] at hv
  obtain ⟨g, c, rfl, _, _, _⟩ := row_at hv (by omega)
  obtain ⟨hz, hb, hc1, hc2⟩ := RowZ_of hv
  have CD : Hid (Calls Tryz.prog 13 #[.slice (some ⟨g, 0, none⟩) 243 c, .func (.func 15) #[] #[]] w1 fun en w' => ∃ F, en = .returned (.slice (some ⟨g, 0, none⟩) 36 c) ∧ (∀ k, k < 36 → VRL[k]? = some (F k)) ∧ RowZ w' g F ∧ Grew w w') := delF_any g1 hb hz hc1 hc2 (fun X op => ops1_any X op)
  have HB := Hid.mk' hb
  have HC : Hid (36 ≤ c ∧ c ≤ maxLen) := ⟨by omega, hc2⟩
  clear hv hz hb hc1 hc2 g1 CO
  go_wp2_with fail
  refine CD.out.mono ?_
  rintro en w2 ⟨F, rfl, h1, h2, h3⟩
  have H1 := Hid.mk' h1
  have H2 := Hid.mk' h2
  have H3 := Hid.mk' h3
  clear h1 h2 h3 CD
  go_wp2_with fail
  go_ret
  exact ⟨g, c, F, rfl, HB.out, HC.out.1, HC.out.2, H1.out, H2.out, H3.out⟩
set_option maxRecDepth 100000 in
theorem rtk_0 (op : Int) (h : op < 208) (w : World) : Calls Tryz.prog 8 #[.int .i64 op] w fun en w' => en = .returned (.bool false) ∧ Grew w w' := by
  have d0 : decide (208 ≤ op) = false := by simp; omega
  have d1 : decide (op ≤ 212) = true := by simp; omega
  have d2 : decide (64256 ≤ op) = false := by simp; omega
  have d3 : decide (op ≤ 64286) = true := by simp; omega
  clear h
  go_enter Tryz.func8, Tryz.ntmps8
  go_wp2_with fail
  go_ret
  exact ⟨rfl, Grew.refl _⟩
set_option maxRecDepth 100000 in
theorem rtk_1 (op : Int) (h : 208 ≤ op ∧ op ≤ 212) (w : World) : Calls Tryz.prog 8 #[.int .i64 op] w fun en w' => en = .returned (.bool true) ∧ Grew w w' := by
  have d0 : decide (208 ≤ op) = true := by simp; omega
  have d1 : decide (op ≤ 212) = true := by simp; omega
  have d2 : decide (64256 ≤ op) = false := by simp; omega
  have d3 : decide (op ≤ 64286) = true := by simp; omega
  clear h
  go_enter Tryz.func8, Tryz.ntmps8
  go_wp2_with fail
  go_ret
  exact ⟨rfl, Grew.refl _⟩
set_option maxRecDepth 100000 in
theorem rtk_2 (op : Int) (h : 212 < op ∧ op < 64256) (w : World) : Calls Tryz.prog 8 #[.int .i64 op] w fun en w' => en = .returned (.bool false) ∧ Grew w w' := by
  have d0 : decide (208 ≤ op) = true := by simp; omega
  have d1 : decide (op ≤ 212) = false := by simp; omega
  have d2 : decide (64256 ≤ op) = false := by simp; omega
  have d3 : decide (op ≤ 64286) = true := by simp; omega
  clear h
  go_enter Tryz.func8, Tryz.ntmps8
  go_wp2_with fail
  go_ret
  exact ⟨rfl, Grew.refl _⟩
set_option maxRecDepth 100000 in
theorem rtk_3 (op : Int) (h : 64256 ≤ op ∧ op ≤ 64286) (w : World) : Calls Tryz.prog 8 #[.int .i64 op] w fun en w' => en = .returned (.bool true) ∧ Grew w w' := by
  have d0 : decide (208 ≤ op) = true := by simp; omega
  have d1 : decide (op ≤ 212) = false := by simp; omega
  have d2 : decide (64256 ≤ op) = true := by simp; omega
  have d3 : decide (op ≤ 64286) = true := by simp; omega
  clear h
  go_enter Tryz.func8, Tryz.ntmps8
  go_wp2_with fail
  go_ret
  exact ⟨rfl, Grew.refl _⟩
set_option maxRecDepth 100000 in
theorem rtk_4 (op : Int) (h : 64286 < op) (w : World) : Calls Tryz.prog 8 #[.int .i64 op] w fun en w' => en = .returned (.bool false) ∧ Grew w w' := by
  have d0 : decide (208 ≤ op) = true := by simp; omega
  have d1 : decide (op ≤ 212) = false := by simp; omega
  have d2 : decide (64256 ≤ op) = true := by simp; omega
  have d3 : decide (op ≤ 64286) = false := by simp; omega
  clear h
  go_enter Tryz.func8, Tryz.ntmps8
  go_wp2_with fail
  go_ret
  exact ⟨rfl, Grew.refl _⟩
theorem rtakes_any (op : Int) (w : World) : Calls Tryz.prog 8 #[.int .i64 op] w fun en w' => en = .returned (.bool (inVR op)) ∧ Grew w w' := by
  by_cases h0 : op < 208
  · have e : inVR op = false := by unfold inVR; simp; omega
    rw [e]
    exact rtk_0 op h0 w
  by_cases h1 : 208 ≤ op ∧ op ≤ 212
  · have e : inVR op = true := by unfold inVR; simp; omega
    rw [e]
    exact rtk_1 op h1 w
  by_cases h2 : 212 < op ∧ op < 64256
  · have e : inVR op = false := by unfold inVR; simp; omega
    rw [e]
    exact rtk_2 op h2 w
  by_cases h3 : 64256 ≤ op ∧ op ≤ 64286
  · have e : inVR op = true := by unfold inVR; simp; omega
    rw [e]
    exact rtk_3 op h3 w
  by_cases h4 : 64286 < op
  · have e : inVR op = false := by unfold inVR; simp; omega
    rw [e]
    exact rtk_4 op h4 w
  omega
def z15 : List Value := [.int .u32 0, .int .u64 0, .int .u32 0, .int .u32 0, .int .u64 0, .int .i64 0, .int .i64 0, .bool false, .int .i64 0, .slice none 0 0, .slice none 0 0, .bool false, .slice none 0 0, .slice none 0 0, .slice none 0 0]
theorem z15_one : ∀ v ∈ z15, v.oneCell' = true := by
  intro v hv
  unfold z15 at hv
  simp only [List.mem_cons, List.mem_nil_iff, or_false] at hv
  rcases hv with rfl | rfl | rfl | rfl | rfl | rfl | rfl | rfl | rfl | rfl | rfl | rfl | rfl | rfl | rfl <;> rfl
def two34 : Array Value := #[.int .i64 65, .int .u32 0, .int .u32 0, .int .u64 0, .int .u32 0, .int .u32 0, .int .u64 0, .int .i64 0, .int .i64 0, .bool false, .int .i64 0, .slice none 0 0, .slice none 0 0, .bool false, .slice none 0 0, .slice none 0 0, .slice none 0 0, .int .i64 109, .int .u32 0, .int .u32 0, .int .u64 0, .int .u32 0, .int .u32 0, .int .u64 0, .int .i64 0, .int .i64 0, .bool false, .int .i64 0, .slice none 0 0, .slice none 0 0, .bool false, .slice none 0 0, .slice none 0 0, .slice none 0 0]
set_option maxRecDepth 100000 in
theorem two_lst (w : World) : LIn (w.alloc (.cells two34 52)) (.slice (some ⟨w.heap.size, 0, none⟩) 2 2) [⟨65, 0, z15⟩, ⟨109, 0, z15⟩] := by
  have H := heap_alloc_last w (.cells two34 52)
  refine ⟨some ⟨w.heap.size, 0, none⟩, 2, rfl, by decide, by decide, (fun h => nomatch h), Or.inr ⟨w.heap.size, 0, rfl, fun i x hx => ?_⟩⟩
  match i, hx with
  | 0, hx =>
    obtain rfl : _ = x := Option.some.inj hx
    refine ⟨rfl, by decide, (cell_of H 0).trans rfl, (cell_of H 1).trans rfl, z15_one, fun j v hv => ?_⟩
    have hj : j < 15 := (List.getElem?_eq_some_iff.1 hv).1
    match j, hj with
    | 0, _ => exact (cell_of H _).trans hv
    | 1, _ => exact (cell_of H _).trans hv
    | 2, _ => exact (cell_of H _).trans hv
    | 3, _ => exact (cell_of H _).trans hv
    | 4, _ => exact (cell_of H _).trans hv
    | 5, _ => exact (cell_of H _).trans hv
    | 6, _ => exact (cell_of H _).trans hv
    | 7, _ => exact (cell_of H _).trans hv
    | 8, _ => exact (cell_of H _).trans hv
    | 9, _ => exact (cell_of H _).trans hv
    | 10, _ => exact (cell_of H _).trans hv
    | 11, _ => exact (cell_of H _).trans hv
    | 12, _ => exact (cell_of H _).trans hv
    | 13, _ => exact (cell_of H _).trans hv
    | 14, _ => exact (cell_of H _).trans hv
  | 1, hx =>
    obtain rfl : _ = x := Option.some.inj hx
    refine ⟨rfl, by decide, (cell_of H 17).trans rfl, (cell_of H 18).trans rfl, z15_one, fun j v hv => ?_⟩
    have hj : j < 15 := (List.getElem?_eq_some_iff.1 hv).1
    match j, hj with
    | 0, _ => exact (cell_of H _).trans hv
    | 1, _ => exact (cell_of H _).trans hv
    | 2, _ => exact (cell_of H _).trans hv
    | 3, _ => exact (cell_of H _).trans hv
    | 4, _ => exact (cell_of H _).trans hv
    | 5, _ => exact (cell_of H _).trans hv
    | 6, _ => exact (cell_of H _).trans hv
    | 7, _ => exact (cell_of H _).trans hv
    | 8, _ => exact (cell_of H _).trans hv
    | 9, _ => exact (cell_of H _).trans hv
    | 10, _ => exact (cell_of H _).trans hv
    | 11, _ => exact (cell_of H _).trans hv
    | 12, _ => exact (cell_of H _).trans hv
    | 13, _ => exact (cell_of H _).trans hv
    | 14, _ => exact (cell_of H _).trans hv
theorem cst_two : cstP [] 0 [⟨65, 0, z15⟩, ⟨109, 0, z15⟩] 0 = (1, 160) := by
  have h1 : cstE [] 0 65 0 = 0 := by decide
  have h2 : cstE [] 0 109 0 = 160 := by decide
  unfold cstP
  simp only [h1, if_true]
  unfold cstP
  simp [h2]
set_option maxRecDepth 100000 in
set_option maxHeartbeats 2000000 in
theorem awakeR_any (w : World) : Calls Tryz.prog 9 #[] w fun en w' => en = .returned (.bool true) ∧ Grew w w' := by
  have CK : Hid (∀ X lv, LIn X lv [⟨65, 0, z15⟩, ⟨109, 0, z15⟩] → Calls Tryz.prog 5 #[.agg #[NILS, NILS, NILS, NILS, NILS, NILS, NILS, .int .i64 0, NILS], lv, .int .i64 0] X fun en w' => en = .returned (.tuple #[.int .i64 1, .int .i64 160]) ∧ Grew X w') := fun X lv h => (const_any NILS NILS NILS NILS NILS NILS (.int .i64 0) NILS (gv := NILS) (GL := []) (Lst.nil _ _ _) h 0).mono (by
    rintro en w' ⟨rfl, g⟩
    rw [cst_two]
    exact ⟨rfl, g⟩)
  go_enter Tryz.func9, Tryz.ntmps9
  go_wp2_with fail
  refine (CK.out _ _ (two_lst _)).mono ?_
  rintro en w1 ⟨rfl, g1⟩
  have gx : Grew w w1 := Grew.trans ((Grew.refl w).alloc _) g1
  have G1 := Hid.mk' gx
  clear g1 gx CK
  go_wp2_with fail
  go_ret
  exact ⟨rfl, G1.out⟩
set_option maxRecDepth 100000 in
set_option maxHeartbeats 4000000 in
theorem vrefConsts_any {w : World} (s0 s1 s2 s3 s5 s6 s7 s8 : Value) {gv : Value} {GL : List GLt} (hG : LGl w gv GL) {lv : Value} {l : List IT} (hL : LIn w lv l) (gb op : Int) :
    Calls Tryz.prog 3 #[.agg #[s0, s1, s2, s3, gv, s5, s6, s7, s8], lv, .int .i64 gb, .int .i64 op] w fun en w' => en = .returned (.bool true) ∧ Grew w w' := by
  have CC : Hid (∀ X, Grew w X → Calls Tryz.prog 5 #[.agg #[s0, s1, s2, s3, gv, s5, s6, s7, s8], lv, .int .i64 gb] X fun en w' => en = .returned (.tuple #[.int .i64 ((cstP GL gb l 0).1 : Int), .int .i64 (cstP GL gb l 0).2]) ∧ Grew X w') := fun X g => const_any s0 s1 s2 s3 s5 s6 s7 s8 (hG.grew g) (hL.grew g) gb
  have CR : Hid (∀ X, Grew w X → Calls Tryz.prog 6 #[.agg #[s0, s1, s2, s3, gv, s5, s6, s7, s8], lv, .int .i64 gb] X fun en w' => en = .returned (.tuple #[.int .i64 ((cstP GL gb l 0).1 : Int), .int .i64 (cstP GL gb l 0).2]) ∧ Grew X w') := fun X g => rconst_any s0 s1 s2 s3 s5 s6 s7 s8 (hG.grew g) (hL.grew g) gb
  have CT : Hid (∀ W, Calls Tryz.prog 8 #[.int .i64 op] W fun en w' => en = .returned (.bool (inVR op)) ∧ Grew W w') := fun W => rtakes_any op W
  generalize ((cstP GL gb l 0).1 : Int) = A1 at *
  generalize (cstP GL gb l 0).2 = E1 at *
  clear hG hL
  have N0 : (w.alloc (.cells #[s0, s1, s2, s3, gv, s5, s6, s7, s8] 30)).heap[w.heap.size]? = some (.cells #[s0, s1, s2, s3, gv, s5, s6, s7, s8] 30 (0, 0)) := heap_alloc_last _ _
  have HN := Hid.mk' N0
  clear N0
  go_enter Tryz.func3, Tryz.ntmps3
  go_wp2_with (first
    | (with_reducible refine stop_load 30 rfl ?_
       unfold Stop
       refine wpList_load_row rfl 30 _ rfl w.heap.size (by go_simp) 30 #[s0, s1, s2, s3, gv, s5, s6, s7, s8] (0, 0) _ HN.out Tryz.underlying30 rfl (by kernel_rfl) ?_)
    | fail)
  refine (CC.out _ ((Grew.refl w).alloc _)).mono ?_
  rintro en w1 ⟨rfl, g1⟩
  have gx : Grew w w1 := Grew.trans ((Grew.refl w).alloc _) g1
  have G1 := Hid.mk' gx
  have HN1 := Hid.mk' ((g1.turn []).other HN.out (by simp))
  clear g1 gx CC HN
  go_wp2_with (first
    | (with_reducible refine stop_load 30 rfl ?_
       unfold Stop
       refine wpList_load_row rfl 30 _ rfl w.heap.size (by go_simp) 30 #[s0, s1, s2, s3, gv, s5, s6, s7, s8] (0, 0) _ HN1.out Tryz.underlying30 rfl (by kernel_rfl) ?_)
    | fail)
  refine (CR.out _ G1.out).mono ?_
  rintro en w2 ⟨rfl, g2⟩
  have G2 := Hid.mk' (G1.out.trans g2)
  clear g2 CR G1 HN1
  go_wp2_with fail
  refine (vrops_any _).mono ?_
  rintro en w3 ⟨g, c, F, rfl, hb, hc1, hc2, hF, hz, g3⟩
  have G3 := Hid.mk' (G2.out.trans g3)
  have HF := Hid.mk' hF
  have HZ := Hid.mk' hz
  have hg := hz.lt
  clear hb hF hz g3 G2
  go_wp2_with fail
  go_loopw [14, 15] (fun b i wx => ∃ j : Nat, j ≤ 36 ∧ i = .int .i64 j ∧ b = .bool ((VRL.take j).any (fun x => decide (x = op))) ∧ Grew w3 wx) (fun _ i _ => 36 - (intOf i).toNat)
  case atStart => exact ⟨0, by omega, rfl, rfl, Grew.refl w3⟩
  case round =>
    obtain ⟨j, hj, rfl, rfl, pg⟩ := hrel
    have PG : Hid (Grew w3 wr) := pg
    by_cases hlt : j < 36
    · obtain ⟨n, hn⟩ : ∃ n, VRL[j]? = some n := ⟨VRL[j]'(by rw [VRL_len]; exact hlt), List.getElem?_eq_getElem (by rw [VRL_len]; exact hlt)⟩
      have HS : Hid ((VRL.take (j + 1)).any (fun x => decide (x = op)) = ((VRL.take j).any (fun x => decide (x = op)) || decide (n = op))) := has_stepR hn
      have CE : ∀ k m, VRL[k]? = some m → k < 36 → wr.cell? ⟨g, k, none⟩ = some (.int .i64 m) := by
        intro k m hk hk2
        rw [pg.1.cell hg, HZ.out.cell (by omega)]
        have := (HF.out k hk2).symm.trans hk
        rw [Option.some.inj this]
      have q0 := CE j n hn hlt
      have d1 : decide ((j : Int) < 36) = true := by simp; omega
      generalize (VRL.take j).any (fun x => decide (x = op)) = B at *
      have hgr : g < wr.heap.size := Nat.lt_of_lt_of_le hg pg.2
      have heq : (n == op) = decide (n = op) := rfl
      by_cases hj0 : j = 0
      · have d2 : decide ((0 : Int) < (j : Int)) = false := by simp; omega
        have d2n : decide (0 < j) = false := by simp; omega
        have m : Int := 0
        clear CE pg hn hj0
        go_wp2_with fail
        refine wp_region_ck [(g, j, .int .i64 n), (g, j, .int .i64 n)] (by kernel_rfl) (by kernel_rfl) ⟨⟨hgr, q0⟩, ⟨hgr, q0⟩, trivial⟩ ?_
        repeat (first
          | go_big_quiet_skip
          | (go_big_quiet_want
             go_big_quiet_op
             first
             | (refine ⟨.bool true, fun w' hw' => ?_, ?_⟩
                · (go_simp; done)
                go_big_quiet_on)
             | (refine ⟨.bool false, fun w' hw' => ?_, ?_⟩
                · (go_simp; done)
                go_big_quiet_on)
             | (refine ⟨.int .i64 (j : Int), fun w' hw' => ?_, ?_⟩
                · (go_simp; done)
                go_big_quiet_on)
             | go_big_quiet_on
             | (refine ⟨_, fun _ _ => rfl, ?_⟩; go_big_quiet_on)
             | (refine ⟨.int .i64 n, fun w' hw' => ?_, ?_⟩
                · (obtain ⟨_, ⟨_, hc0⟩, ⟨_, hc1⟩, _⟩ := hw'; go_simp; done)
                go_big_quiet_on)
             | (refine ⟨.int .i64 m, fun w' hw' => ?_, ?_⟩
                · (obtain ⟨_, ⟨_, hc0⟩, ⟨_, hc1⟩, _⟩ := hw'; go_simp; done)
                go_big_quiet_on)))
        refine wpQuiet_nil ?_
        rintro w6 ⟨g6, _⟩
        have G6 : Hid (Grew w3 w6) := PG.out.trans g6
        have r0 : w6.cell? ⟨g, j, none⟩ = some (.int .i64 n) := by rw [g6.1.cell hgr]; exact q0
        clear g6 q0
        cases B with
        | true =>
          go_wp2_with fail
          go_roundw
          case rel => exact ⟨j + 1, by omega, by go_num, by rw [HS.out]; rfl, G6.out⟩
          case measure => simp [intOf]; omega
        | false =>
          go_wp2_with fail
          go_roundw
          case rel => exact ⟨j + 1, by omega, by go_num, by rw [HS.out]; rfl, G6.out⟩
          case measure => simp [intOf]; omega
      · obtain ⟨i, hi⟩ : ∃ i, j = i + 1 := ⟨j - 1, by omega⟩
        obtain ⟨m, hm⟩ : ∃ m, VRL[i]? = some m := ⟨VRL[i]'(by rw [VRL_len]; omega), List.getElem?_eq_getElem (by rw [VRL_len]; omega)⟩
        have hrise := rise_at VRL i m n VRL_rise hm (by rw [← hi]; exact hn)
        have q1 := CE i m hm (by omega)
        have d2 : decide ((0 : Int) < (j : Int)) = true := by simp; omega
        have d2n : decide (0 < j) = true := by simp; omega
        have hw : IntKind.i64.wrap ((j : Int) - 1) = (i : Int) := by rw [wrap_id (by omega) (by omega)]; omega
        have hs : (j : Int) - 1 = (i : Int) := by omega
        have d3 : decide (n ≤ m) = false := by simp; omega
        have b1 : (i : Int) < 36 := by omega
        have b2 : (j : Int) < 36 := by omega
        clear CE pg hn hm hj0 hi hrise
        go_wp2_with fail
        refine wp_region_ck [(g, j, .int .i64 n), (g, i, .int .i64 m)] (by kernel_rfl) (by kernel_rfl) ⟨⟨hgr, q0⟩, ⟨hgr, q1⟩, trivial⟩ ?_
        repeat (first
          | go_big_quiet_skip
          | (go_big_quiet_want
             go_big_quiet_op
             first
             | (refine ⟨.bool true, fun w' hw' => ?_, ?_⟩
                · (go_simp; done)
                go_big_quiet_on)
             | (refine ⟨.bool false, fun w' hw' => ?_, ?_⟩
                · (go_simp; done)
                go_big_quiet_on)
             | (refine ⟨.int .i64 (i : Int), fun w' hw' => ?_, ?_⟩
                · (go_simp; done)
                go_big_quiet_on)
             | go_big_quiet_on
             | (refine ⟨_, fun _ _ => rfl, ?_⟩; go_big_quiet_on)
             | (refine ⟨.int .i64 n, fun w' hw' => ?_, ?_⟩
                · (obtain ⟨_, ⟨_, hc0⟩, ⟨_, hc1⟩, _⟩ := hw'; go_simp; done)
                go_big_quiet_on)
             | (refine ⟨.int .i64 m, fun w' hw' => ?_, ?_⟩
                · (obtain ⟨_, ⟨_, hc0⟩, ⟨_, hc1⟩, _⟩ := hw'; go_simp; done)
                go_big_quiet_on)))
        refine wpQuiet_nil ?_
        rintro w6 ⟨g6, _⟩
        have G6 : Hid (Grew w3 w6) := PG.out.trans g6
        have r0 : w6.cell? ⟨g, j, none⟩ = some (.int .i64 n) := by rw [g6.1.cell hgr]; exact q0
        clear g6 q0
        cases B with
        | true =>
          go_wp2_with fail
          go_roundw
          case rel => exact ⟨j + 1, by omega, by go_num, by rw [HS.out]; rfl, G6.out⟩
          case measure => simp [intOf]; omega
        | false =>
          go_wp2_with fail
          go_roundw
          case rel => exact ⟨j + 1, by omega, by go_num, by rw [HS.out]; rfl, G6.out⟩
          case measure => simp [intOf]; omega
    · have hjn : j = 36 := by omega
      have e36 : VRL.take 36 = VRL := by rw [← VRL_len, List.take_length]
      have HB : (VRL.take j).any (fun x => decide (x = op)) = inVR op := by rw [hjn, e36]; exact VRL_has op
      rw [HB]
      have hd : decide ((j : Int) < 36) = false := by simp; omega
      have GA : Hid (Grew w wr) := G3.out.trans pg
      clear HB hjn e36 pg PG G3 HF HZ
      generalize inVR op = B at *
      have CW : Hid (∀ W, Calls Tryz.prog 9 #[] W fun en w' => en = .returned (.bool true) ∧ Grew W w') := awakeR_any
      cases B
      all_goals
        go_wp2_with fail
        refine (CT.out _).mono ?_
        rintro en w4 ⟨rfl, g4⟩
        have G4 := Hid.mk' (GA.out.trans g4)
        clear g4
        go_wp2_with fail
        refine (CW.out _).mono ?_
        rintro en w6 ⟨rfl, g6⟩
        have G6 := Hid.mk' (G4.out.trans g6)
        clear g6
        go_wp2_with fail
        go_ret
        exact ⟨rfl, G6.out⟩
end Go.Proofs.YtikbfhhebhhglaaGreatDoor
