/-
  The walk of Ops; no statement is proved here.
-/
import Derived.Test.YtahmjgmaaaegcaaGreatDoorPreW
namespace Go.Proofs.YtahmjgmaaaegcaaGreatDoor
open Go.RowKit
set_option linter.unusedVariables false
set_option linter.unusedSimpArgs false

theorem own_neT {w : World} {B e size n : Nat} {v : Value} {xs : List Value} {k : Nat} {cs : Array Value} {t : TypeId} {f : Nat × Nat} (h : w.ownsRow B e size v n xs) (hk : w.heap[k]? = some (.cells cs t f)) (hne : t ≠ e) : some k ≠ v.ownBlock := by
  rcases h.2 with ⟨rfl, _⟩ | ⟨g, cap, cur, rfl, hb, hg, rest⟩
  · simp [Value.ownBlock]
  · intro e'
    simp only [Value.ownBlock, Option.some.injEq] at e'
    subst e'
    rw [hk] at hg
    injection hg with hg
    injection hg with _ h2 _
    exact hne h2
theorem grew_tb {w w1 w' : World} {b B : Nat} (g : Grew w w1) (t : TB b B w1 w') (hb : w.heap.size ≤ b) (hB : w.heap.size ≤ B) : Grew w w' :=
  ⟨⟨t.os.trans g.1.os, t.tape.trans g.1.tape, t.output.trans g.1.output, Nat.le_trans g.2 t.size, fun k hk => (t.block k (Nat.lt_of_lt_of_le hk g.2) (by omega) (by omega)).trans (g.1.block k hk)⟩, Nat.le_trans g.2 t.size⟩
theorem pairs_fst (a : List UInt8) : ∀ (l : List (List UInt8)) (f : Int), (pairsF f a l).map (·.1) = rangeI f l.length
  | [], f => rfl
  | x :: l, f => by rw [pairsF, List.map_cons, pairs_fst a l, List.length_cons, rangeI]
theorem range_snoc : ∀ (n : Nat) (f : Int), rangeI f (n + 1) = rangeI f n ++ [f + n]
  | 0, f => by simp [rangeI]
  | n + 1, f => by
    rw [rangeI, range_snoc n (f + 1), rangeI, List.cons_append]
    congr 3
    omega
theorem range_len : ∀ (n : Nat) (f : Int), (rangeI f n).length = n
  | 0, f => rfl
  | n + 1, f => by rw [rangeI, List.length_cons, range_len n]
def opsOf (r : Int × List UInt8 × List UInt8) : List Int := rangeI r.1 (cutW r.2.2 []).length
theorem OL_is : OL = RL.flatMap opsOf := by
  unfold OL PL
  rw [List.map_flatMap]
  congr 1
  funext r
  exact pairs_fst _ _ _
def IV (l : List Int) : List Value := l.map (Value.int .i64)
theorem ops_le (k : Nat) : ((RL.take k).flatMap opsOf).length ≤ 243 := by
  rw [← OL_len, OL_is]
  conv => rhs; rw [← List.take_append_drop k RL, List.flatMap_append, List.length_append]
  omega
theorem RL_ok {k : Nat} {r : Int × List UInt8 × List UInt8} (h : RL[k]? = some r) : 0 ≤ r.1 ∧ r.1 ≤ 64520 ∧ (∀ c ∈ r.2.2, c.toNat < 128) ∧ r.2.2.length ≤ 1000 ∧ r.2.1.length ≤ 1000 ∧ (∀ x ∈ cutW r.2.2 [], x.length ≤ 1000) ∧ (cutW r.2.2 []).length ≤ 1000 := by
  obtain ⟨h1, h2, h3, h4, h5, h6, h7⟩ := RL_fine r (List.mem_of_getElem? h)
  exact ⟨h1, h2, fun c hc => of_decide_eq_true (List.all_eq_true.1 h3 c hc), h4, h5, fun x hx => of_decide_eq_true (List.all_eq_true.1 h6 x hx), h7⟩
theorem RL_take {k : Nat} {r : Int × List UInt8 × List UInt8} (h : RL[k]? = some r) : RL.take (k + 1) = RL.take k ++ [r] := by
  obtain ⟨h', he⟩ := List.getElem?_eq_some_iff.1 h
  rw [List.take_succ_eq_append_getElem h', he]
theorem RL_ex {k : Nat} (hk : k < 30) : ∃ r, RL[k]? = some r := ⟨RL[k]'(by rw [RL_len]; exact hk), List.getElem?_eq_getElem (by rw [RL_len]; exact hk)⟩
set_option maxRecDepth 100000 in
set_option maxHeartbeats 2000000 in
theorem ops_any (w : World) :
    Calls Tryz.prog 21 #[] w fun e w' => ∃ v, e = .returned v ∧ w'.ownsRow w.heap.size 3 1 v OL.length (IV OL) ∧ Grew w w' := by
  go_enter Tryz.func21, Tryz.ntmps21
  go_wp2_with fail
  refine (runs_any _).mono ?_
  rintro e w1 ⟨rfl, hw1⟩
  have hsz : w1.heap.size = w.heap.size + 1 := by rw [hw1]; simp
  have O0 : Hid (w1.heap[w.heap.size]? = some (.cells RUNS 84 (0, 0))) := by rw [hw1]; exact heap_alloc_last w _
  have G1 : Hid (Grew w w1) := by rw [hw1]; exact (Grew.refl w).alloc _
  clear hw1
  go_wp2_with fail
  go_loopw [1, 7] (fun s i wx => ∃ k : Nat, k ≤ 30 ∧ i = .int .i64 k ∧ wx.ownsRow (w.heap.size + 1) 3 1 s ((RL.take k).flatMap opsOf).length (IV ((RL.take k).flatMap opsOf)) ∧ wx.heap[w.heap.size]? = some (.cells RUNS 84 (0, 0)) ∧ Grew w wx) (fun _ i _ => 30 - (intOf i).toNat)
  case atStart => exact ⟨0, by omega, rfl, World.ownsRow_nil _ _ _ _, O0.out, G1.out⟩
  case round =>
    obtain ⟨k, hk, rfl, p0, p1, pg⟩ := hrel
    clear O0 G1
    by_cases hlt : k < 30
    · obtain ⟨r, hr⟩ := RL_ex hlt
      obtain ⟨q0, q1, q2⟩ := runs_cell p1 hr
      have hT : Hid (RL.take (k + 1) = RL.take k ++ [r]) := RL_take hr
      obtain ⟨f1, f2, f3, f4, f5, f6, f7⟩ := RL_ok hr
      have CC : Hid (∀ W, Calls Tryz.prog 62 #[.string (BA r.2.2)] W fun e w' => ∃ v, e = .returned v ∧ w'.ownsRow W.heap.size 9 1 v (cutW r.2.2 []).length ((cutW r.2.2 []).map ST) ∧ Grew W w') := fun W => cut_any r.2.2 f3 (by omega) W
      have P0 : Hid (wr.ownsRow (w.heap.size + 1) 3 1 u1 ((RL.take k).flatMap opsOf).length (IV ((RL.take k).flatMap opsOf))) := p0
      have P1 : Hid _ := p1
      have PG : Hid (Grew w wr) := pg
      have hs0 : w.heap.size < wr.heap.size := lt_of_obj p1
      have hle := ops_le (k + 1)
      rw [RL_take hr, List.flatMap_append, List.length_append] at hle
      have ho : opsOf r = rangeI r.1 (cutW r.2.2 []).length := rfl
      have hle2 : ((RL.take k).flatMap opsOf).length + (cutW r.2.2 []).length ≤ 243 := by
        simp only [List.flatMap_cons, List.flatMap_nil, List.append_nil, ho, range_len] at hle
        exact hle
      have HO : Hid (opsOf r = rangeI r.1 (cutW r.2.2 []).length) := ho
      obtain ⟨L, hL⟩ : ∃ L, cutW r.2.2 [] = L := ⟨_, rfl⟩
      rw [hL] at CC HO hle2 f7
      obtain ⟨A, hA⟩ : ∃ A, (RL.take k).flatMap opsOf = A := ⟨_, rfl⟩
      have HA : Hid ((RL.take k).flatMap opsOf = A) := hA
      rw [hA] at P0 hle2
      clear p0 p1 pg hr f3 f4 f5 f6 hL hA hle ho
      obtain ⟨ua, uc, hu1⟩ := row_one P0.out
      subst hu1
      go_wp2_with fail
      refine (CC.out _).mono ?_
      rintro en w2 ⟨v, rfl, hv, g2⟩
      obtain ⟨va, vc, rfl⟩ := row_one hv
      have K2 : Hid (w2.heap[wr.heap.size]? = some (.cells #[.int .i64 r.1, .string (BA r.2.1), .string (BA r.2.2)] 84 (0, 0))) := (g2.turn []).other (heap_alloc_last _ _) (by simp)
      have G2 : Hid (Grew w w2) := (PG.out.alloc _).trans g2
      have R2 : Hid (w2.ownsRow (w.heap.size + 1) 3 1 (.slice ua A.length uc) A.length (IV A)) := row_turn P0.out ((((Grew.refl wr).alloc _).trans g2).turn []) (by simp)
      have B2 : Hid (w2.heap[w.heap.size]? = some (.cells RUNS 84 (0, 0))) := (g2.turn []).other (heap_alloc P1.out _) (by simp)
      have hs2 : wr.heap.size < w2.heap.size := lt_of_obj K2.out
      clear g2 hv CC P0 P1 PG
      go_wp2_with fail
      generalize wr.heap.size = rb at *
      go_loopw [1, 15] (fun s i wx => ∃ j : Nat, j ≤ L.length ∧ i = .int .i64 j ∧ wx.ownsRow (w.heap.size + 1) 3 1 s (A ++ rangeI r.1 j).length (IV (A ++ rangeI r.1 j)) ∧ wx.heap[w.heap.size]? = some (.cells RUNS 84 (0, 0)) ∧ wx.heap[rb]? = some (.cells #[.int .i64 r.1, .string (BA r.2.1), .string (BA r.2.2)] 84 (0, 0)) ∧ Grew w wx) (fun _ i _ => L.length - (intOf i).toNat)
      case atStart => exact ⟨0, by omega, rfl, by simpa [rangeI] using R2.out, B2.out, K2.out, G2.out⟩
      case round =>
        obtain ⟨j, hj, rfl, p0, p1, p2, pg⟩ := hrel
        clear R2 B2 K2 G2
        have P0 : Hid _ := p0
        have P1 : Hid _ := p1
        have P2 : Hid _ := p2
        have PG : Hid (Grew w wr) := pg
        have y0 := cell_of p2 0
        simp at y0
        have hb1 : w.heap.size < wr.heap.size := lt_of_obj p1
        have hb2 : rb < wr.heap.size := lt_of_obj p2
        have hn : (A ++ rangeI r.1 j).length = A.length + j := by rw [List.length_append, range_len]
        clear p1 p2 pg
        by_cases hlt2 : j < L.length
        · have d1 : decide ((j : Int) < L.length) = true := by simp; omega
          go_wp2_with (at_builtin; refine wp_app1 rfl (.tmp 18) (.tmp 23) 25 3 1 8 (.int .i64 0) Tryz.underlying25 (by kernel_rfl) rfl (by decide) (by decide) rfl w.heap.size rfl rfl p0 (by omega) rfl (by intro u hu; simp at hu; subst hu; rfl) (by rw [hn]; omega) ?_; intro v' w' hv' ht' hb')
          go_roundw
          case rel =>
            refine ⟨j + 1, by omega, by go_num, ?_, ?_, ?_, ?_⟩
            · rw [range_snoc, ← List.append_assoc, List.length_append, IV, List.map_append]
              exact hv'
            · exact (hb' _ hb1 (own_neT P0.out P1.out (by decide))).trans P1.out
            · exact (hb' _ hb2 (own_neT P0.out P2.out (by decide))).trans P2.out
            · exact grew_tb PG.out ht' (Nat.le_refl _) (by omega)
          case measure => simp [intOf]; omega
        · obtain rfl : j = L.length := by omega
          have d1 : decide ((L.length : Int) < L.length) = false := by simp
          go_wp2_with fail
          go_roundw
          case rel =>
            refine ⟨k + 1, by omega, by go_num, ?_, P1.out, PG.out⟩
            rw [hT.out, List.flatMap_append, HA.out, List.flatMap_cons, List.flatMap_nil, List.append_nil, HO.out]
            exact P0.out
          case measure => simp [intOf]; omega
    · obtain rfl : k = 30 := by omega
      have e30 : RL.take 30 = RL := by rw [← RL_len, List.take_length]
      rw [e30, ← OL_is] at p0
      have P0 : Hid _ := p0
      have PG : Hid (Grew w wr) := pg
      obtain ⟨ua, uc, hu1⟩ := row_one p0
      subst hu1
      clear p0 p1 pg e30
      go_wp2_with fail
      go_ret
      exact ⟨_, rfl, row_low P0.out (by omega), PG.out⟩
end Go.Proofs.YtahmjgmaaaegcaaGreatDoor
