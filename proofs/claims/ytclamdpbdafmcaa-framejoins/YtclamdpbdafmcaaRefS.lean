/-
  The walks of the document's Rank, head and Split; no statement is proved here.
-/
import Derived.Test.YtclamdpbdafmcaaAlike
import Derived.Test.YtclamdpbdafmcaaRefN
namespace Go.Proofs.Ytclamdpbdafmcaa
open Go.RowKit
set_option linter.unusedVariables false

theorem rank_low {id : Int} (h0 : 0 ≤ id) (h1 : id ≤ 5) : rank id = id := by
  obtain ⟨k, rfl⟩ : ∃ k : Nat, id = k := ⟨id.toNat, by omega⟩
  have : ∀ k < 6, ranks.getD k 0 = (k : Int) := by decide
  rw [rank_nat k (by omega), this k (by omega)]
theorem rank_mid {id : Int} (h0 : 6 ≤ id) (h1 : id ≤ 9) : rank id = id + 1 := by
  obtain ⟨k, rfl⟩ : ∃ k : Nat, id = k := ⟨id.toNat, by omega⟩
  have : ∀ k < 10, 6 ≤ k → ranks.getD k 0 = (k : Int) + 1 := by decide
  rw [rank_nat k (by omega), this k (by omega) (by omega)]
theorem rank_high {id : Int} (h0 : 10 ≤ id) (h1 : id ≤ 11) : rank id = id + 2 := by
  obtain ⟨k, rfl⟩ : ∃ k : Nat, id = k := ⟨id.toNat, by omega⟩
  have : ∀ k < 12, 10 ≤ k → ranks.getD k 0 = (k : Int) + 2 := by decide
  rw [rank_nat k (by omega), this k (by omega) (by omega)]
set_option maxRecDepth 100000 in
set_option maxHeartbeats 1000000 in
theorem refRank_any (id : Int) (w : World) :
    Calls Try.prog 25 #[.int .i64 id] w fun e w' => e = .returned (.int .i64 (rank id)) ∧ w' = w := by
  by_cases h0 : 0 ≤ id
  · have d0 : decide (id < 0) = false := by simp; omega
    by_cases h13 : id ≤ 13
    · have d1 : decide (13 < id) = false := by simp; omega
      by_cases e13 : id = 13
      · subst e13
        rw [show rank 13 = 6 from by decide]
        go_enter Try.func25, Try.ntmps25
        go_wp2
        go_ret
        exact ⟨rfl, rfl⟩
      · have b13 : (id == 13) = false := beq_eq_false_iff_ne.2 e13
        by_cases e12 : id = 12
        · subst e12
          rw [show rank 12 = 11 from by decide]
          go_enter Try.func25, Try.ntmps25
          go_wp2
          go_ret
          exact ⟨rfl, rfl⟩
        · have b12 : (id == 12) = false := beq_eq_false_iff_ne.2 e12
          by_cases e5 : id ≤ 5
          · rw [rank_low h0 e5]
            go_enter Try.func25, Try.ntmps25
            go_wp2
            go_ret
            exact ⟨rfl, rfl⟩
          · by_cases e9 : id ≤ 9
            · rw [rank_mid (by omega) e9]
              go_enter Try.func25, Try.ntmps25
              go_wp2
              go_ret
              exact ⟨rfl, rfl⟩
            · rw [rank_high (by omega) (by omega)]
              go_enter Try.func25, Try.ntmps25
              go_wp2
              go_ret
              exact ⟨rfl, rfl⟩
    · have d1 : decide (13 < id) = true := by simp; omega
      rw [rank_no (by omega)]
      go_enter Try.func25, Try.ntmps25
      go_wp2
      go_ret
      exact ⟨rfl, rfl⟩
  · have d0 : decide (id < 0) = true := by simp; omega
    rw [rank_no (by omega)]
    go_enter Try.func25, Try.ntmps25
    go_wp2
    go_ret
    exact ⟨rfl, rfl⟩
theorem head42 (w : World) : Calls Try.prog 42 #[] w fun e w' => e = .returned (.slice (some ⟨w.heap.size, 0, none⟩) 8 8) ∧ w' = w.alloc preO := by
  go_enter Try.func42, Try.ntmps42
  go_wp2_with fail
  go_ret
  exact ⟨rfl, rfl⟩

theorem OwnS.fresh {base : Nat} {w w' : World} {v : Value} {L : List (Sec × Value)} (h : OwnS base w v L) (ht : Turn [] w w') : OwnS base w' v L := h.turn ht (by simp)

set_option maxRecDepth 100000 in
set_option maxHeartbeats 8000000 in
theorem refSplit_body (a : Option Addr) (cap : Nat) (l : List Int) (w : World) (hR : Reads w (.slice a l.length cap) l) (hb : Byt l) (hlen : l.length ≤ 1048576) :
    Calls Try.prog 19 #[.slice a l.length cap] w fun en w' => ∃ vs L, en = .returned (.tuple #[vs, .int .i64 (body l).2.1, .int .i64 (body l).2.2]) ∧ L.map Prod.fst = (body l).1 ∧ OwnS w.heap.size w' vs L ∧ Grew w w' := by
  obtain ⟨R, hRR⟩ : ∃ R, R = body l := ⟨_, rfl⟩
  rw [← hRR]
  have HRB : Hid (R = body l) := hRR
  have HR : Hid (Reads w (.slice a l.length cap) l) := hR
  have HB : Hid (Byt l) := hb
  have d : decide ((1048576 : Int) < l.length) = false := by simp; omega
  clear hRR hR hb
  go_enter Try.func19, Try.ntmps19
  go_wp2_with fail
  refine (head42 w).mono ?_
  rintro en w1 ⟨rfl, rfl⟩
  clear d
  go_wp2_with fail
  go_loopw [6] (fun i wr => ∃ k : Nat, i = .int .i64 k ∧ k ≤ 8 ∧ k ≤ l.length ∧ pr l 0 hd = pr l k (hd.drop k) ∧ Grew w wr ∧ wr.heap[w.heap.size]? = some preO) (fun i _ => 8 - (intOf i).toNat)
  case atStart => exact ⟨0, rfl, by omega, by omega, rfl, (Grew.refl w).alloc _, heap_alloc_last _ _⟩
  case round =>
    obtain ⟨k, rfl, hk8, hkl, hpk, hg, hp⟩ := hrel
    have HPK : Hid (pr l 0 hd = pr l k (hd.drop k)) := hpk
    have G1 : Hid (Grew w wr) := hg
    have P1 : Hid (wr.heap[w.heap.size]? = some preO) := hp
    clear hpk hg hp
    by_cases h8 : k < 8
    · obtain ⟨c, hc⟩ : ∃ c, c = hd.getD k 0 := ⟨_, rfl⟩
      have cp := preO_cell P1.out k h8
      rw [← hc] at cp
      have HC : Hid (hd.drop k = c :: hd.drop (k + 1)) := by show _ = _; rw [hd_drop k h8, hc]
      clear hc
      by_cases hend : l.length ≤ k
      · have HX : Hid (R = ([], (l.length : Int), 3)) := by
          show R = _
          rw [HRB.out]; unfold body; rw [HPK.out, HC.out, pr, if_pos hend]
        go_wp2_with fail
        go_ret3
        exact ⟨_, [], by rw [HX.out]; rfl, by rw [HX.out]; rfl, OwnS.nil _ _, G1.out⟩
      · have hkl' : k < l.length := by omega
        obtain ⟨bb, off, rfl, cb⟩ := (G1.out.reads HR.out).at (k := k) (by omega)
        obtain ⟨x, hx⟩ : ∃ x, x = l.getD k 0 := ⟨_, rfl⟩
        rw [← hx] at cb
        have HXX : Hid (x = l.getD k 0) := hx
        clear hx
        by_cases hne : x = c
        · have d2 : (x != c) = false := by simp [hne]
          have HX : Hid (pr l 0 hd = pr l (k + 1) (hd.drop (k + 1))) := by
            show _ = _
            rw [HPK.out, HC.out, pr, if_neg hend, if_neg (by rw [← HXX.out]; simpa using hne)]
          clear hne
          go_wp2_with fail
          go_quiet (fail)
          go_wp2_with fail
          go_roundw
          case rel => exact ⟨k + 1, by go_num, by omega, by omega, HX.out, G1.out.drewN _, heap_drewN P1.out _⟩
          case measure => simp [intOf]; omega
        · have d2 : (x != c) = true := by simpa using hne
          have HX : Hid (R = ([], (k : Int), 4)) := by
            show R = _
            rw [HRB.out]; unfold body; rw [HPK.out, HC.out, pr, if_neg hend, if_pos (by rw [← HXX.out]; exact hne)]
          clear hne
          go_wp2_with fail
          go_quiet (fail)
          go_wp2_with fail
          go_ret3
          exact ⟨_, [], by rw [HX.out]; rfl, by rw [HX.out]; rfl, OwnS.nil _ _, G1.out.drewN _⟩
    · have e8 : k = 8 := by omega
      subst e8
      have HP : Hid (R = sat l 8 0 []) := by show R = _; rw [HRB.out]; unfold body; rw [HPK.out]; rfl
      go_wp2_with fail
      go_loopw [7, 8, 9] (fun out la at_ wr => ∃ (A : Nat) (last : Int) (L : List (Sec × Value)), la = .int .i64 last ∧ at_ = .int .i64 A ∧ 0 ≤ last ∧ last ≤ 13 ∧ A ≤ l.length ∧ L.length ≤ A ∧ R = sat l A last (L.map Prod.fst) ∧ OwnS w.heap.size wr out L ∧ Grew w wr) (fun _ _ at_ _ => l.length - (intOf at_).toNat)
      case atStart => exact ⟨8, 0, [], rfl, rfl, by omega, by omega, by omega, by simp, HP.out, OwnS.nil _ _, G1.out⟩
      case round =>
        obtain ⟨A, last, L, rfl, rfl, hl0, hl13, hA, hLA, hRs, hO, hG⟩ := hrel
        have HRS : Hid (R = sat l A last (L.map Prod.fst)) := hRs
        have HO : Hid (OwnS w.heap.size wr u7 L) := hO
        have HG : Hid (Grew w wr) := hG
        clear hRs hO hG
        by_cases hlt : A < l.length
        · obtain ⟨bb, off, rfl, cb⟩ := (HG.out.reads HR.out).at (k := A) hlt
          obtain ⟨x, hx⟩ : ∃ x, x = l.getD A 0 := ⟨_, rfl⟩
          have hx0 := HB.out A
          rw [← hx] at cb hx0
          have HX : Hid (x = l.getD A 0) := hx
          obtain ⟨rk, hk⟩ : ∃ r, r = rank x := ⟨_, rfl⟩
          have cr := fun w => refRank_any x w
          rw [← hk] at cr
          have HK : Hid (rk = rank x) := hk
          have HRW : Hid (Reads wr (.slice (some ⟨bb, off, none⟩) l.length cap) l) := HG.out.reads HR.out
          have hcs := sec_cases l A last hlt HB.out
          rw [← hx, ← hk] at hcs
          clear hx hk
          have HL : Hid (L.length ≤ A) := hLA
          rcases hcs with ⟨hrk, h2⟩ | ⟨hrk, ⟨n, q, e, hrd, he, h2⟩ | ⟨n, N, Q, hrd, hN, hN32, hQ, hQ', ⟨hs', h2⟩ | ⟨hs', ⟨hr0, hrl, h2⟩ | ⟨hr0, hrl, hi, h2⟩ | ⟨hr0, hi, ⟨s', p', e', hn, he, h2⟩ | ⟨s', P, hn, hP1, hP2, h2⟩⟩⟩⟩⟩
          · have HE : Hid (R = ([], (A : Int), 4)) := by show R = _; rw [HRS.out, sat_bad hlt h2]
            subst hrk
            clear h2
            go_wp2_with fail
            refine (cr _).mono ?_
            rintro en w2 ⟨rfl, rfl⟩
            go_wp2_with fail
            go_ret3
            exact ⟨_, [], by rw [HE.out]; rfl, by rw [HE.out]; rfl, OwnS.nil _ _, HG.out⟩
          · have HE : Hid (R = ([], q, e)) := by show R = _; rw [HRS.out, sat_bad hlt h2]
            have cn := fun w hR => refU32_any (.slice (some ⟨bb, off, none⟩) l.length cap) l ((A + 1 : Nat) : Int) l.length w hR HB.out (by omega)
            rw [hrd, show ((A + 1 : Nat) : Int) = (A : Int) + 1 from by omega] at cn
            have he' : (e != 0) = true := by simpa using he
            clear h2 hrd he
            generalize n % 4294967296 = n' at *
            go_wp2_with fail
            refine (cr _).mono ?_
            rintro en w2 ⟨rfl, rfl⟩
            go_wp2_with fail
            refine (cn _ HRW.out).mono ?_
            rintro en w3 ⟨rfl, rfl⟩
            clear cn cr
            go_wp2_with fail
            go_ret3
            exact ⟨_, [], by rw [HE.out]; rfl, by rw [HE.out]; rfl, OwnS.nil _ _, HG.out⟩
          · have HE : Hid (R = ([], (l.length : Int), 3)) := by show R = _; rw [HRS.out, sat_bad hlt h2]
            have cn := fun w hR => refU32_any (.slice (some ⟨bb, off, none⟩) l.length cap) l ((A + 1 : Nat) : Int) l.length w hR HB.out (by omega)
            rw [hrd, hN, show ((A + 1 : Nat) : Int) = (A : Int) + 1 from by omega] at cn
            have dd : decide ((l.length : Int) - Q < N) = true := by simp; omega
            clear h2 hrd hN
            go_wp2_with fail
            refine (cr _).mono ?_
            rintro en w2 ⟨rfl, rfl⟩
            go_wp2_with fail
            refine (cn _ HRW.out).mono ?_
            rintro en w3 ⟨rfl, rfl⟩
            clear cn cr
            go_wp2_with fail
            go_ret3
            exact ⟨_, [], by rw [HE.out]; rfl, by rw [HE.out]; rfl, OwnS.nil _ _, HG.out⟩
          · have HE : Hid (R = ([], (A : Int), 20)) := by show R = _; rw [HRS.out, sat_bad hlt h2]
            have cn := fun w hR => refU32_any (.slice (some ⟨bb, off, none⟩) l.length cap) l ((A + 1 : Nat) : Int) l.length w hR HB.out (by omega)
            rw [hrd, hN, show ((A + 1 : Nat) : Int) = (A : Int) + 1 from by omega] at cn
            have dd : decide ((l.length : Int) - Q < N) = false := by simp; omega
            have dx : decide (0 < x) = true := by
              have := rank_cases x; rw [← HK.out] at this; simp; omega
            have dl : decide (rk ≤ last) = true := by simpa using hrl
            clear h2 hrd hN hr0
            go_wp2_with fail
            refine (cr _).mono ?_
            rintro en w2 ⟨rfl, rfl⟩
            go_wp2_with fail
            refine (cn _ HRW.out).mono ?_
            rintro en w3 ⟨rfl, rfl⟩
            clear cn
            go_wp2_with fail
            refine (cr _).mono ?_
            rintro en w4 ⟨rfl, rfl⟩
            clear cr
            go_wp2_with fail
            go_ret3
            exact ⟨_, [], by rw [HE.out]; rfl, by rw [HE.out]; rfl, OwnS.nil _ _, HG.out.alloc _⟩
          · have HS2 : Hid (secAt l A last = .ok (⟨x, [], (l.take (Q + N)).drop Q, Q⟩, Q + N, rk)) := h2
            have cn := fun w hR => refU32_any (.slice (some ⟨bb, off, none⟩) l.length cap) l ((A + 1 : Nat) : Int) l.length w hR HB.out (by omega)
            rw [hrd, hN, show ((A + 1 : Nat) : Int) = (A : Int) + 1 from by omega] at cn
            have dd : decide ((l.length : Int) - Q < N) = false := by simp; omega
            have dx : decide (0 < x) = true := by simp; omega
            have dl : decide (rk ≤ last) = false := by simp; omega
            have bx : (x == 0) = false := beq_eq_false_iff_ne.2 hi
            have hrk13 : rk ≤ 13 := by have := rank_cases x; rw [← HK.out] at this; omega
            obtain ⟨a', c', hsl, hr'⟩ := HRW.out.mid_ Q (Q + N) (by omega) hs'
            rw [Nat.add_sub_cancel_left] at hsl hr'
            have hsl' : ∀ (w' : World), (Instr.slice 22 (.slice (some ⟨bb, off, none⟩) l.length cap) (some (.int .i64 Q)) (some (.int .i64 ((Q : Int) + N))) none).run Try.prog w' = .ok (.slice a' N c') w' := by
              intro w'; have := hsl w'; rwa [show ((Q + N : Nat) : Int) = (Q : Int) + N from by omega] at this
            have RD : Hid (Reads wr (.slice a' N c') ((l.take (Q + N)).drop Q)) := hr'
            have hld : ((l.take (Q + N)).drop Q).length = N := by simp; omega
            have BLK : (wr.alloc (.cells #[.int .i64 x, .string ⟨#[]⟩, .slice none 0 0, .int .i64 Q] 45)).heap[wr.heap.size]? = some (.cells #[.int .i64 x, .string ⟨#[]⟩, .slice none 0 0, .int .i64 Q] 45 (0, 0)) := heap_alloc_last _ _
            clear h2 hrd hN hsl hr'
            go_wp2_with fail
            refine (cr _).mono ?_
            rintro en w2 ⟨rfl, hw⟩
            obtain rfl := hw.symm
            go_wp2_with fail
            refine (cn _ HRW.out).mono ?_
            rintro en w3 ⟨rfl, hw⟩
            obtain rfl := hw.symm
            clear cn
            go_wp2_with fail
            refine (cr _).mono ?_
            rintro en w4 ⟨rfl, hw⟩
            obtain rfl := hw.symm
            go_wp2_with fail
            refine (cr _).mono ?_
            rintro en w4 ⟨rfl, hw⟩
            obtain rfl := hw.symm
            clear cr
            go_wp2_with (first
              | (at_builtin; refine wp_appS rfl _ _ rfl rfl rfl (Has.nil _) (((Grew.refl _).alloc _).reads RD.out) (by simp; omega) ?_; intro vd w5 hh5; rw [List.nil_append] at hh5; have FB := (hh5.below.block wr.heap.size (by first | (simp; done) | (simp; omega))).trans BLK; have T5 : Turn [] wr (w5.setCell ⟨wr.heap.size, 2, none⟩ vd) := (((Turn.refl [] wr).alloc _).trans' (hh5.gr.turn []) (by simp)).set (Or.inr (Nat.le_refl _)) _; have OO : Hid (OwnS w.heap.size (w5.setCell ⟨wr.heap.size, 2, none⟩ vd) u7 L) := HO.out.fresh T5; have hvb : ∀ k, vd.ownBlock = some k → k ∉ [wr.heap.size] := (by intro k hk hm; have := hh5.1.lt k hk; simp at hm this; omega); have VO : Hid ((w5.setCell ⟨wr.heap.size, 2, none⟩ vd).ownsRow wr.heap.size 5 1 vd ((l.take (Q + N)).drop Q).length (U8 ((l.take (Q + N)).drop Q))) := own_turn (S := [wr.heap.size]) (hh5.1.mono (by first | (simp; done) | (simp; omega))) ((Turn.refl _ _).set (by simp) _) hvb; have TT : Hid (Turn [] wr (w5.setCell ⟨wr.heap.size, 2, none⟩ vd)) := T5; have hvs := hh5.reads.len; clear hh5 T5 hvb; obtain ⟨ad, cd, hvd⟩ := hvs; rw [hld] at hvd; subst hvd; have b0 := cell_of FB 0; have b1 := cell_of FB 1; have b2 := cell_of FB 2; have b3 := cell_of FB 3; have y2 := free_of FB 2; simp at b0 b1 b2 b3; clear FB)
              | (at_builtin; refine wp_appSec rfl _ _ rfl rfl (by simp [Act.eval, go_sem]) (c := (⟨x, [], (l.take (Q + N)).drop Q, Q⟩, .slice ad N cd)) OO.out (VO.out.mono HG.out.2) (fun x hx => own_ne (B' := 0) (HO.out.2.1 x hx) VO.out) (by have := HL.out; omega) (Nat.le_trans HG.out.2 TT.out.size) ?_; intro v' w7 hO7 hT7))
            obtain ⟨S, t7, hS⟩ := hT7
            refine ⟨?_, ?measure⟩
            iterate 12 (iterate 10 (try apply Exists.intro))
            refine ⟨?rel, rfl⟩
            case rel =>
              refine ⟨Q + N, rk, L ++ [(⟨x, [], (l.take (Q + N)).drop Q, Q⟩, _)], by first | rfl | (congr 1; omega), by go_num, by omega, by omega, hs', by have := HL.out; simp; omega, ?_, hO7, ?_⟩
              · rw [HRS.out, sat_ok HB.out hlt HS2.out]; simp
              · exact t7.grew (TT.out.grew HG.out (by simp)) (fun b hb => (hS b hb).1)
            case measure => simp [intOf]; omega
          · have HE : Hid (R = ([], p', e')) := by show R = _; rw [HRS.out, sat_bad hlt h2]
            have cn := fun w hR => refU32_any (.slice (some ⟨bb, off, none⟩) l.length cap) l ((A + 1 : Nat) : Int) l.length w hR HB.out (by omega)
            rw [hrd, hN, show ((A + 1 : Nat) : Int) = (A : Int) + 1 from by omega] at cn
            have dd : decide ((l.length : Int) - Q < N) = false := by simp; omega
            have hi0 : x = 0 := hi
            subst hi0
            subst hr0
            have cnm := fun w hR => named_any (.slice (some ⟨bb, off, none⟩) l.length cap) l Q (Q + N) w hR HB.out (by omega) hs'
            rw [hn, show ((Q + N : Nat) : Int) = (Q : Int) + N from by omega] at cnm
            have he' : (e' != 0) = true := by simpa using he
            have hnil := nm_nil hn he
            subst hnil
            simp only [str_nil] at cnm
            clear h2 hrd hN hn he
            go_wp2_with fail
            refine (cr _).mono ?_
            rintro en w2 ⟨rfl, hw⟩
            obtain rfl := hw.symm
            go_wp2_with fail
            refine (cn _ HRW.out).mono ?_
            rintro en w3 ⟨rfl, hw⟩
            obtain rfl := hw.symm
            clear cn
            go_wp2_with fail
            refine (cr _).mono ?_
            rintro en w4 ⟨rfl, hw⟩
            obtain rfl := hw.symm
            clear cr
            go_wp2_with fail
            refine (cnm _ (((Grew.refl _).alloc _).reads HRW.out)).mono ?_
            rintro en w4 ⟨rfl, g4⟩
            clear cnm
            go_wp2_with fail
            go_ret3
            exact ⟨_, [], by rw [HE.out]; rfl, by rw [HE.out]; rfl, OwnS.nil _ _, (HG.out.alloc _).trans g4⟩
          · have HS2 : Hid (secAt l A last = .ok (⟨0, s', (l.take (Q + N)).drop P, P⟩, Q + N, last)) := h2
            have cn := fun w hR => refU32_any (.slice (some ⟨bb, off, none⟩) l.length cap) l ((A + 1 : Nat) : Int) l.length w hR HB.out (by omega)
            rw [hrd, hN, show ((A + 1 : Nat) : Int) = (A : Int) + 1 from by omega] at cn
            have dd : decide ((l.length : Int) - Q < N) = false := by simp; omega
            have hi0 : x = 0 := hi
            subst hi0
            subst hr0
            have cnm := fun w hR => named_any (.slice (some ⟨bb, off, none⟩) l.length cap) l Q (Q + N) w hR HB.out (by omega) hs'
            rw [hn, show ((Q + N : Nat) : Int) = (Q : Int) + N from by omega] at cnm
            obtain ⟨a', c', hsl, hr'⟩ := HRW.out.mid_ P (Q + N) (by omega) hs'
            have hsl' : ∀ (w' : World), (Instr.slice 22 (.slice (some ⟨bb, off, none⟩) l.length cap) (some (.int .i64 P)) (some (.int .i64 ((Q : Int) + N))) none).run Try.prog w' = .ok (.slice a' (Q + N - P) c') w' := by
              intro w'; have := hsl w'; rwa [show ((Q + N : Nat) : Int) = (Q : Int) + N from by omega] at this
            have RD : Hid (Reads wr (.slice a' (Q + N - P) c') ((l.take (Q + N)).drop P)) := hr'
            have hld : ((l.take (Q + N)).drop P).length = Q + N - P := by simp; omega
            have hPP : (P : Int) ≤ (Q : Int) + N := by omega
            obtain ⟨st, hst⟩ : ∃ st, st = strOfNums s' := ⟨_, rfl⟩
            simp only at cnm
            rw [← hst] at cnm
            have HST : Hid (st = strOfNums s') := hst
            clear h2 hrd hN hn hsl hr' hst
            go_wp2_with fail
            refine (cr _).mono ?_
            rintro en w2 ⟨rfl, hw⟩
            obtain rfl := hw.symm
            go_wp2_with fail
            refine (cn _ HRW.out).mono ?_
            rintro en w3 ⟨rfl, hw⟩
            obtain rfl := hw.symm
            clear cn
            go_wp2_with fail
            refine (cr _).mono ?_
            rintro en w4 ⟨rfl, hw⟩
            obtain rfl := hw.symm
            clear cr
            go_wp2_with fail
            refine (cnm _ (((Grew.refl _).alloc _).reads HRW.out)).mono ?_
            rintro en w4 ⟨rfl, g4⟩
            have hsz4 : wr.heap.size < w4.heap.size := by have := g4.2; simp at this; omega
            have B4 : w4.heap[wr.heap.size]? = some (.cells #[.int .i64 0, .string ⟨#[]⟩, .slice none 0 0, .int .i64 Q] 45 (0, 0)) := (g4.turn []).other (heap_alloc_last _ _) (by simp)
            have TW : Turn [] wr ((w4.setCell ⟨wr.heap.size, 1, none⟩ (.string st)).setCell ⟨wr.heap.size, 3, none⟩ (.int .i64 P)) := ((((Turn.refl [] wr).alloc _).trans' (g4.turn []) (by simp)).set (Or.inr (Nat.le_refl _)) _).set (Or.inr (Nat.le_refl _)) _
            have BLK : ((w4.setCell ⟨wr.heap.size, 1, none⟩ (.string st)).setCell ⟨wr.heap.size, 3, none⟩ (.int .i64 P)).heap[wr.heap.size]? = some (.cells #[.int .i64 0, .string st, .slice none 0 0, .int .i64 P] 45 (0, 0)) := by
              rw [heap_set (heap_set B4 _ _)]; rfl
            have RDX := RD.out.turn TW (by simp)
            have i0 := cell_of B4 0
            have i1 := cell_of B4 1
            have i2 := cell_of B4 2
            have i3 := cell_of B4 3
            have j1 := free_of B4 1
            have j3 := free_of B4 3
            simp at i0 i1 i2 i3
            clear cnm g4 B4
            go_wp2_with (first
              | (at_builtin; refine wp_appS rfl _ _ rfl rfl rfl (Has.nil _) (RDX) (by simp; omega) ?_; intro vd w5 hh5; rw [List.nil_append] at hh5; have FB := (hh5.below.block wr.heap.size (by first | (simp; done) | (simp; omega))).trans BLK; have T5 : Turn [] wr (w5.setCell ⟨wr.heap.size, 2, none⟩ vd) := ((TW).trans' (hh5.gr.turn []) (by simp)).set (Or.inr (Nat.le_refl _)) _; have OO : Hid (OwnS w.heap.size (w5.setCell ⟨wr.heap.size, 2, none⟩ vd) u7 L) := HO.out.fresh T5; have hvb : ∀ k, vd.ownBlock = some k → k ∉ [wr.heap.size] := (by intro k hk hm; have := hh5.1.lt k hk; simp at hm this; omega); have VO : Hid ((w5.setCell ⟨wr.heap.size, 2, none⟩ vd).ownsRow wr.heap.size 5 1 vd ((l.take (Q + N)).drop P).length (U8 ((l.take (Q + N)).drop P))) := own_turn (S := [wr.heap.size]) (hh5.1.mono (by first | (simp; done) | (simp; omega))) ((Turn.refl _ _).set (by simp) _) hvb; have TT : Hid (Turn [] wr (w5.setCell ⟨wr.heap.size, 2, none⟩ vd)) := T5; have hvs := hh5.reads.len; clear hh5 T5 hvb; obtain ⟨ad, cd, hvd⟩ := hvs; rw [hld] at hvd; subst hvd; have b0 := cell_of FB 0; have b1 := cell_of FB 1; have b2 := cell_of FB 2; have b3 := cell_of FB 3; have y2 := free_of FB 2; simp at b0 b1 b2 b3; clear FB)
              | (at_builtin; rw [HST.out]; refine wp_appSec rfl _ _ rfl rfl (by simp [Act.eval, go_sem]) (c := (⟨0, s', (l.take (Q + N)).drop P, P⟩, .slice ad (Q + N - P) cd)) OO.out (VO.out.mono HG.out.2) (fun x hx => own_ne (B' := 0) (HO.out.2.1 x hx) VO.out) (by have := HL.out; omega) (Nat.le_trans HG.out.2 TT.out.size) ?_; intro v' w7 hO7 hT7))
            obtain ⟨S, t7, hS⟩ := hT7
            refine ⟨?_, ?measure⟩
            iterate 12 (iterate 10 (try apply Exists.intro))
            refine ⟨?rel, rfl⟩
            case rel =>
              refine ⟨Q + N, last, L ++ [(⟨0, s', (l.take (Q + N)).drop P, P⟩, _)], by first | rfl | (congr 1; omega), by go_num, by omega, by omega, hs', by have := HL.out; simp; omega, ?_, hO7, ?_⟩
              · rw [HRS.out, sat_ok HB.out hlt HS2.out]; simp
              · exact t7.grew (TT.out.grew HG.out (by simp)) (fun b hb => (hS b hb).1)
            case measure => simp [intOf]; omega
        · go_wp2_with fail
          go_ret3
          have hx := HRS.out
          rw [sat_end (by omega)] at hx
          exact ⟨_, L, by rw [hx]; rfl, by rw [hx], HO.out, HG.out⟩

set_option maxRecDepth 100000 in
theorem refSplit_any (v : Value) (l : List Int) (w : World) (hR : Reads w v l) (hb : Byt l) (hlen : l.length ≤ 140737488351232) :
    Calls Try.prog 19 #[v] w fun en w' => ∃ vs L, en = .returned (.tuple #[vs, .int .i64 (split l).2.1, .int .i64 (split l).2.2]) ∧ L.map Prod.fst = (split l).1 ∧ OwnS w.heap.size w' vs L ∧ Grew w w' := by
  obtain ⟨a, cap, rfl⟩ := hR.len
  by_cases hl : 1048576 < l.length
  · have e : split l = ([], 0, 2) := by unfold split; rw [if_pos hl]
    rw [e]
    have d : decide ((1048576 : Int) < l.length) = true := by simp; omega
    clear e hR hb
    go_enter Try.func19, Try.ntmps19
    go_wp2_with fail
    go_ret3
    exact ⟨_, [], rfl, rfl, OwnS.nil _ _, Grew.refl _⟩
  · rw [split_body (by omega)]
    exact refSplit_body a cap l w hR hb (by omega)
end Go.Proofs.Ytclamdpbdafmcaa
