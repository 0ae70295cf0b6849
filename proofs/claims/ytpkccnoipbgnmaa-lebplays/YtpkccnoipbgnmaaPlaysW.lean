/-
  The walk of LebPlays; no statement is proved here.
-/
import Derived.Test.YtpkccnoipbgnmaaOps
import Derived.Test.YtpkccnoipbgnmaaSteps
import Derived.Test.YtpkccnoipbgnmaaNumbers
import Derived.Test.YtpkccnoipbgnmaaPutU
import Derived.Deep.RegionWith
namespace Go.Proofs.Ytpkccnoipbgnmaa
open Go.RowKit
set_option linter.unusedVariables false

/- While the first copy is spoilt: mine is a row of its own, the cursors stand. -/
structure Spoil (w wr : World) (base1 : Nat) (vm v' vb : Value) (len : Nat) (l : List Int) (bc bd : Nat) : Prop where
  mine : ∃ zs : List Int, zs.length = len ∧ wr.ownsRow w.heap.size 5 1 vm len (U8 zs)
  small : ∀ k, vm.ownBlock = some k → k < base1
  cop : wr.ownsRow base1 5 1 v' l.length (U8 l)
  c : wr.heap[bc]? = some (ccur v' (0 : Nat) (l.length : Nat) 0 0)
  d : wr.heap[bd]? = some (dcur vb (0 : Nat) (l.length : Nat) 0 0)
  hc : base1 ≤ bc
  hd : base1 ≤ bd
  hb : w.heap.size ≤ base1
  below : Below w.heap.size w wr
theorem Spoil.store {w wr : World} {base1 : Nat} {v' vb : Value} {g n cap : Nat} {l : List Int} {bc bd : Nat} (h : Spoil w wr base1 (.slice (some ⟨g, 0, none⟩) n cap) v' vb n l bc bd) (j : Nat) (x : Int) :
    Spoil w (wr.setCell ⟨g, j, none⟩ (.int .u8 x)) base1 (.slice (some ⟨g, 0, none⟩) n cap) v' vb n l bc bd := by
  obtain ⟨zs, hz, ho⟩ := h.mine
  have hg := h.small g rfl
  have hg2 := (ho.lt g rfl).1
  have h1 := h.hc
  have h2 := h.hd
  refine ⟨⟨zs.set j x, by simp [hz], ?_⟩, h.small, ownsRow_setCell_below h.cop (by exact hg) _, ?_, ?_, h.hc, h.hd, h.hb, h.below.setCell (by exact hg2) _⟩
  · have := (ho.stored j (.int .u8 x)).1
    rw [show U8 (zs.set j x) = (U8 zs).set j (.int .u8 x) from by simp [U8, List.map_set]]
    exact this
  · rw [Below.heap_setCell _ _ _ _ (by show bc ≠ g; omega)]; exact h.c
  · rw [Below.heap_setCell _ _ _ _ (by show bd ≠ g; omega)]; exact h.d
theorem own_of {w : World} {base : Nat} {v : Value} {l : List Int} (h : w.ownsRow base 5 1 v l.length (U8 l)) : OwnB w v l := by
  have hh : Has 0 w w v l := ⟨by obtain ⟨h1, h2⟩ := h; exact ⟨h1, h2.imp_right fun ⟨g, cap, cur, a, b, c⟩ => ⟨g, cap, cur, a, Nat.zero_le _, c⟩⟩, Below.refl _ _, Nat.zero_le _⟩
  refine ⟨hh.reads, ?_⟩
  obtain ⟨_, ⟨h1, h2⟩ | ⟨g, cap, cur, h1, _⟩⟩ := h
  · exact Or.inl ⟨h1, List.eq_nil_of_length_eq_zero h2⟩
  · exact Or.inr ⟨g, cap, h1⟩
theorem Spoil.two {w wr : World} {base1 : Nat} {vm v' vb : Value} {n : Nat} {l : List Int} {bc bd : Nat} (h : Spoil w wr base1 vm v' vb n l bc bd) (hR : Reads w vb l) : Two w.heap.size w wr bc bd v' vb l 0 l.length 0 0 :=
  ⟨h.c, h.d, own_of h.cop, hR.below h.below, Nat.le_trans h.hb h.hc, Nat.le_trans h.hb h.hd, h.below, h.below.size, Nat.zero_le _, Nat.le_refl _⟩

set_option maxRecDepth 100000 in
set_option maxHeartbeats 2000000 in
theorem plays_walk (v : Value) (l : List Int) (sa : Option Addr) (slen scap : Nat) (ops : Nat → Int × Int × Int × Int × Bool) (w : World) (hR : Reads w v l) (hB : Byt l) (hlen : l.length ≤ 140737488351232)
    (hsl : slen ≤ 9223372036854775807) (hS : slen = 0 ∨ ∃ b off, sa = some ⟨b, off, none⟩ ∧ ∀ i, i < slen → OpAt w b (off + i * 5) (ops i)) :
    Calls Try.prog 5 #[v, .slice sa slen scap] w fun e w' => e = .returned (.bool true) ∧ Below w.heap.size w w' := by
  obtain ⟨av, cv, hv⟩ := hR.len
  have HR : Hid (Reads w v l) := hR
  have HB : Hid (Byt l) := hB
  have HS : Hid (slen = 0 ∨ ∃ b off, sa = some ⟨b, off, none⟩ ∧ ∀ i, i < slen → OpAt w b (off + i * 5) (ops i)) := hS
  subst hv
  clear hR hB hS
  go_enter Try.func5, Try.ntmps5
  go_wp2_with fail
  refine (copied_any _ l _ HR.out hlen).mono ?_
  rintro e w1 ⟨vm, rfl, g1⟩
  go_wp2_with fail
  refine (new_any vm l _ g1.reads hlen).mono ?_
  rintro e w2 ⟨bc, v', rfl, hbc, hcc, g2⟩
  have hsp : Spoil w (w2.alloc (dcur (.slice av l.length cv) 0 l.length 0 0)) w1.heap.size vm v' (.slice av l.length cv) l.length l bc w2.heap.size := by
    have g1' := g1.grew g2.below
    refine ⟨⟨l, rfl, (g1'.alloc _).1⟩, fun k hk => (g1.1.lt k hk).2, (g2.alloc _).1, ?_, new_obj _ _, hbc, g2.2.2, g1.2.2, (g1'.alloc _).below⟩
    rw [Below.heap_alloc _ _ _ (lt_of_obj hcc)]; exact hcc
  obtain ⟨am, cm, hvm⟩ := g1.reads.len
  subst hvm
  clear g1 g2 hcc hbc
  go_wp2_with fail
  go_loopw [8] (fun i wr => ∃ k : Nat, k ≤ l.length ∧ i = .int .i64 k ∧ Spoil w wr w1.heap.size (.slice am l.length cm) v' (.slice av l.length cv) l.length l bc w2.heap.size) (fun i _ => l.length - (intOf i).toNat)
  case atStart => exact ⟨0, by omega, rfl, hsp⟩
  case round =>
    obtain ⟨k, hk, rfl, hq⟩ := hrel
    clear hsp
    by_cases hlt : k < l.length
    · obtain ⟨zs, hz, ho⟩ := hq.mine
      have ho' := ho
      obtain ⟨_, ⟨h1, h2⟩ | ⟨g, cap, cur, h1, _⟩⟩ := ho
      · omega
      · injection h1 with h1 _ h2
        subst h1; subst h2
        have hc1 := ho'.cellAt k (by omega)
        have hf1 := ho'.frozenAt k
        obtain ⟨z, hz1⟩ : ∃ z, (U8 zs)[k]? = some (.int .u8 z) := ⟨zs[k]'(by omega), by simp [U8, hz, hlt]⟩
        rw [hz1] at hc1
        have HQ : Hid (Spoil w wr w1.heap.size (.slice (some ⟨g, 0, none⟩) l.length cm) v' (.slice av l.length cv) l.length l bc w2.heap.size) := hq
        clear ho' hz hz1 hq
        go_wp2_with fail
        go_roundw
        case rel => exact ⟨k + 1, by omega, by go_num, HQ.out.store _ _⟩
        case measure => simp [intOf]; omega
    · have HT : Hid (Two w.heap.size w wr bc w2.heap.size v' (.slice av l.length cv) l 0 l.length 0 0) := hq.two HR.out
      clear hq
      go_wp2_with fail
      go_loopw [6, 7, 9, 10, 11, 12] (fun pc pd i _ _ _ wr => ∃ (k bc bd F T : Nat) (pl wy : Int), k ≤ slen ∧ i = .int .i64 k ∧ pc = .pointer (some ⟨bc, 0, none⟩) ∧ pd = .pointer (some ⟨bd, 0, none⟩) ∧ Two w.heap.size w wr bc bd v' (.slice av l.length cv) l F T pl wy)
        (fun _ _ i _ _ _ _ => slen - (intOf i).toNat)
      case atStart => exact ⟨0, bc, w2.heap.size, 0, l.length, 0, 0, by omega, rfl, rfl, rfl, HT.out⟩
      case round =>
        clear HT
        obtain ⟨i, bc, bd, F, T, pl, wy, hi, rfl, rfl, rfl, hT⟩ := hrel
        by_cases hil : i < slen
        · rcases HS.out with h0 | ⟨sb, soff, rfl, hops⟩
          · omega
          · have O := hops i hil
            generalize ops i = oo at O
            obtain ⟨what, n, at_, er, into⟩ := oo
            obtain ⟨o0, o1, o2, o3, o4, n0, n1⟩ := O
            simp only at o0 o1 o2 o3 o4 n0 n1
            have lt0 := block_lt_of_cell o0
            have p0 := (hT.below.cell (p := ⟨sb, soff + i * 5, none⟩) lt0).trans o0
            have p1 := (hT.below.cell (p := ⟨sb, soff + i * 5 + 1, none⟩) lt0).trans o1
            have p2 := (hT.below.cell (p := ⟨sb, soff + i * 5 + 2, none⟩) lt0).trans o2
            have p3 := (hT.below.cell (p := ⟨sb, soff + i * 5 + 3, none⟩) lt0).trans o3
            have p4 := (hT.below.cell (p := ⟨sb, soff + i * 5 + 4, none⟩) lt0).trans o4
            have hT2 : Hid (Two w.heap.size w wr bc bd v' (.slice av l.length cv) l F T pl wy) := hT
            clear o0 o1 o2 o3 o4 hops hT
            have ob : wr.heap.size ≠ bc ∧ wr.heap.size ≠ bd := ⟨by have := lt_of_obj hT2.out.c; omega, by have := lt_of_obj hT2.out.d; omega⟩
            obtain ⟨ob1, ob2⟩ := ob
            go_wp2_with fail
            refine (told_any (hT2.out.grow ((Below.refl _ _).alloc (Nat.le_refl _) _)) hlen).mono ?_
            rintro en w3 ⟨rfl, b3⟩
            have hT3 : Hid (Two w.heap.size w w3 bc bd v' (.slice av l.length cv) l F T pl wy) := (hT2.out.grow ((Below.refl _ _).alloc (Nat.le_refl _) _)).grow b3
            have ho3 := (b3.block wr.heap.size (by simp)).trans (new_obj wr (.cells #[.int .i64 what, .int .u32 n, .int .i64 at_, .int .i64 er, .bool into] 51 (0, 0)))
            have HO3 : Hid (w3.heap[wr.heap.size]? = some (.cells #[.int .i64 what, .int .u32 n, .int .i64 at_, .int .i64 er, .bool into] 51 (0, 0))) := ho3
            have x0 := cell_of ho3 0
            have x1 := cell_of ho3 1
            have x2 := cell_of ho3 2
            have x3 := cell_of ho3 3
            have x4 := cell_of ho3 4
            simp at x0 x1 x2 x3 x4
            clear b3 ho3 p0 p1 p2 p3 p4 hT2
            go_wp2_with fail
            refine (numbers_any w.heap.size w bc bd v' (.slice av l.length cv) l F T pl wy what n at_ er into _ hT3.out HB.out hlen).mono ?_
            rintro en w4 ⟨rfl, F4, pl4, wy4, hT4, hk4⟩
            have ho4 := hk4.obj HO3.out ob1 ob2
            have y0 := cell_of ho4 0
            have y1 := cell_of ho4 1
            have y2 := cell_of ho4 2
            have y3 := cell_of ho4 3
            have y4 := cell_of ho4 4
            simp at y0 y1 y2 y3 y4
            have HO4 : Hid (w4.heap[wr.heap.size]? = some (.cells #[.int .i64 what, .int .u32 n, .int .i64 at_, .int .i64 er, .bool into] 51 (0, 0))) := ho4
            have hT5 : Hid (Two w.heap.size w w4 bc bd v' (.slice av l.length cv) l F4 T pl4 wy4) := hT4
            clear hk4 ho4 hT4 x0 x1 x2 x3 x4 HO3 hT3
            obtain ⟨ab, cb, hvb⟩ := hT5.out.own.form
            subst hvb
            obtain ⟨N, hN⟩ := Int.eq_ofNat_of_zero_le n0
            subst hN
            have hft := hT5.out.ft
            have htl := hT5.out.tl
            have hn1 : N ≤ 4294967295 := by omega
            by_cases w2' : what = 2
            · subst w2'
              obtain ⟨s, hs⟩ : ∃ s, s = stepB l N F4 T pl4 wy4 := ⟨_, rfl⟩
              obtain ⟨F5, hF5, hF5'⟩ := stepB_place (l := l) (n := N) (F := F4) (T := T) (pl := pl4) (wy := wy4) hft
              rw [← hs] at hF5
              have HF5 : Hid (s.2.1 = (F5 : Int)) := hF5
              have S1 : Hid (∀ W, Two w.heap.size w W bc bd (.slice ab l.length cb) (.slice av l.length cv) l F4 T pl4 wy4 → Calls Try.prog 28 #[.pointer (some ⟨bc, 0, none⟩), .int .u32 N] W fun en w' => ∃ v', en = .returned v' ∧ Reads w' v' s.1 ∧ Put bc (ccur (.slice ab l.length cb) s.2.1 T s.2.2.1 s.2.2.2) W w') := by
                intro W hW; rw [hs]; exact bytes_step bc l F4 T N pl4 wy4 _ W hW.c hW.own hft htl hlen hn1
              have S2 : Hid (∀ W, Half w.heap.size w W bc bd (.slice ab l.length cb) (.slice av l.length cv) l F4 T pl4 wy4 s.2.1 s.2.2.1 s.2.2.2 → Calls Try.prog 29 #[.pointer (some ⟨bd, 0, none⟩), .int .u32 N] W fun en w' => ∃ v', en = .returned v' ∧ Reads w' v' s.1 ∧ Put bd (dcur (.slice av l.length cv) s.2.1 T s.2.2.1 s.2.2.2) W w') := by
                intro W hW; rw [hs]; exact dbytes_step bd l F4 T N pl4 wy4 av cv W hW.d hW.reads hft htl hlen hn1
              have hs4 : wr.heap.size < w4.heap.size := lt_of_obj HO4.out
              clear hs hF5 y2 y3 y4
              go_wp2_with fail
              go_region_with (first | (go_at_call 28; refine (S1.out _ (hT5.out.grow (Below.refl _ _).drew)).mono ?_; rintro en w5 ⟨v5, rfl, r5, q5⟩; have hH : Hid (Half w.heap.size w w5 bc bd (.slice ab l.length cb) (.slice av l.length cv) l F4 T pl4 wy4 s.2.1 s.2.2.1 s.2.2.2) := (hT5.out.grow (Below.refl _ _).drew).first q5; have y1' := cell_of (q5.other (show w4.drew.heap[wr.heap.size]? = _ from HO4.out) ob1) 1; simp at y1'; have R5 : Hid (Reads w5 v5 s.1) := r5; clear r5 q5) | (go_at_call 29; refine (S2.out _ hH.out).mono ?_; rintro en w6 ⟨v6, rfl, r6, q6⟩; have hT6 : Hid (Two w.heap.size w w6 bc bd (.slice ab l.length cb) (.slice av l.length cv) l F5 T s.2.2.1 s.2.2.2) := hH.out.second q6 HF5.out hF5'; have R6 : Hid (Reads w6 v5 s.1 ∧ Reads w6 v6 s.1) := ⟨R5.out.put hH.out.d dcur_no q6, r6⟩; clear r6 q6) | (go_at_call 18; refine (same_true v5 v6 s.1 _ R6.out.1 R6.out.2).mono ?_; rintro en w6' ⟨rfl, rfl⟩))
              all_goals
                go_wp2_with fail
                go_roundw
                case rel => exact ⟨i + 1, bc, bd, F5, T, _, _, by omega, by go_num, rfl, rfl, hT6.out⟩
                case measure => simp [intOf]; omega
            · have z2 : (what == 2) = false := beq_eq_false_iff_ne.2 w2'
              by_cases w10 : what = 10
              · subst w10
                clear w2' z2
                have hin := stepW_in (n := N) (F := F4) (T := T) (pl := pl4) (wy := wy4) hft
                obtain ⟨g1, g2, g3, g4⟩ := hin
                obtain ⟨sw, hsw⟩ : ∃ sw, sw = stepW N F4 T pl4 wy4 := ⟨_, rfl⟩
                rw [← hsw] at g1 g2 g3 g4
                have W1 : Hid (∀ W, W.heap[bc]? = some (ccur (.slice ab l.length cb) F4 T pl4 wy4) → Calls Try.prog 30 #[.pointer (some ⟨bc, 0, none⟩), .int .u32 N] W fun en w' => ∃ b', en = .returned (.pointer (some ⟨b', 0, none⟩)) ∧ W.heap.size ≤ b' ∧ w'.heap[b']? = some (ccur (.slice ab l.length cb) F4 sw.2.1 sw.2.2.1 sw.2.2.2) ∧
                    Put bc (ccur (.slice ab l.length cb) sw.1.1 T sw.1.2.1 sw.1.2.2) W w') := by
                  intro W hW; rw [hsw]; exact within_step bc l F4 T N pl4 wy4 ab l.length cb W hW hft (by omega) hn1
                have W2 : Hid (∀ W, W.heap[bd]? = some (dcur (.slice av l.length cv) F4 T pl4 wy4) → Calls Try.prog 31 #[.pointer (some ⟨bd, 0, none⟩), .int .u32 N] W fun en w' => ∃ b', en = .returned (.pointer (some ⟨b', 0, none⟩)) ∧ W.heap.size ≤ b' ∧ w'.heap[b']? = some (dcur (.slice av l.length cv) F4 sw.2.1 sw.2.2.1 sw.2.2.2) ∧
                    Put bd (dcur (.slice av l.length cv) sw.1.1 T sw.1.2.1 sw.1.2.2) W w') := by
                  intro W hW; rw [hsw]; exact dwithin_step bd l F4 T N pl4 wy4 av l.length cv W hW hft (by omega) hn1
                clear hsw
                go_wp2_with fail
                refine (W1.out _ hT5.out.c).mono ?_
                rintro en w5 ⟨b1, rfl, hb1, hc1, q5⟩
                have hH : Hid (Half w.heap.size w w5 bc bd (.slice ab l.length cb) (.slice av l.length cv) l F4 T pl4 wy4 sw.1.1 sw.1.2.1 sw.1.2.2) := hT5.out.first q5
                have hbd := lt_of_obj hT5.out.d
                have ho5 := q5.other HO4.out ob1
                have hs5 := q5.size
                have HO5 : Hid (w5.heap[wr.heap.size]? = some (.cells #[.int .i64 10, .int .u32 N, .int .i64 at_, .int .i64 er, .bool into] 51 (0, 0))) := ho5
                have HC1 : Hid (w5.heap[b1]? = some (ccur (.slice ab l.length cb) F4 sw.2.1 sw.2.2.1 sw.2.2.2)) := hc1
                have y1' := cell_of ho5 1
                simp at y1'
                have hbs := Nat.le_trans hT5.out.size hb1
                clear q5 ho5 hc1 y0 y1 y2 y3 y4 W1
                go_wp2_with fail
                refine (W2.out _ hH.out.d).mono ?_
                rintro en w6 ⟨b2, rfl, hb2, hc2, q6⟩
                have hT6 : Hid (Two w.heap.size w w6 bc bd (.slice ab l.length cb) (.slice av l.length cv) l sw.1.1 T sw.1.2.1 sw.1.2.2) := hH.out.second q6 rfl g2
                have hcc : w6.heap[b1]? = some (ccur (.slice ab l.length cb) F4 sw.2.1 sw.2.2.1 sw.2.2.2) := q6.other HC1.out (by omega)
                have hK : Hid (Two w.heap.size w w6 b1 b2 (.slice ab l.length cb) (.slice av l.length cv) l F4 sw.2.1 sw.2.2.1 sw.2.2.2) :=
                  ⟨hcc, hc2, hT6.out.own, hT6.out.reads, hbs, Nat.le_trans hH.out.size hb2, hT6.out.below, hT6.out.size, g3, Nat.le_trans g4 htl⟩
                have ho6 := q6.other HO5.out ob2
                have HO6 : Hid (w6.heap[wr.heap.size]? = some (.cells #[.int .i64 10, .int .u32 N, .int .i64 at_, .int .i64 er, .bool into] 51 (0, 0))) := ho6
                clear q6 ho6 hcc hc2 W2 HO5 HC1 y1'
                go_wp2_with fail
                refine (told_any hK.out hlen).mono ?_
                rintro en w7 ⟨rfl, b7⟩
                have hK7 : Hid (Two w.heap.size w w7 b1 b2 (.slice ab l.length cb) (.slice av l.length cv) l F4 sw.2.1 sw.2.2.1 sw.2.2.2) := hK.out.grow b7
                have hT7 : Hid (Two w.heap.size w w7 bc bd (.slice ab l.length cb) (.slice av l.length cv) l sw.1.1 T sw.1.2.1 sw.1.2.2) := hT6.out.grow b7
                have HO7 : Hid (w7.heap[wr.heap.size]? = some (.cells #[.int .i64 10, .int .u32 N, .int .i64 at_, .int .i64 er, .bool into] 51 (0, 0))) := (b7.block _ (lt_of_obj HO6.out)).trans HO6.out
                clear b7 HO6 hK hT6
                go_wp2_with fail
                refine (told_any hT7.out hlen).mono ?_
                rintro en w8 ⟨rfl, b8⟩
                have hK8 : Hid (Two w.heap.size w w8 b1 b2 (.slice ab l.length cb) (.slice av l.length cv) l F4 sw.2.1 sw.2.2.1 sw.2.2.2) := hK7.out.grow b8
                have hT8 : Hid (Two w.heap.size w w8 bc bd (.slice ab l.length cb) (.slice av l.length cv) l sw.1.1 T sw.1.2.1 sw.1.2.2) := hT7.out.grow b8
                have ho8 := (b8.block _ (lt_of_obj HO7.out)).trans HO7.out
                have y4' := cell_of ho8 4
                simp at y4'
                clear b8 HO7 hK7 hT7 ho8
                cases into with
                | true =>
                  go_wp2_with fail
                  go_roundw
                  case rel => exact ⟨i + 1, b1, b2, F4, sw.2.1, _, _, by omega, by go_num, rfl, rfl, hK8.out⟩
                  case measure => simp [intOf]; omega
                | false =>
                  go_wp2_with fail
                  go_roundw
                  case rel => exact ⟨i + 1, bc, bd, sw.1.1, T, _, _, by omega, by go_num, rfl, rfl, hT8.out⟩
                  case measure => simp [intOf]; omega
              · have z10 : (what == 10) = false := beq_eq_false_iff_ne.2 w10
                by_cases w11 : what = 11
                · subst w11
                  clear w2' w10 z2 z10
                  go_wp2_with fail
                  refine (failm_step bc _ F4 T pl4 wy4 at_ er _ hT5.out.c).mono ?_
                  rintro en w5 ⟨rfl, q5⟩
                  have hH : Hid (Half w.heap.size w w5 bc bd (.slice ab l.length cb) (.slice av l.length cv) l F4 T pl4 wy4 F4 (stepF at_ er pl4 wy4).1 (stepF at_ er pl4 wy4).2) := hT5.out.first q5
                  have ho5 := q5.other HO4.out ob1
                  have y2' := cell_of ho5 2
                  have y3' := cell_of ho5 3
                  simp at y2' y3'
                  clear q5 ho5 y0 y1 y2 y3 y4
                  go_wp2_with fail
                  refine (dfailm_step bd _ F4 T pl4 wy4 at_ er _ hH.out.d).mono ?_
                  rintro en w6 ⟨rfl, q6⟩
                  have hT6 : Hid (Two w.heap.size w w6 bc bd (.slice ab l.length cb) (.slice av l.length cv) l F4 T (stepF at_ er pl4 wy4).1 (stepF at_ er pl4 wy4).2) := hH.out.second q6 rfl hft
                  clear q6
                  go_wp2_with fail
                  go_roundw
                  case rel => exact ⟨i + 1, bc, bd, F4, T, _, _, by omega, by go_num, rfl, rfl, hT6.out⟩
                  case measure => simp [intOf]; omega
                · have z11 : (what == 11) = false := beq_eq_false_iff_ne.2 w11
                  by_cases w12 : what = 12
                  · subst w12
                    clear w2' w10 w11 z2 z10 z11
                    go_wp2_with fail
                    refine (endm_step bc _ F4 T pl4 wy4 _ hT5.out.c (by omega) (by omega) (by omega)).mono ?_
                    rintro en w5 ⟨rfl, q5⟩
                    have hH : Hid (Half w.heap.size w w5 bc bd (.slice ab l.length cb) (.slice av l.length cv) l F4 T pl4 wy4 F4 (stepE F4 T pl4 wy4).1 (stepE F4 T pl4 wy4).2) := hT5.out.first q5
                    clear q5 y0 y1 y2 y3 y4
                    go_wp2_with fail
                    refine (dend_step bd _ F4 T pl4 wy4 _ hH.out.d).mono ?_
                    rintro en w6 ⟨rfl, q6⟩
                    have hT6 : Hid (Two w.heap.size w w6 bc bd (.slice ab l.length cb) (.slice av l.length cv) l F4 T (stepE F4 T pl4 wy4).1 (stepE F4 T pl4 wy4).2) := hH.out.second q6 rfl hft
                    clear q6
                    go_wp2_with fail
                    go_roundw
                    case rel => exact ⟨i + 1, bc, bd, F4, T, _, _, by omega, by go_num, rfl, rfl, hT6.out⟩
                    case measure => simp [intOf]; omega
                  · have z12 : (what == 12) = false := beq_eq_false_iff_ne.2 w12
                    clear w2' w10 w11 w12 y1 y2 y3 y4
                    go_wp2_with fail
                    go_roundw
                    case rel => exact ⟨i + 1, bc, bd, F4, T, _, _, by omega, by go_num, rfl, rfl, hT5.out⟩
                    case measure => simp [intOf]; omega
        · have hT2 : Hid (Two w.heap.size w wr bc bd v' (.slice av l.length cv) l F T pl wy) := hT
          clear hT
          go_wp2_with fail
          refine (told_any hT2.out hlen).mono ?_
          rintro en w3 ⟨rfl, b3⟩
          have hb3 := hT2.out.below.trans (b3.mono hT2.out.size)
          have hs3 := Nat.le_trans hT2.out.size b3.size
          clear b3
          go_wp2_with fail
          refine (putU_any 0 _ (by omega) (by omega)).mono ?_
          rintro e w7 ⟨v7, rfl, g7⟩
          obtain ⟨B7, S7⟩ := g7.step hb3 hs3
          obtain ⟨a7, c7, rfl⟩ := g7.reads.len
          rw [show (PU 0).length = 1 from rfl]
          go_wp2_with fail
          go_ret
          exact ⟨by simp, B7⟩
end Go.Proofs.Ytpkccnoipbgnmaa
