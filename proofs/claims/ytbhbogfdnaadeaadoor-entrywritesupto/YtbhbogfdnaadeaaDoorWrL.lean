/-
  The walk of the law EntryWrites; no statement is proved here.
-/
import Derived.Test.YtbhbogfdnaadeaaDoorWrY
namespace Go.Proofs.YtbhbogfdnaadeaaDoor
open Go.RowKit
set_option linter.unusedVariables false
set_option linter.unusedSimpArgs false
set_option linter.constructorNameAsVariable false

/- The bytes and the error that stand for what was to be written. -/
def PV (R : Except Nat (List Int)) (w : World) (a : Value) (e : Int) : Prop := match R with
  | .ok m => Reads w a m ∧ e = 0
  | .error k => a = .slice none 0 0 ∧ e = (k : Int)
theorem PV.grew {R : Except Nat (List Int)} {w w' : World} {a : Value} {e : Int} (h : PV R w a e) (g : Grew w w') : PV R w' a e := by
  cases R with
  | ok m => exact ⟨h.1.below g.1, h.2⟩
  | error k => exact h
theorem PAns.pv {R : Except Nat (List Int)} {w w' : World} {en : Ending} (h : PAns w R en w') : ∃ (a : Value) (e : Int), en = .returned (.tuple #[a, .int .i64 e]) ∧ PV R w' a e ∧ Grew w w' := by
  cases R with
  | ok m =>
    obtain ⟨rv, rfl, r, g⟩ := h
    exact ⟨rv, 0, rfl, ⟨Has.reads (base := _) (w0 := w') ⟨r, Below.refl _ _, g.2⟩, rfl⟩, g⟩
  | error k =>
    obtain ⟨rfl, g⟩ := h
    exact ⟨_, _, rfl, ⟨rfl, rfl⟩, g⟩
set_option maxRecDepth 100000 in
set_option maxHeartbeats 1000000 in
theorem lsame_any {R : Except Nat (List Int)} {w : World} {a b : Value} {e f : Int} (h1 : PV R w a e) (h2 : PV R w b f) :
    Calls Tryd.prog 8 #[a, .int .i64 e, b, .int .i64 f] w fun en w' => en = .returned (.bool true) ∧ w' = w := by
  cases R with
  | ok m =>
    obtain ⟨r1, rfl⟩ := h1
    obtain ⟨r2, rfl⟩ := h2
    have s1 := r1.str
    have s2 := r2.str
    obtain ⟨xa, xc, rfl⟩ := r1.len
    obtain ⟨ya, yc, rfl⟩ := r2.len
    clear r1 r2
    generalize strOfNums m = S at *
    go_enter Tryd.func8, Tryd.ntmps8
    go_wp2_with fail
    go_ret
    exact ⟨rfl, rfl⟩
  | error k =>
    obtain ⟨rfl, rfl⟩ := h1
    obtain ⟨rfl, rfl⟩ := h2
    have s1 := Reads.str (w := w) (v := .slice none 0 0) (l := []) ⟨none, 0, rfl, Nat.le_refl _, by unfold maxLen; omega, fun _ => rfl, Or.inl rfl⟩
    generalize strOfNums [] = S at *
    by_cases hk : k = 0
    · subst hk
      go_enter Tryd.func8, Tryd.ntmps8
      go_wp2_with fail
      go_ret
      exact ⟨rfl, rfl⟩
    · have d : ((k : Int) == 0) = false := by simp; exact hk
      go_enter Tryd.func8, Tryd.ntmps8
      go_wp2_with fail
      go_ret
      exact ⟨rfl, rfl⟩
set_option maxRecDepth 100000 in
set_option maxHeartbeats 4000000 in
theorem writes_any (w : World) (hT : Tab w) (n hp : Int) (nul : Bool) (t rn rhp : Int) (rnul : Bool) (ta : Option Addr) (tc : Nat) (ts : List SB) (ex : Bool) (wide hm : Bool) (mn mx m : Int)
    (hh0 : -9223372036854775808 ≤ hp) (hh1 : hp ≤ 9223372036854775807) (ht0 : -9223372036854775808 ≤ t) (ht1 : t ≤ 9223372036854775807) (hr0 : -9223372036854775808 ≤ rhp) (hr1 : rhp ≤ 9223372036854775807)
    (hv : LS w (.slice ta ts.length tc) ts) (hsm : ∀ x ∈ ts, smallS x) (hk : ∀ x ∈ ts, okS x) (hN : 12 + szT ts ≤ 17592186041000)
    (hm0 : 0 ≤ mn) (hm1 : mn ≤ 18446744073709551615) (hx0 : 0 ≤ mx) (hx1 : mx ≤ 18446744073709551615) (hg0 : -9223372036854775808 ≤ m) (hg1 : m ≤ 9223372036854775807) :
    Calls Tryd.prog 3 #[.agg #[.int .i64 n, .bool nul, .int .i64 hp], .agg #[.int .i64 t, .int .i64 rn, .bool rnul, .int .i64 rhp], .agg #[.slice ta ts.length tc, .bool ex], .agg #[.bool wide, .int .u64 mn, .int .u64 mx, .bool hm], .int .i64 m] w fun en w' => en = .returned (.bool true) ∧ Grew w w' := by
  have HT : Hid (Tab w) := hT
  have HV : Hid (LS w (.slice ta ts.length tc) ts) := hv
  have HS : Hid (∀ x ∈ ts, smallS x) := hsm
  have HK : Hid (∀ x ∈ ts, okS x) := hk
  clear hT hv hsm hk
  have g0 : Grew w ((((w.alloc (.cells #[.int .i64 n, .bool nul, .int .i64 hp] 23)).alloc (.cells #[.int .i64 t, .int .i64 rn, .bool rnul, .int .i64 rhp] 25)).alloc (.cells #[.slice ta ts.length tc, .bool ex] 28)).alloc (.cells #[.bool wide, .int .u64 mn, .int .u64 mx, .bool hm] 31)) := ((((Grew.refl w).alloc _).alloc _).alloc _).alloc _
  have hsz1 : (w.alloc (.cells #[.int .i64 n, .bool nul, .int .i64 hp] 23)).heap.size = w.heap.size + 1 := alloc_size _ _
  have oV : ((((w.alloc (.cells #[.int .i64 n, .bool nul, .int .i64 hp] 23)).alloc (.cells #[.int .i64 t, .int .i64 rn, .bool rnul, .int .i64 rhp] 25)).alloc (.cells #[.slice ta ts.length tc, .bool ex] 28)).alloc (.cells #[.bool wide, .int .u64 mn, .int .u64 mx, .bool hm] 31)).heap[w.heap.size]? = some (.cells #[.int .i64 n, .bool nul, .int .i64 hp] 23 (0, 0)) := by
    have hh := heap_alloc_last w (.cells #[.int .i64 n, .bool nul, .int .i64 hp] 23)
    skip
    exact (heap_alloc (heap_alloc (heap_alloc hh _) _) _)
  have oK : ((((w.alloc (.cells #[.int .i64 n, .bool nul, .int .i64 hp] 23)).alloc (.cells #[.int .i64 t, .int .i64 rn, .bool rnul, .int .i64 rhp] 25)).alloc (.cells #[.slice ta ts.length tc, .bool ex] 28)).alloc (.cells #[.bool wide, .int .u64 mn, .int .u64 mx, .bool hm] 31)).heap[w.heap.size + 1]? = some (.cells #[.int .i64 t, .int .i64 rn, .bool rnul, .int .i64 rhp] 25 (0, 0)) := by
    have hh := heap_alloc_last (w.alloc (.cells #[.int .i64 n, .bool nul, .int .i64 hp] 23)) (.cells #[.int .i64 t, .int .i64 rn, .bool rnul, .int .i64 rhp] 25)
    rw [alloc_size] at hh
    exact (heap_alloc (heap_alloc hh _) _)
  have oG : ((((w.alloc (.cells #[.int .i64 n, .bool nul, .int .i64 hp] 23)).alloc (.cells #[.int .i64 t, .int .i64 rn, .bool rnul, .int .i64 rhp] 25)).alloc (.cells #[.slice ta ts.length tc, .bool ex] 28)).alloc (.cells #[.bool wide, .int .u64 mn, .int .u64 mx, .bool hm] 31)).heap[w.heap.size + 1 + 1]? = some (.cells #[.slice ta ts.length tc, .bool ex] 28 (0, 0)) := by
    have hh := heap_alloc_last ((w.alloc (.cells #[.int .i64 n, .bool nul, .int .i64 hp] 23)).alloc (.cells #[.int .i64 t, .int .i64 rn, .bool rnul, .int .i64 rhp] 25)) (.cells #[.slice ta ts.length tc, .bool ex] 28)
    rw [alloc_size, alloc_size] at hh
    exact (heap_alloc hh _)
  have oL : ((((w.alloc (.cells #[.int .i64 n, .bool nul, .int .i64 hp] 23)).alloc (.cells #[.int .i64 t, .int .i64 rn, .bool rnul, .int .i64 rhp] 25)).alloc (.cells #[.slice ta ts.length tc, .bool ex] 28)).alloc (.cells #[.bool wide, .int .u64 mn, .int .u64 mx, .bool hm] 31)).heap[w.heap.size + 1 + 1 + 1]? = some (.cells #[.bool wide, .int .u64 mn, .int .u64 mx, .bool hm] 31 (0, 0)) := by
    have hh := heap_alloc_last (((w.alloc (.cells #[.int .i64 n, .bool nul, .int .i64 hp] 23)).alloc (.cells #[.int .i64 t, .int .i64 rn, .bool rnul, .int .i64 rhp] 25)).alloc (.cells #[.slice ta ts.length tc, .bool ex] 28)) (.cells #[.bool wide, .int .u64 mn, .int .u64 mx, .bool hm] 31)
    rw [alloc_size, alloc_size, alloc_size] at hh
    exact hh
  clear hsz1
  go_enter Tryd.func3, Tryd.ntmps3
  go_wp2_with fail
  have OV0 : Hid (((((w.alloc (.cells #[.int .i64 n, .bool nul, .int .i64 hp] 23)).alloc (.cells #[.int .i64 t, .int .i64 rn, .bool rnul, .int .i64 rhp] 25)).alloc (.cells #[.slice ta ts.length tc, .bool ex] 28)).alloc (.cells #[.bool wide, .int .u64 mn, .int .u64 mx, .bool hm] 31)).heap[w.heap.size]? = some (.cells #[.int .i64 n, .bool nul, .int .i64 hp] 23 (0, 0))) := oV
  have OK0 : Hid (((((w.alloc (.cells #[.int .i64 n, .bool nul, .int .i64 hp] 23)).alloc (.cells #[.int .i64 t, .int .i64 rn, .bool rnul, .int .i64 rhp] 25)).alloc (.cells #[.slice ta ts.length tc, .bool ex] 28)).alloc (.cells #[.bool wide, .int .u64 mn, .int .u64 mx, .bool hm] 31)).heap[w.heap.size + 1]? = some (.cells #[.int .i64 t, .int .i64 rn, .bool rnul, .int .i64 rhp] 25 (0, 0))) := oK
  have OG0 : Hid (((((w.alloc (.cells #[.int .i64 n, .bool nul, .int .i64 hp] 23)).alloc (.cells #[.int .i64 t, .int .i64 rn, .bool rnul, .int .i64 rhp] 25)).alloc (.cells #[.slice ta ts.length tc, .bool ex] 28)).alloc (.cells #[.bool wide, .int .u64 mn, .int .u64 mx, .bool hm] 31)).heap[w.heap.size + 1 + 1]? = some (.cells #[.slice ta ts.length tc, .bool ex] 28 (0, 0))) := oG
  have OL0 : Hid (((((w.alloc (.cells #[.int .i64 n, .bool nul, .int .i64 hp] 23)).alloc (.cells #[.int .i64 t, .int .i64 rn, .bool rnul, .int .i64 rhp] 25)).alloc (.cells #[.slice ta ts.length tc, .bool ex] 28)).alloc (.cells #[.bool wide, .int .u64 mn, .int .u64 mx, .bool hm] 31)).heap[w.heap.size + 1 + 1 + 1]? = some (.cells #[.bool wide, .int .u64 mn, .int .u64 mx, .bool hm] 31 (0, 0))) := oL
  have GG0 : Hid (Grew w ((((w.alloc (.cells #[.int .i64 n, .bool nul, .int .i64 hp] 23)).alloc (.cells #[.int .i64 t, .int .i64 rn, .bool rnul, .int .i64 rhp] 25)).alloc (.cells #[.slice ta ts.length tc, .bool ex] 28)).alloc (.cells #[.bool wide, .int .u64 mn, .int .u64 mx, .bool hm] 31))) := g0
  clear g0 oV oK oG oL
  refine (pPutHeap_any _ (HT.out.grew GG0.out) hp).mono ?_
  intro en w1 ha
  obtain ⟨p1a, p1e, rfl, hp1, g1⟩ := PAns.pv ha
  have Pp1 : Hid (PV (heapW hp) w1 p1a p1e) := hp1
  have GG1 : Hid (Grew w w1) := GG0.out.trans g1
  have OV1 : Hid (w1.heap[w.heap.size]? = some (.cells #[.int .i64 n, .bool nul, .int .i64 hp] 23 (0, 0))) := (g1.turn []).other OV0.out (by simp)
  have OK1 : Hid (w1.heap[w.heap.size + 1]? = some (.cells #[.int .i64 t, .int .i64 rn, .bool rnul, .int .i64 rhp] 25 (0, 0))) := (g1.turn []).other OK0.out (by simp)
  have OG1 : Hid (w1.heap[w.heap.size + 1 + 1]? = some (.cells #[.slice ta ts.length tc, .bool ex] 28 (0, 0))) := (g1.turn []).other OG0.out (by simp)
  have OL1 : Hid (w1.heap[w.heap.size + 1 + 1 + 1]? = some (.cells #[.bool wide, .int .u64 mn, .int .u64 mx, .bool hm] 31 (0, 0))) := (g1.turn []).other OL0.out (by simp)
  clear ha hp1 g1 GG0 OV0 OK0 OG0 OL0
  have xV0_1 := cell_of OV1.out 0
  have xV1_1 := cell_of OV1.out 1
  have xV2_1 := cell_of OV1.out 2
  simp at xV0_1 xV1_1 xV2_1
  go_wp2_with fail
  refine (dPutHeap_any _ hp hh0 hh1).mono ?_
  intro en w2 ha
  obtain ⟨d1a, d1e, rfl, hp2, g2⟩ := PAns.pv ha
  have Pd1 : Hid (PV (heapW hp) w2 d1a d1e) := hp2
  have Pp1 : Hid (PV (heapW hp) w2 p1a p1e) := Pp1.out.grew g2
  have GG2 : Hid (Grew w w2) := GG1.out.trans g2
  have OV2 : Hid (w2.heap[w.heap.size]? = some (.cells #[.int .i64 n, .bool nul, .int .i64 hp] 23 (0, 0))) := (g2.turn []).other OV1.out (by simp)
  have OK2 : Hid (w2.heap[w.heap.size + 1]? = some (.cells #[.int .i64 t, .int .i64 rn, .bool rnul, .int .i64 rhp] 25 (0, 0))) := (g2.turn []).other OK1.out (by simp)
  have OG2 : Hid (w2.heap[w.heap.size + 1 + 1]? = some (.cells #[.slice ta ts.length tc, .bool ex] 28 (0, 0))) := (g2.turn []).other OG1.out (by simp)
  have OL2 : Hid (w2.heap[w.heap.size + 1 + 1 + 1]? = some (.cells #[.bool wide, .int .u64 mn, .int .u64 mx, .bool hm] 31 (0, 0))) := (g2.turn []).other OL1.out (by simp)
  clear ha hp2 g2 GG1 OV1 OK1 OG1 OL1 xV0_1 xV1_1 xV2_1
  go_wp2_with fail
  refine (lsame_any Pp1.out Pd1.out).mono ?_
  rintro en w9 ⟨rfl, h9⟩
  obtain rfl := h9.symm
  clear h9
  clear Pp1 Pd1
  have xV0_2s := cell_of OV2.out 0
  have xV1_2s := cell_of OV2.out 1
  have xV2_2s := cell_of OV2.out 2
  simp at xV0_2s xV1_2s xV2_2s
  go_wp2_with fail
  refine (pPutVal_any _ (HT.out.grew GG2.out) n hp nul).mono ?_
  intro en w3 ha
  obtain ⟨p2a, p2e, rfl, hp3, g3⟩ := PAns.pv ha
  have Pp2 : Hid (PV (valW ⟨n, nul, hp⟩) w3 p2a p2e) := hp3
  have GG3 : Hid (Grew w w3) := GG2.out.trans g3
  have OV3 : Hid (w3.heap[w.heap.size]? = some (.cells #[.int .i64 n, .bool nul, .int .i64 hp] 23 (0, 0))) := (g3.turn []).other OV2.out (by simp)
  have OK3 : Hid (w3.heap[w.heap.size + 1]? = some (.cells #[.int .i64 t, .int .i64 rn, .bool rnul, .int .i64 rhp] 25 (0, 0))) := (g3.turn []).other OK2.out (by simp)
  have OG3 : Hid (w3.heap[w.heap.size + 1 + 1]? = some (.cells #[.slice ta ts.length tc, .bool ex] 28 (0, 0))) := (g3.turn []).other OG2.out (by simp)
  have OL3 : Hid (w3.heap[w.heap.size + 1 + 1 + 1]? = some (.cells #[.bool wide, .int .u64 mn, .int .u64 mx, .bool hm] 31 (0, 0))) := (g3.turn []).other OL2.out (by simp)
  clear ha hp3 g3 GG2 OV2 OK2 OG2 OL2 xV0_2s xV1_2s xV2_2s
  have xV0_3 := cell_of OV3.out 0
  have xV1_3 := cell_of OV3.out 1
  have xV2_3 := cell_of OV3.out 2
  simp at xV0_3 xV1_3 xV2_3
  go_wp2_with fail
  refine (dPutVal_any _ n hp nul hh0 hh1).mono ?_
  intro en w4 ha
  obtain ⟨d2a, d2e, rfl, hp4, g4⟩ := PAns.pv ha
  have Pd2 : Hid (PV (valW ⟨n, nul, hp⟩) w4 d2a d2e) := hp4
  have Pp2 : Hid (PV (valW ⟨n, nul, hp⟩) w4 p2a p2e) := Pp2.out.grew g4
  have GG4 : Hid (Grew w w4) := GG3.out.trans g4
  have OV4 : Hid (w4.heap[w.heap.size]? = some (.cells #[.int .i64 n, .bool nul, .int .i64 hp] 23 (0, 0))) := (g4.turn []).other OV3.out (by simp)
  have OK4 : Hid (w4.heap[w.heap.size + 1]? = some (.cells #[.int .i64 t, .int .i64 rn, .bool rnul, .int .i64 rhp] 25 (0, 0))) := (g4.turn []).other OK3.out (by simp)
  have OG4 : Hid (w4.heap[w.heap.size + 1 + 1]? = some (.cells #[.slice ta ts.length tc, .bool ex] 28 (0, 0))) := (g4.turn []).other OG3.out (by simp)
  have OL4 : Hid (w4.heap[w.heap.size + 1 + 1 + 1]? = some (.cells #[.bool wide, .int .u64 mn, .int .u64 mx, .bool hm] 31 (0, 0))) := (g4.turn []).other OL3.out (by simp)
  clear ha hp4 g4 GG3 OV3 OK3 OG3 OL3 xV0_3 xV1_3 xV2_3
  go_wp2_with fail
  refine (lsame_any Pp2.out Pd2.out).mono ?_
  rintro en w9 ⟨rfl, h9⟩
  obtain rfl := h9.symm
  clear h9
  clear Pp2 Pd2
  have xK0_4s := cell_of OK4.out 0
  have xK1_4s := cell_of OK4.out 1
  have xK2_4s := cell_of OK4.out 2
  have xK3_4s := cell_of OK4.out 3
  simp at xK0_4s xK1_4s xK2_4s xK3_4s
  go_wp2_with fail
  refine (pPutBlk_any _ (HT.out.grew GG4.out) t rn rhp rnul).mono ?_
  intro en w5 ha
  obtain ⟨p3a, p3e, rfl, hp5, g5⟩ := PAns.pv ha
  have Pp3 : Hid (PV (blkW t ⟨rn, rnul, rhp⟩) w5 p3a p3e) := hp5
  have GG5 : Hid (Grew w w5) := GG4.out.trans g5
  have OV5 : Hid (w5.heap[w.heap.size]? = some (.cells #[.int .i64 n, .bool nul, .int .i64 hp] 23 (0, 0))) := (g5.turn []).other OV4.out (by simp)
  have OK5 : Hid (w5.heap[w.heap.size + 1]? = some (.cells #[.int .i64 t, .int .i64 rn, .bool rnul, .int .i64 rhp] 25 (0, 0))) := (g5.turn []).other OK4.out (by simp)
  have OG5 : Hid (w5.heap[w.heap.size + 1 + 1]? = some (.cells #[.slice ta ts.length tc, .bool ex] 28 (0, 0))) := (g5.turn []).other OG4.out (by simp)
  have OL5 : Hid (w5.heap[w.heap.size + 1 + 1 + 1]? = some (.cells #[.bool wide, .int .u64 mn, .int .u64 mx, .bool hm] 31 (0, 0))) := (g5.turn []).other OL4.out (by simp)
  clear ha hp5 g5 GG4 OV4 OK4 OG4 OL4 xK0_4s xK1_4s xK2_4s xK3_4s
  have xK0_5 := cell_of OK5.out 0
  have xK1_5 := cell_of OK5.out 1
  have xK2_5 := cell_of OK5.out 2
  have xK3_5 := cell_of OK5.out 3
  simp at xK0_5 xK1_5 xK2_5 xK3_5
  go_wp2_with fail
  refine (dPutBlk_any _ t rn rhp rnul ht0 ht1 hr0 hr1).mono ?_
  intro en w6 ha
  obtain ⟨d3a, d3e, rfl, hp6, g6⟩ := PAns.pv ha
  have Pd3 : Hid (PV (blkW t ⟨rn, rnul, rhp⟩) w6 d3a d3e) := hp6
  have Pp3 : Hid (PV (blkW t ⟨rn, rnul, rhp⟩) w6 p3a p3e) := Pp3.out.grew g6
  have GG6 : Hid (Grew w w6) := GG5.out.trans g6
  have OV6 : Hid (w6.heap[w.heap.size]? = some (.cells #[.int .i64 n, .bool nul, .int .i64 hp] 23 (0, 0))) := (g6.turn []).other OV5.out (by simp)
  have OK6 : Hid (w6.heap[w.heap.size + 1]? = some (.cells #[.int .i64 t, .int .i64 rn, .bool rnul, .int .i64 rhp] 25 (0, 0))) := (g6.turn []).other OK5.out (by simp)
  have OG6 : Hid (w6.heap[w.heap.size + 1 + 1]? = some (.cells #[.slice ta ts.length tc, .bool ex] 28 (0, 0))) := (g6.turn []).other OG5.out (by simp)
  have OL6 : Hid (w6.heap[w.heap.size + 1 + 1 + 1]? = some (.cells #[.bool wide, .int .u64 mn, .int .u64 mx, .bool hm] 31 (0, 0))) := (g6.turn []).other OL5.out (by simp)
  clear ha hp6 g6 GG5 OV5 OK5 OG5 OL5 xK0_5 xK1_5 xK2_5 xK3_5
  go_wp2_with fail
  refine (lsame_any Pp3.out Pd3.out).mono ?_
  rintro en w9 ⟨rfl, h9⟩
  obtain rfl := h9.symm
  clear h9
  clear Pp3 Pd3
  have xG0_6s := cell_of OG6.out 0
  have xG1_6s := cell_of OG6.out 1
  simp at xG0_6s xG1_6s
  go_wp2_with fail
  refine (putRec_any _ (HT.out.grew GG6.out) (.slice ta ts.length tc) ts ex (HV.out.grew GG6.out) HS.out).mono ?_
  intro en w7 ha
  obtain ⟨p4a, p4e, rfl, hp7, g7⟩ := PAns.pv ha
  have Pp4 : Hid (PV (recW ⟨ts, ex⟩) w7 p4a p4e) := hp7
  have GG7 : Hid (Grew w w7) := GG6.out.trans g7
  have OV7 : Hid (w7.heap[w.heap.size]? = some (.cells #[.int .i64 n, .bool nul, .int .i64 hp] 23 (0, 0))) := (g7.turn []).other OV6.out (by simp)
  have OK7 : Hid (w7.heap[w.heap.size + 1]? = some (.cells #[.int .i64 t, .int .i64 rn, .bool rnul, .int .i64 rhp] 25 (0, 0))) := (g7.turn []).other OK6.out (by simp)
  have OG7 : Hid (w7.heap[w.heap.size + 1 + 1]? = some (.cells #[.slice ta ts.length tc, .bool ex] 28 (0, 0))) := (g7.turn []).other OG6.out (by simp)
  have OL7 : Hid (w7.heap[w.heap.size + 1 + 1 + 1]? = some (.cells #[.bool wide, .int .u64 mn, .int .u64 mx, .bool hm] 31 (0, 0))) := (g7.turn []).other OL6.out (by simp)
  clear ha hp7 g7 GG6 OV6 OK6 OG6 OL6 xG0_6s xG1_6s
  have xG0_7 := cell_of OG7.out 0
  have xG1_7 := cell_of OG7.out 1
  simp at xG0_7 xG1_7
  go_wp2_with fail
  refine (dPutRec_any _ (.slice ta ts.length tc) ts ex (HV.out.grew GG7.out) HK.out hN).mono ?_
  intro en w8 ha
  obtain ⟨d4a, d4e, rfl, hp8, g8⟩ := PAns.pv ha
  have Pd4 : Hid (PV (recW ⟨ts, ex⟩) w8 d4a d4e) := hp8
  have Pp4 : Hid (PV (recW ⟨ts, ex⟩) w8 p4a p4e) := Pp4.out.grew g8
  have GG8 : Hid (Grew w w8) := GG7.out.trans g8
  have OV8 : Hid (w8.heap[w.heap.size]? = some (.cells #[.int .i64 n, .bool nul, .int .i64 hp] 23 (0, 0))) := (g8.turn []).other OV7.out (by simp)
  have OK8 : Hid (w8.heap[w.heap.size + 1]? = some (.cells #[.int .i64 t, .int .i64 rn, .bool rnul, .int .i64 rhp] 25 (0, 0))) := (g8.turn []).other OK7.out (by simp)
  have OG8 : Hid (w8.heap[w.heap.size + 1 + 1]? = some (.cells #[.slice ta ts.length tc, .bool ex] 28 (0, 0))) := (g8.turn []).other OG7.out (by simp)
  have OL8 : Hid (w8.heap[w.heap.size + 1 + 1 + 1]? = some (.cells #[.bool wide, .int .u64 mn, .int .u64 mx, .bool hm] 31 (0, 0))) := (g8.turn []).other OL7.out (by simp)
  clear ha hp8 g8 GG7 OV7 OK7 OG7 OL7 xG0_7 xG1_7
  go_wp2_with fail
  refine (lsame_any Pp4.out Pd4.out).mono ?_
  rintro en w9 ⟨rfl, h9⟩
  obtain rfl := h9.symm
  clear h9
  clear Pp4 Pd4
  have xL0_8s := cell_of OL8.out 0
  have xL1_8s := cell_of OL8.out 1
  have xL2_8s := cell_of OL8.out 2
  have xL3_8s := cell_of OL8.out 3
  simp at xL0_8s xL1_8s xL2_8s xL3_8s
  go_wp2_with fail
  refine (pPutLim_any _ (HT.out.grew GG8.out) wide hm mn mx hm0 hm1 hx0 hx1).mono ?_
  intro en w9 ha
  obtain ⟨p5a, p5e, rfl, hp9, g9⟩ := PAns.pv ha
  have Pp5 : Hid (PV (limW wide mn mx hm) w9 p5a p5e) := hp9
  have GG9 : Hid (Grew w w9) := GG8.out.trans g9
  have OV9 : Hid (w9.heap[w.heap.size]? = some (.cells #[.int .i64 n, .bool nul, .int .i64 hp] 23 (0, 0))) := (g9.turn []).other OV8.out (by simp)
  have OK9 : Hid (w9.heap[w.heap.size + 1]? = some (.cells #[.int .i64 t, .int .i64 rn, .bool rnul, .int .i64 rhp] 25 (0, 0))) := (g9.turn []).other OK8.out (by simp)
  have OG9 : Hid (w9.heap[w.heap.size + 1 + 1]? = some (.cells #[.slice ta ts.length tc, .bool ex] 28 (0, 0))) := (g9.turn []).other OG8.out (by simp)
  have OL9 : Hid (w9.heap[w.heap.size + 1 + 1 + 1]? = some (.cells #[.bool wide, .int .u64 mn, .int .u64 mx, .bool hm] 31 (0, 0))) := (g9.turn []).other OL8.out (by simp)
  clear ha hp9 g9 GG8 OV8 OK8 OG8 OL8 xL0_8s xL1_8s xL2_8s xL3_8s
  have xL0_9 := cell_of OL9.out 0
  have xL1_9 := cell_of OL9.out 1
  have xL2_9 := cell_of OL9.out 2
  have xL3_9 := cell_of OL9.out 3
  simp at xL0_9 xL1_9 xL2_9 xL3_9
  go_wp2_with fail
  refine (dPutLim_any _ wide hm mn mx hm0 hm1 hx0 hx1).mono ?_
  intro en w10 ha
  obtain ⟨d5a, d5e, rfl, hp10, g10⟩ := PAns.pv ha
  have Pd5 : Hid (PV (limW wide mn mx hm) w10 d5a d5e) := hp10
  have Pp5 : Hid (PV (limW wide mn mx hm) w10 p5a p5e) := Pp5.out.grew g10
  have GG10 : Hid (Grew w w10) := GG9.out.trans g10
  have OV10 : Hid (w10.heap[w.heap.size]? = some (.cells #[.int .i64 n, .bool nul, .int .i64 hp] 23 (0, 0))) := (g10.turn []).other OV9.out (by simp)
  have OK10 : Hid (w10.heap[w.heap.size + 1]? = some (.cells #[.int .i64 t, .int .i64 rn, .bool rnul, .int .i64 rhp] 25 (0, 0))) := (g10.turn []).other OK9.out (by simp)
  have OG10 : Hid (w10.heap[w.heap.size + 1 + 1]? = some (.cells #[.slice ta ts.length tc, .bool ex] 28 (0, 0))) := (g10.turn []).other OG9.out (by simp)
  have OL10 : Hid (w10.heap[w.heap.size + 1 + 1 + 1]? = some (.cells #[.bool wide, .int .u64 mn, .int .u64 mx, .bool hm] 31 (0, 0))) := (g10.turn []).other OL9.out (by simp)
  clear ha hp10 g10 GG9 OV9 OK9 OG9 OL9 xL0_9 xL1_9 xL2_9 xL3_9
  go_wp2_with fail
  refine (lsame_any Pp5.out Pd5.out).mono ?_
  rintro en w9 ⟨rfl, h9⟩
  obtain rfl := h9.symm
  clear h9
  clear Pp5 Pd5
  go_wp2_with fail
  refine (pPutTag_any _ (HT.out.grew GG10.out) m).mono ?_
  intro en w11 ha
  obtain ⟨p6a, p6e, rfl, hp11, g11⟩ := PAns.pv ha
  have Pp6 : Hid (PV (tagW m) w11 p6a p6e) := hp11
  have GG11 : Hid (Grew w w11) := GG10.out.trans g11
  have OV11 : Hid (w11.heap[w.heap.size]? = some (.cells #[.int .i64 n, .bool nul, .int .i64 hp] 23 (0, 0))) := (g11.turn []).other OV10.out (by simp)
  have OK11 : Hid (w11.heap[w.heap.size + 1]? = some (.cells #[.int .i64 t, .int .i64 rn, .bool rnul, .int .i64 rhp] 25 (0, 0))) := (g11.turn []).other OK10.out (by simp)
  have OG11 : Hid (w11.heap[w.heap.size + 1 + 1]? = some (.cells #[.slice ta ts.length tc, .bool ex] 28 (0, 0))) := (g11.turn []).other OG10.out (by simp)
  have OL11 : Hid (w11.heap[w.heap.size + 1 + 1 + 1]? = some (.cells #[.bool wide, .int .u64 mn, .int .u64 mx, .bool hm] 31 (0, 0))) := (g11.turn []).other OL10.out (by simp)
  clear ha hp11 g11 GG10 OV10 OK10 OG10 OL10
  go_wp2_with fail
  refine (dPutTag_any _ m hg0 hg1).mono ?_
  intro en w12 ha
  obtain ⟨d6a, d6e, rfl, hp12, g12⟩ := PAns.pv ha
  have Pd6 : Hid (PV (tagW m) w12 d6a d6e) := hp12
  have Pp6 : Hid (PV (tagW m) w12 p6a p6e) := Pp6.out.grew g12
  have GG12 : Hid (Grew w w12) := GG11.out.trans g12
  have OV12 : Hid (w12.heap[w.heap.size]? = some (.cells #[.int .i64 n, .bool nul, .int .i64 hp] 23 (0, 0))) := (g12.turn []).other OV11.out (by simp)
  have OK12 : Hid (w12.heap[w.heap.size + 1]? = some (.cells #[.int .i64 t, .int .i64 rn, .bool rnul, .int .i64 rhp] 25 (0, 0))) := (g12.turn []).other OK11.out (by simp)
  have OG12 : Hid (w12.heap[w.heap.size + 1 + 1]? = some (.cells #[.slice ta ts.length tc, .bool ex] 28 (0, 0))) := (g12.turn []).other OG11.out (by simp)
  have OL12 : Hid (w12.heap[w.heap.size + 1 + 1 + 1]? = some (.cells #[.bool wide, .int .u64 mn, .int .u64 mx, .bool hm] 31 (0, 0))) := (g12.turn []).other OL11.out (by simp)
  clear ha hp12 g12 GG11 OV11 OK11 OG11 OL11
  go_wp2_with fail
  refine (lsame_any Pp6.out Pd6.out).mono ?_
  rintro en w9 ⟨rfl, h9⟩
  obtain rfl := h9.symm
  clear h9
  clear Pp6 Pd6
  go_wp2_with fail
  refine (awake_any _ (HT.out.grew GG12.out)).mono ?_
  rintro en w20 ⟨rfl, g20⟩
  have G20 : Hid (Grew w w20) := GG12.out.trans g20
  clear g20
  go_wp2_with fail
  go_ret
  exact ⟨rfl, G20.out⟩
end Go.Proofs.YtbhbogfdnaadeaaDoor
