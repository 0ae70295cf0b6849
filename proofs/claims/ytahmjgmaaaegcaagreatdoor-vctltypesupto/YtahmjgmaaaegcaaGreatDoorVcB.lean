/-
  What a block begins and ends with, of both; no statement is proved here.
-/
import Derived.Test.YtahmjgmaaaegcaaGreatDoorVcF
import Derived.Test.YtahmjgmaaaegcaaGreatDoorVnK
import Derived.Test.YtahmjgmaaaegcaaGreatDoorCkW
namespace Go.Proofs.YtahmjgmaaaegcaaGreatDoor
open Go.RowKit
set_option linter.unusedVariables false
set_option linter.unusedSimpArgs false

/- What a block begins and ends with, and the error. -/
def btF (L : List RT) (t : Int) (v : VT) : List VT × List VT × Int :=
  if 0 ≤ t then ftF L t else if v.num = 0 then ([], [], 0) else if knownB L v then ([], [v], 0) else ([], [], 150)
def BtP (w' : World) (L : List RT) (t : Int) (v : VT) (en : Ending) : Prop := ∃ pv rv, en = .returned (.tuple #[pv, rv, .int .i64 (btF L t v).2.2]) ∧ LV w' pv (btF L t v).1 ∧ LV w' rv (btF L t v).2.1
theorem BtP.mk' {w' : World} {L : List RT} {t : Int} {v : VT} {p r : List VT} {e : Int} (h : btF L t v = (p, r, e)) {pv rv : Value} (hp : LV w' pv p) (hr : LV w' rv r) : BtP w' L t v (.returned (.tuple #[pv, rv, .int .i64 e])) := ⟨pv, rv, by rw [h], by rw [h]; exact hp, by rw [h]; exact hr⟩
theorem lvC_1 {w : World} {b : Nat} {n h : Int} {z : Bool} (c0 : w.cell? ⟨b, 0, none⟩ = some (.int .i64 n)) (c1 : w.cell? ⟨b, 1, none⟩ = some (.bool z)) (c2 : w.cell? ⟨b, 2, none⟩ = some (.int .i64 h)) : LV w (.slice (some ⟨b, 0, none⟩) 1 1) [⟨n, z, h⟩] := by
  refine ⟨_, _, rfl, Nat.le_refl _, by decide, (fun h => by cases h), Or.inr ⟨b, 0, rfl, fun i x hx => ?_⟩⟩
  match i with
  | 0 => simp at hx; subst hx; exact ⟨c0, c1, c2⟩
  | n + 1 => simp at hx
theorem lvC_new {w X : World} {n hp : Int} {z : Bool} (e : X = w.alloc (.cells #[.int .i64 n, .bool z, .int .i64 hp] 29)) : LV X (.slice (some ⟨w.heap.size, 0, none⟩) 1 1) [⟨n, z, hp⟩] := by
  subst e
  have B := heap_alloc_last w (.cells #[.int .i64 n, .bool z, .int .i64 hp] 29)
  exact lvC_1 (cell_of B 0) (cell_of B 1) (cell_of B 2)
set_option maxRecDepth 100000 in
theorem list_anyC (v : Value) (w : World) : Calls Tryz.prog 31 #[v] w fun en w' => en = .returned v ∧ w' = w := by
  go_enter Tryz.func31, Tryz.ntmps31
  go_wp2_with fail
  go_ret
  exact ⟨rfl, rfl⟩
set_option maxRecDepth 100000 in
set_option maxHeartbeats 2000000 in
theorem dknown_any {w : World} {tv : Value} {L : List RT} (h : LR w tv L) (hm : L.length ≤ 1048576) (hc : cntT L ≤ 1048576) (n hp : Int) (z : Bool) (a1 : Option Addr) (l1 c1 : Nat) (a2 : Option Addr) (l2 c2 : Nat) (a3 : Option Addr) (l3 c3 : Nat) (a4 : Option Addr) (l4 c4 : Nat) (a5 : Option Addr) (l5 c5 : Nat) (a6 : Option Addr) (l6 c6 : Nat) (dt : Int) (a8 : Option Addr) (l8 c8 : Nat) :
    Calls Tryz.prog 32 #[.agg (ctxL tv a1 l1 c1 a2 l2 c2 a3 l3 c3 a4 l4 c4 a5 l5 c5 a6 l6 c6 dt a8 l8 c8).toArray, .agg #[.int .i64 n, .bool z, .int .i64 hp]] w fun en w' => en = .returned (.bool (knownB L ⟨n, z, hp⟩)) ∧ Grew w w' := by
  obtain ⟨ta, tc, htv, _⟩ := h.one
  subst htv
  unfold ctxL
  have CC : Hid (∀ X, Grew w X → Calls Tryz.prog 67 #[.slice ta L.length tc] X fun en w' => en = .returned (.int .i64 (cntT L : Int)) ∧ Grew X w') := fun X g => dcount_any (h.grew g) hm hc
  clear h hm hc
  by_cases h5 : n = 5
  · subst h5
    by_cases h12 : -12 ≤ hp
    · have e : knownB L ⟨5, z, hp⟩ = decide (hp < (cntT L : Int)) := by
        unfold knownB
        simp only [if_true]
        split
        · rename_i h0
          have : hp < (cntT L : Int) := by omega
          simp [h12, this]
        · rfl
      rw [e]
      have d2 : decide (-12 ≤ hp) = true := by simpa using h12
      clear e h12
      go_enter Tryz.func32, Tryz.ntmps32
      go_wp2_with fail
      obtain ⟨w0, hw0⟩ : ∃ w0, w0 = (w.alloc (.cells #[.slice ta L.length tc, .slice a1 l1 c1, .slice a2 l2 c2, .slice a3 l3 c3, .slice a4 l4 c4, .slice a5 l5 c5, .slice a6 l6 c6, .int .i64 dt, .slice a8 l8 c8] 41)).alloc (.cells #[.int .i64 5, .bool z, .int .i64 hp] 29) := ⟨_, rfl⟩
      have N0 : w0.heap[w.heap.size]? = some (.cells #[.slice ta L.length tc, .slice a1 l1 c1, .slice a2 l2 c2, .slice a3 l3 c3, .slice a4 l4 c4, .slice a5 l5 c5, .slice a6 l6 c6, .int .i64 dt, .slice a8 l8 c8] 41 (0, 0)) := by rw [hw0]; exact heap_alloc (heap_alloc_last _ _) _
      have N1 : w0.heap[w.heap.size + 1]? = some (.cells #[.int .i64 5, .bool z, .int .i64 hp] 29 (0, 0)) := by
        rw [hw0]
        have := heap_alloc_last (w.alloc (.cells #[.slice ta L.length tc, .slice a1 l1 c1, .slice a2 l2 c2, .slice a3 l3 c3, .slice a4 l4 c4, .slice a5 l5 c5, .slice a6 l6 c6, .int .i64 dt, .slice a8 l8 c8] 41)) (.cells #[.int .i64 5, .bool z, .int .i64 hp] 29)
        rw [alloc_size] at this
        exact this
      have G0 := Hid.mk' (show Grew w w0 by rw [hw0]; exact ((Grew.refl w).alloc _).alloc _)
      rw [← hw0]
      clear hw0
      have q0 := cell_of N0 0
      have y0 := cell_of N1 0
      have y2 := cell_of N1 2
      simp at q0 y0 y2
      have l0 := lt_of_obj N0
      have l1 := lt_of_obj N1
      clear N0 N1
      generalize w.heap.size = b0 at *
      go_region_held3 (fun w' => w'.cell? ⟨b0, 0, none⟩ = some (.slice ta L.length tc) ∧ w'.cell? ⟨b0 + 1, 0, none⟩ = some (.int .i64 5) ∧ w'.cell? ⟨b0 + 1, 2, none⟩ = some (.int .i64 hp)) (go_keep) (first
      | (with_reducible refine (CC.out _ ?gr).mono ?_
         case gr => exact G0.out.trans (by repeat (first | with_reducible exact Grew.refl _ | refine Grew.alloc ?_ _ | refine Grew.drewN ?_ _ | refine Grew.drew ?_))
         rintro en w5 ⟨rfl, g5⟩
         have gg5 : Grew w0 w5 := Grew.trans (by repeat (first | with_reducible exact Grew.refl _ | refine Grew.alloc ?_ _ | refine Grew.drewN ?_ _ | refine Grew.drew ?_)) g5
         have HG5 := Hid.mk' (G0.out.trans gg5)
         have t0 := cell_grew q0 gg5
         have t1 := cell_grew y0 gg5
         have t2 := cell_grew y2 gg5
         clear g5 gg5)
      | fail)
      all_goals
        go_wp2_with fail
        go_ret
        exact ⟨rfl, (by repeat (first | with_reducible exact HG5.out | refine Grew.alloc ?_ _ | refine Grew.drewN ?_ _ | refine Grew.drew ?_))⟩
    · have e : knownB L ⟨5, z, hp⟩ = false := by
        unfold knownB
        rw [if_pos rfl, if_pos (show hp < 0 by omega)]
        simpa using h12
      rw [e]
      have d2 : decide (-12 ≤ hp) = false := by simpa using h12
      clear e h12 CC
      go_enter Tryz.func32, Tryz.ntmps32
      go_wp2_with fail
      go_quiet (fail)
      go_wp2_with fail
      go_ret
      exact ⟨rfl, by repeat (first | with_reducible exact Grew.refl _ | refine Grew.alloc ?_ _ | refine Grew.drewN ?_ _ | refine Grew.drew ?_)⟩
  · have e : knownB L ⟨n, z, hp⟩ = true := by simp [knownB, h5]
    rw [e]
    have d1 : (n == 5) = false := by simpa using h5
    have d2 : (n != 5) = true := by simp [bne, d1]
    clear e h5 CC
    go_enter Tryz.func32, Tryz.ntmps32
    go_wp2_with fail
    obtain ⟨w0, hw0⟩ : ∃ w0, w0 = (w.alloc (.cells #[.slice ta L.length tc, .slice a1 l1 c1, .slice a2 l2 c2, .slice a3 l3 c3, .slice a4 l4 c4, .slice a5 l5 c5, .slice a6 l6 c6, .int .i64 dt, .slice a8 l8 c8] 41)).alloc (.cells #[.int .i64 n, .bool z, .int .i64 hp] 29) := ⟨_, rfl⟩
    have N1 : w0.heap[w.heap.size + 1]? = some (.cells #[.int .i64 n, .bool z, .int .i64 hp] 29 (0, 0)) := by
      rw [hw0]
      have := heap_alloc_last (w.alloc (.cells #[.slice ta L.length tc, .slice a1 l1 c1, .slice a2 l2 c2, .slice a3 l3 c3, .slice a4 l4 c4, .slice a5 l5 c5, .slice a6 l6 c6, .int .i64 dt, .slice a8 l8 c8] 41)) (.cells #[.int .i64 n, .bool z, .int .i64 hp] 29)
      rw [alloc_size] at this
      exact this
    have G0 := Hid.mk' (show Grew w w0 by rw [hw0]; exact ((Grew.refl w).alloc _).alloc _)
    rw [← hw0]
    clear hw0
    have y0 := cell_of N1 0
    simp at y0
    have l1 := lt_of_obj N1
    clear N1
    generalize w.heap.size = b0 at *
    refine wp_region_ck [(b0 + 1, 0, .int .i64 n)] (by kernel_rfl) (by kernel_rfl) ⟨⟨l1, y0⟩, trivial⟩ ?_
    repeat (first
      | go_big_quiet_skip
      | (go_big_quiet_want
         go_big_quiet_op
         first
         | (refine ⟨.bool true, fun w' hw' => ?_, ?_⟩
            · (go_simp; done)
            go_big_quiet_on)
         | go_big_quiet_on
         | (refine ⟨_, fun _ _ => rfl, ?_⟩; go_big_quiet_on)
         | (refine ⟨.int .i64 n, fun w' hw' => ?_, ?_⟩
            · (obtain ⟨_, ⟨_, hc0⟩, _⟩ := hw'; go_simp; done)
            go_big_quiet_on)))
    refine wpQuiet_nil ?_
    rintro w6 ⟨g6, _⟩
    have G6 := Hid.mk' (G0.out.trans g6)
    clear g6
    go_wp2_with fail
    go_ret
    exact ⟨rfl, G6.out⟩
set_option maxRecDepth 100000 in
set_option maxHeartbeats 2000000 in
theorem blockP_any {w : World} {tv : Value} {L : List RT} (h : LR w tv L) (hb : (L.map muR).sum ≤ 1048576) (t : Int) (ht : t ≤ 9223372036854775807) (n hp : Int) (z : Bool) (a1 : Option Addr) (l1 c1 : Nat) (a2 : Option Addr) (l2 c2 : Nat) (a3 : Option Addr) (l3 c3 : Nat) (a4 : Option Addr) (l4 c4 : Nat) (a5 : Option Addr) (l5 c5 : Nat) (a6 : Option Addr) (l6 c6 : Nat) (dt : Int) (a8 : Option Addr) (l8 c8 : Nat) :
    Calls Tryz.prog 15 #[.agg (ctxL tv a1 l1 c1 a2 l2 c2 a3 l3 c3 a4 l4 c4 a5 l5 c5 a6 l6 c6 dt a8 l8 c8).toArray, .agg #[.int .i64 t, .int .i64 n, .bool z, .int .i64 hp]] w fun en w' => BtP w' L t ⟨n, z, hp⟩ en ∧ Grew w w' := by
  have hs := sml_of hb
  obtain ⟨ta, tc, htv, _⟩ := h.one
  subst htv
  unfold ctxL
  have CF : Hid (∀ X, Grew w X → Calls Tryz.prog 12 #[.agg #[.slice ta L.length tc, .slice a1 l1 c1, .slice a2 l2 c2, .slice a3 l3 c3, .slice a4 l4 c4, .slice a5 l5 c5, .slice a6 l6 c6, .int .i64 dt, .slice a8 l8 c8], .int .i64 t] X fun en w' => FtP w' L t en ∧ Grew X w') := fun X g => funcP_any (h.grew g) hb t ht a1 l1 c1 a2 l2 c2 a3 l3 c3 a4 l4 c4 a5 l5 c5 a6 l6 c6 dt a8 l8 c8
  have CK : Hid (∀ X, Grew w X → Calls Tryz.prog 30 #[.slice ta L.length tc, .agg #[.int .i64 n, .bool z, .int .i64 hp]] X fun en w' => en = .returned (.bool (knownB L ⟨n, z, hp⟩)) ∧ Grew X w') := fun X g => known_any (h.grew g) hs.1 hs.2.1 n hp z
  have G0 : Hid (Grew w ((w.alloc (.cells #[.slice ta L.length tc, .slice a1 l1 c1, .slice a2 l2 c2, .slice a3 l3 c3, .slice a4 l4 c4, .slice a5 l5 c5, .slice a6 l6 c6, .int .i64 dt, .slice a8 l8 c8] 41)).alloc (.cells #[.int .i64 t, .int .i64 n, .bool z, .int .i64 hp] 43))) := ((Grew.refl w).alloc _).alloc _
  clear h hs hb ht
  by_cases h0 : 0 ≤ t
  · have d1 : decide (0 ≤ t) = true := by simpa using h0
    have HE : Hid (btF L t ⟨n, z, hp⟩ = ftF L t) := by
      unfold btF
      rw [if_pos h0]
      exact rfl
    clear h0 CK
    go_enter Tryz.func15, Tryz.ntmps15
    go_wp2_with fail
    refine (CF.out _ G0.out).mono ?_
    rintro en w1 ⟨⟨pv, rv, rfl, l1, l2⟩, g1⟩
    have H1 := Hid.mk' l1
    have H2 := Hid.mk' l2
    have G1 := Hid.mk' (G0.out.trans g1)
    obtain ⟨e, he⟩ : ∃ e, e = (ftF L t).2.2 := ⟨_, rfl⟩
    rw [← he]
    have HEE := Hid.mk' he
    clear l1 l2 g1 CF G0 he
    go_wp2_with fail
    refine bodyPost_ret (v := .tuple #[pv, rv, .int .i64 e]) (by simp [results, Tryz.results15, go_sem]) rfl ?_
    exact ⟨⟨pv, rv, by rw [HE.out, ← HEE.out], by rw [HE.out]; exact H1.out, by rw [HE.out]; exact H2.out⟩, G1.out⟩
  have d1 : decide (0 ≤ t) = false := by simpa using h0
  clear CF
  by_cases hn : n = 0
  · have HE : Hid (btF L t ⟨n, z, hp⟩ = ([], [], 0)) := by
      unfold btF
      rw [if_neg h0, if_pos hn]
      exact rfl
    have d2 : (n == 0) = true := by simpa using hn
    clear h0 hn CK
    go_enter Tryz.func15, Tryz.ntmps15
    go_wp2_with fail
    refine bodyPost_ret (v := .tuple #[.slice none 0 0, .slice none 0 0, .int .i64 0]) (by simp [results, Tryz.results15, go_sem]) rfl ?_
    exact ⟨BtP.mk' HE.out (Lst.nil _ _ _) (Lst.nil _ _ _), G0.out⟩
  have d2 : (n == 0) = false := by simpa using hn
  cases hkn : knownB L ⟨n, z, hp⟩ with
  | false =>
    have HE : Hid (btF L t ⟨n, z, hp⟩ = ([], [], 150)) := by
      unfold btF
      rw [if_neg h0, if_neg hn, hkn]
      exact rfl
    rw [hkn] at CK
    clear h0 hn hkn
    go_enter Tryz.func15, Tryz.ntmps15
    go_wp2_with fail
    refine (CK.out _ G0.out).mono ?_
    rintro en w1 ⟨rfl, g1⟩
    have G1 := Hid.mk' (G0.out.trans g1)
    clear g1 CK G0
    go_wp2_with fail
    refine bodyPost_ret (v := .tuple #[.slice none 0 0, .slice none 0 0, .int .i64 150]) (by simp [results, Tryz.results15, go_sem]) rfl ?_
    exact ⟨BtP.mk' HE.out (Lst.nil _ _ _) (Lst.nil _ _ _), G1.out⟩
  | true =>
    have HE : Hid (btF L t ⟨n, z, hp⟩ = ([], [⟨n, z, hp⟩], 0)) := by
      unfold btF
      rw [if_neg h0, if_neg hn, hkn]
      exact rfl
    rw [hkn] at CK
    have N1 : ((w.alloc (.cells #[.slice ta L.length tc, .slice a1 l1 c1, .slice a2 l2 c2, .slice a3 l3 c3, .slice a4 l4 c4, .slice a5 l5 c5, .slice a6 l6 c6, .int .i64 dt, .slice a8 l8 c8] 41)).alloc (.cells #[.int .i64 t, .int .i64 n, .bool z, .int .i64 hp] 43)).heap[w.heap.size + 1]? = some (.cells #[.int .i64 t, .int .i64 n, .bool z, .int .i64 hp] 43 (0, 0)) := by
      have := heap_alloc_last (w.alloc (.cells #[.slice ta L.length tc, .slice a1 l1 c1, .slice a2 l2 c2, .slice a3 l3 c3, .slice a4 l4 c4, .slice a5 l5 c5, .slice a6 l6 c6, .int .i64 dt, .slice a8 l8 c8] 41)) (.cells #[.int .i64 t, .int .i64 n, .bool z, .int .i64 hp] 43)
      rw [alloc_size] at this
      exact this
    have HN := Hid.mk' N1
    have hne : w.heap.size + 1 ≠ w.heap.size := by omega
    clear h0 hn hkn N1
    go_enter Tryz.func15, Tryz.ntmps15
    go_wp2_with fail
    refine (CK.out _ G0.out).mono ?_
    rintro en w1 ⟨rfl, g1⟩
    have G1 := Hid.mk' (G0.out.trans g1)
    have B1 := (g1.turn []).other HN.out (by simp)
    have y0 := cell_of B1 0
    have y1 := cell_of B1 1
    have y2 := cell_of B1 2
    have y3 := cell_of B1 3
    simp at y0 y1 y2 y3
    have lb := lt_of_obj B1
    clear g1 CK G0 HN B1
    go_wp2_with fail
    go_wp2_with fail
    refine (list_anyC _ _).mono ?_
    rintro en w5 ⟨rfl, rfl⟩
    go_wp2_with fail
    refine bodyPost_ret (v := .tuple #[.slice none 0 0, .slice (some ⟨w1.heap.size, 0, none⟩) 1 1, .int .i64 0]) (by simp [results, Tryz.results15, go_sem]) rfl ?_
    exact ⟨BtP.mk' HE.out (Lst.nil _ _ _) (lvC_new rfl), G1.out.alloc _⟩
set_option maxRecDepth 100000 in
set_option maxHeartbeats 2000000 in
theorem blockD_any {w : World} {tv : Value} {L : List RT} (h : LR w tv L) (hb : (L.map muR).sum ≤ 1048576) (t : Int) (ht : t ≤ 9223372036854775807) (n hp : Int) (z : Bool) (a1 : Option Addr) (l1 c1 : Nat) (a2 : Option Addr) (l2 c2 : Nat) (a3 : Option Addr) (l3 c3 : Nat) (a4 : Option Addr) (l4 c4 : Nat) (a5 : Option Addr) (l5 c5 : Nat) (a6 : Option Addr) (l6 c6 : Nat) (dt : Int) (a8 : Option Addr) (l8 c8 : Nat) :
    Calls Tryz.prog 16 #[.agg (ctxL tv a1 l1 c1 a2 l2 c2 a3 l3 c3 a4 l4 c4 a5 l5 c5 a6 l6 c6 dt a8 l8 c8).toArray, .agg #[.int .i64 t, .int .i64 n, .bool z, .int .i64 hp]] w fun en w' => BtP w' L t ⟨n, z, hp⟩ en ∧ Grew w w' := by
  have hs := sml_of hb
  obtain ⟨ta, tc, htv, _⟩ := h.one
  subst htv
  unfold ctxL
  have CF : Hid (∀ X, Grew w X → Calls Tryz.prog 13 #[.agg #[.slice ta L.length tc, .slice a1 l1 c1, .slice a2 l2 c2, .slice a3 l3 c3, .slice a4 l4 c4, .slice a5 l5 c5, .slice a6 l6 c6, .int .i64 dt, .slice a8 l8 c8], .int .i64 t] X fun en w' => FtP w' L t en ∧ Grew X w') := fun X g => funcD_any (h.grew g) hb t ht a1 l1 c1 a2 l2 c2 a3 l3 c3 a4 l4 c4 a5 l5 c5 a6 l6 c6 dt a8 l8 c8
  have CK : Hid (∀ X, Grew w X → Calls Tryz.prog 32 #[.agg #[.slice ta L.length tc, .slice a1 l1 c1, .slice a2 l2 c2, .slice a3 l3 c3, .slice a4 l4 c4, .slice a5 l5 c5, .slice a6 l6 c6, .int .i64 dt, .slice a8 l8 c8], .agg #[.int .i64 n, .bool z, .int .i64 hp]] X fun en w' => en = .returned (.bool (knownB L ⟨n, z, hp⟩)) ∧ Grew X w') := fun X g => dknown_any (h.grew g) hs.1 hs.2.1 n hp z a1 l1 c1 a2 l2 c2 a3 l3 c3 a4 l4 c4 a5 l5 c5 a6 l6 c6 dt a8 l8 c8
  have G0 : Hid (Grew w ((w.alloc (.cells #[.slice ta L.length tc, .slice a1 l1 c1, .slice a2 l2 c2, .slice a3 l3 c3, .slice a4 l4 c4, .slice a5 l5 c5, .slice a6 l6 c6, .int .i64 dt, .slice a8 l8 c8] 41)).alloc (.cells #[.int .i64 t, .int .i64 n, .bool z, .int .i64 hp] 43))) := ((Grew.refl w).alloc _).alloc _
  clear h hs hb ht
  by_cases h0 : 0 ≤ t
  · have d1 : decide (0 ≤ t) = true := by simpa using h0
    have HE : Hid (btF L t ⟨n, z, hp⟩ = ftF L t) := by
      unfold btF
      rw [if_pos h0]
      exact rfl
    clear h0 CK
    go_enter Tryz.func16, Tryz.ntmps16
    go_wp2_with fail
    refine (CF.out _ G0.out).mono ?_
    rintro en w1 ⟨⟨pv, rv, rfl, l1, l2⟩, g1⟩
    have H1 := Hid.mk' l1
    have H2 := Hid.mk' l2
    have G1 := Hid.mk' (G0.out.trans g1)
    obtain ⟨e, he⟩ : ∃ e, e = (ftF L t).2.2 := ⟨_, rfl⟩
    rw [← he]
    have HEE := Hid.mk' he
    clear l1 l2 g1 CF G0 he
    go_wp2_with fail
    refine bodyPost_ret (v := .tuple #[pv, rv, .int .i64 e]) (by simp [results, Tryz.results16, go_sem]) rfl ?_
    exact ⟨⟨pv, rv, by rw [HE.out, ← HEE.out], by rw [HE.out]; exact H1.out, by rw [HE.out]; exact H2.out⟩, G1.out⟩
  have d1 : decide (0 ≤ t) = false := by simpa using h0
  clear CF
  by_cases hn : n = 0
  · have HE : Hid (btF L t ⟨n, z, hp⟩ = ([], [], 0)) := by
      unfold btF
      rw [if_neg h0, if_pos hn]
      exact rfl
    have d2 : (n == 0) = true := by simpa using hn
    clear h0 hn CK
    go_enter Tryz.func16, Tryz.ntmps16
    go_wp2_with fail
    refine bodyPost_ret (v := .tuple #[.slice none 0 0, .slice none 0 0, .int .i64 0]) (by simp [results, Tryz.results16, go_sem]) rfl ?_
    exact ⟨BtP.mk' HE.out (Lst.nil _ _ _) (Lst.nil _ _ _), G0.out⟩
  have d2 : (n == 0) = false := by simpa using hn
  cases hkn : knownB L ⟨n, z, hp⟩ with
  | false =>
    have HE : Hid (btF L t ⟨n, z, hp⟩ = ([], [], 150)) := by
      unfold btF
      rw [if_neg h0, if_neg hn, hkn]
      exact rfl
    rw [hkn] at CK
    clear h0 hn hkn
    go_enter Tryz.func16, Tryz.ntmps16
    go_wp2_with fail
    refine (CK.out _ G0.out).mono ?_
    rintro en w1 ⟨rfl, g1⟩
    have G1 := Hid.mk' (G0.out.trans g1)
    clear g1 CK G0
    go_wp2_with fail
    refine bodyPost_ret (v := .tuple #[.slice none 0 0, .slice none 0 0, .int .i64 150]) (by simp [results, Tryz.results16, go_sem]) rfl ?_
    exact ⟨BtP.mk' HE.out (Lst.nil _ _ _) (Lst.nil _ _ _), G1.out⟩
  | true =>
    have HE : Hid (btF L t ⟨n, z, hp⟩ = ([], [⟨n, z, hp⟩], 0)) := by
      unfold btF
      rw [if_neg h0, if_neg hn, hkn]
      exact rfl
    rw [hkn] at CK
    have N1 : ((w.alloc (.cells #[.slice ta L.length tc, .slice a1 l1 c1, .slice a2 l2 c2, .slice a3 l3 c3, .slice a4 l4 c4, .slice a5 l5 c5, .slice a6 l6 c6, .int .i64 dt, .slice a8 l8 c8] 41)).alloc (.cells #[.int .i64 t, .int .i64 n, .bool z, .int .i64 hp] 43)).heap[w.heap.size + 1]? = some (.cells #[.int .i64 t, .int .i64 n, .bool z, .int .i64 hp] 43 (0, 0)) := by
      have := heap_alloc_last (w.alloc (.cells #[.slice ta L.length tc, .slice a1 l1 c1, .slice a2 l2 c2, .slice a3 l3 c3, .slice a4 l4 c4, .slice a5 l5 c5, .slice a6 l6 c6, .int .i64 dt, .slice a8 l8 c8] 41)) (.cells #[.int .i64 t, .int .i64 n, .bool z, .int .i64 hp] 43)
      rw [alloc_size] at this
      exact this
    have HN := Hid.mk' N1
    have hne : w.heap.size + 1 ≠ w.heap.size := by omega
    clear h0 hn hkn N1
    go_enter Tryz.func16, Tryz.ntmps16
    go_wp2_with fail
    refine (CK.out _ G0.out).mono ?_
    rintro en w1 ⟨rfl, g1⟩
    have G1 := Hid.mk' (G0.out.trans g1)
    have B1 := (g1.turn []).other HN.out (by simp)
    have y0 := cell_of B1 0
    have y1 := cell_of B1 1
    have y2 := cell_of B1 2
    have y3 := cell_of B1 3
    simp at y0 y1 y2 y3
    have lb := lt_of_obj B1
    clear g1 CK G0 HN B1
    go_wp2_with fail
    go_region
    all_goals
      go_wp2_with fail
      refine bodyPost_ret (v := .tuple #[.slice none 0 0, .slice (some ⟨w1.heap.size, 0, none⟩) 1 1, .int .i64 0]) (by simp [results, Tryz.results16, go_sem]) rfl ?_
      exact ⟨BtP.mk' HE.out (Lst.nil _ _ _) ((lvC_new rfl).grew (Grew.refl _).drew), (by repeat (first | with_reducible exact G1.out | refine Grew.alloc ?_ _ | refine Grew.drewN ?_ _ | refine Grew.drew ?_))⟩
end Go.Proofs.YtahmjgmaaaegcaaGreatDoor
