/-
  The walk of the reader's name; no statement is proved here.
-/
import Derived.Test.YtclamdpbdafmcaaReader
import Derived.Test.YtclamdpbdafmcaaNameM
import Derived.Test.YtclamdpbdafmcaaWellF
namespace Go.Proofs.Ytclamdpbdafmcaa
open Go.RowKit
set_option linter.unusedVariables false

theorem ret_str {a b : List Int} (h : a = b) : Ending.returned (.string (strOfNums a)) = .returned (.string (strOfNums b)) := by rw [h]
theorem pan_eq {p p' e e' : Int} (h1 : p = p') (h2 : e = e') : Ending.panicked (flt p e) = .panicked (flt p' e') := by rw [h1, h2]


set_option maxRecDepth 100000 in
set_option maxHeartbeats 1000000 in
theorem name_rd (bc : Nat) (a : Option Addr) (cap : Nat) (l : List Int) (p : Int) (w : World) (h : w.heap[bc]? = some (rdr (.slice a l.length cap) p)) (hR : Reads w (.slice a l.length cap) l) (hb : Byt l) (hlen : l.length ≤ 140737488351232) (n q e : Int) (hrd : rd 32 false l p l.length = (n, q, e)) (he : e ≠ 0) :
    Calls Try.prog 35 #[.pointer (some ⟨bc, 0, none⟩)] w fun en w' => en = .panicked (flt q e) ∧ Turn [bc] w w' := by
  have c1 := cell_of h 1
  simp at c1
  have HN := number_bad bc a cap l p n q e w h hR hb hlen hrd he
  clear h hR hb hrd he
  go_enter Try.func35, Try.ntmps35
  go_wp2_with fail
  refine HN.mono ?_
  rintro en w1 ⟨rfl, ht⟩
  go_wp2_with fail
  exact ⟨rfl, rfl, (Turn.refl _ _).trans' ht (by simp)⟩

set_option maxRecDepth 100000 in
set_option maxHeartbeats 1000000 in
theorem name_long (bc : Nat) (a : Option Addr) (cap : Nat) (l : List Int) (p : Int) (w : World) (h : w.heap[bc]? = some (rdr (.slice a l.length cap) p)) (hR : Reads w (.slice a l.length cap) l) (hb : Byt l) (hlen : l.length ≤ 140737488351232) (n q : Int) (N : Nat) (hrd : rd 32 false l p l.length = (n, q, 0)) (hN : n % 4294967296 = N) (hl : 65536 < N) (hN' : N ≤ 4294967295) :
    Calls Try.prog 35 #[.pointer (some ⟨bc, 0, none⟩)] w fun en w' => en = .panicked (flt p 2) ∧ Turn [bc] w w' := by
  have c1 := cell_of h 1
  simp at c1
  have HN := number_ok bc a cap l p n q w h hR hb hlen hrd
  rw [hN] at HN
  clear h hR hb hrd hN
  go_enter Try.func35, Try.ntmps35
  go_wp2_with fail
  refine HN.mono ?_
  rintro en w1 ⟨rfl, ht, hh⟩
  clear HN
  go_wp2_with fail
  refine (giveUp_any _ 2 _).mono ?_
  rintro en w2 ⟨rfl, rfl⟩
  go_wp2_with fail
  exact ⟨rfl, rfl, ht⟩

set_option maxRecDepth 100000 in
set_option maxHeartbeats 1000000 in
theorem name_short (bc : Nat) (a : Option Addr) (cap : Nat) (l : List Int) (p : Int) (w : World) (h : w.heap[bc]? = some (rdr (.slice a l.length cap) p)) (hR : Reads w (.slice a l.length cap) l) (hb : Byt l) (hlen : l.length ≤ 140737488351232) (n : Int) (N Q : Nat) (hrd : rd 32 false l p l.length = (n, (Q : Int), 0)) (hN : n % 4294967296 = N) (hl : N ≤ 65536) (hQ : Q ≤ l.length) (hs : ¬ Q + N ≤ l.length) :
    Calls Try.prog 35 #[.pointer (some ⟨bc, 0, none⟩)] w fun en w' => en = .panicked (flt l.length 3) ∧ Turn [bc] w w' := by
  have c1 := cell_of h 1
  simp at c1
  have HN := number_ok bc a cap l p n Q w h hR hb hlen hrd
  rw [hN] at HN
  clear h hR hb hrd hN
  go_enter Try.func35, Try.ntmps35
  go_wp2_with fail
  refine HN.mono ?_
  rintro en w1 ⟨rfl, ht, hh⟩
  clear HN
  go_wp2_with fail
  refine (part_bad bc a cap l Q N _ hh hQ hs hlen (by omega)).mono ?_
  rintro en w2 ⟨rfl, ht2⟩
  go_wp2_with fail
  exact ⟨rfl, rfl, ht.trans' ht2 (by simp)⟩

set_option maxRecDepth 100000 in
set_option maxHeartbeats 2000000 in
theorem name_body (bc : Nat) (a : Option Addr) (cap : Nat) (l : List Int) (p : Int) (w : World) (h : w.heap[bc]? = some (rdr (.slice a l.length cap) p)) (hR : Reads w (.slice a l.length cap) l) (hb : Byt l) (hlen : l.length ≤ 140737488351232) (n : Int) (N Q : Nat) (i : Int) (g : Bool) (hrd : rd 32 false l p l.length = (n, (Q : Int), 0)) (hN : n % 4294967296 = N) (hl : N ≤ 65536) (hQ : Q ≤ l.length) (hs : Q + N ≤ l.length)
    (hu : U ((l.take (Q + N)).drop Q) = (i, g)) (hi : g = false → 0 ≤ i ∧ i ≤ 140737488351232) :
    Calls Try.prog 35 #[.pointer (some ⟨bc, 0, none⟩)] w fun en w' => (en = if g then .returned (.string (strOfNums ((l.take (Q + N)).drop Q))) else .panicked (flt (Q + i) 21)) ∧ Turn [bc] w w' ∧ w'.heap[bc]? = some (rdr (.slice a l.length cap) ((Q + N : Nat) : Int)) := by
  have c1 := cell_of h 1
  simp at c1
  have HN := number_ok bc a cap l p n Q w h hR hb hlen hrd
  rw [hN] at HN
  have hnob : NoB w bc := NoB.rdr h
  have HR : Hid (Reads w (.slice a l.length cap) l) := hR
  have HB : Hid (Byt l) := hb
  have HU : Hid (U ((l.take (Q + N)).drop Q) = (i, g)) := hu
  have hlt := lt_of_obj h
  clear h hR hb hrd hN hu
  go_enter Try.func35, Try.ntmps35
  go_wp2_with fail
  refine HN.mono ?_
  rintro en w1 ⟨rfl, ht, hh⟩
  clear HN
  go_wp2_with fail
  have hR1 : Reads w1 (.slice a l.length cap) l := HR.out.turn ht (by simpa using hnob)
  have hlt1 := lt_of_obj hh
  have hnob1 : NoB w1 bc := NoB.rdr hh
  refine (part_ok bc a cap l Q N _ hh hR1 hQ hs hlen (by omega)).mono ?_
  rintro en w2 ⟨a', c', rfl, hr2, ht2, hh2⟩
  have hr2' : Reads w2 (.slice a' (Q + N) c') (l.take (Q + N)) := hr2.turn ht2 (by simpa using hnob1)
  have hlen2 : (l.take (Q + N)).length = Q + N := by simp; omega
  have hlt2 := lt_of_obj hh2
  clear hR1 hr2
  go_wp2_with fail
  have hb3 : (w2.alloc (.cells #[.slice a' (Q + N) c', .int .i64 Q] 63)).heap[w2.heap.size]? = some (rdr (.slice a' (l.take (Q + N)).length c') Q) := by
    rw [hlen2]; exact heap_alloc_last _ _
  have hr3 : Reads (w2.alloc (.cells #[.slice a' (Q + N) c', .int .i64 Q] 63)) (.slice a' (l.take (Q + N)).length c') (l.take (Q + N)) := by
    rw [hlen2]; exact ((Grew.refl _).alloc _).reads hr2'
  refine (rest_any w2.heap.size a' c' (l.take (Q + N)) Q _ hb3 hr3 (by omega) (by omega)).mono ?_
  rintro en w3 ⟨a3, c3, rfl, hr4, nd, rfl⟩
  rw [hlen2, Nat.add_sub_cancel_left] at hr4
  have hstr := (hr4.drewN nd).str
  clear hr3 hr2'
  go_wp2_with fail
  refine (wf_any ((l.take (Q + N)).drop Q) _ ((HB.out.take _).drop _) (by simp; omega)).mono ?_
  rw [HU.out]
  rintro en w4 ⟨rfl, hg⟩
  have hc4 : w4.cell? ⟨w2.heap.size, 1, none⟩ = some (.int .i64 Q) := by
    have := (hg.turn []).other (b := w2.heap.size) (heap_drewN hb3 nd) (by simp)
    rw [cell_of this]; rfl
  have hT : Turn [bc] w w4 := ((ht.trans ht2).alloc _).drewN _ |>.trans' (hg.turn []) (by simp)
  have hH : w4.heap[bc]? = some (rdr (.slice a l.length cap) ((Q + N : Nat) : Int)) := by
    have e : ((Q + N : Nat) : Int) = (Q : Int) + N := by omega
    rw [e]
    exact (hg.turn []).other (heap_drewN (heap_alloc hh2 _) nd) (by simp)
  clear hb3 hr4 hstr
  cases g with
  | true =>
    go_wp2_with fail
    go_ret
    exact ⟨rfl, hT, hH⟩
  | false =>
    obtain ⟨i0, i1⟩ := hi rfl
    go_wp2_with fail
    refine (giveUp_any _ 21 _).mono ?_
    rintro en w5 ⟨rfl, rfl⟩
    go_wp2_with fail
    exact ⟨rfl, rfl, hT, hH⟩
end Go.Proofs.Ytclamdpbdafmcaa
