/-
  The walk of the reader's section; no statement is proved here.
-/
import Derived.Test.YtclamdpbdafmcaaPre
import Derived.Test.YtclamdpbdafmcaaName
namespace Go.Proofs.Ytclamdpbdafmcaa
open Go.RowKit
set_option linter.unusedVariables false

def zsec : Obj := .cells #[.int .i64 0, .string ⟨#[]⟩, .slice none 0 0, .int .i64 0] 45 (0, 0)
/- Where a section's reading stands: the reader's and the order's blocks, and the answer's. -/
structure SS (bc bo : Nat) (w wr : World) (v : Value) (p last : Int) : Prop where
  turn : Turn [bc, bo] w wr
  r : wr.heap[bc]? = some (rdr v p)
  o : wr.heap[bo]? = some (ord last)
  z : wr.heap[w.heap.size]? = some zsec
  ne : bc ≠ bo
  lc : bc < w.heap.size
  lo : bo < w.heap.size
theorem SS.grew {bc bo : Nat} {w wr w' : World} {v : Value} {p last : Int} (h : SS bc bo w wr v p last) (g : Grew wr w') : SS bc bo w w' v p last :=
  ⟨h.turn.trans' (g.turn []) (by simp), (g.turn []).other h.r (by simp), (g.turn []).other h.o (by simp), (g.turn []).other h.z (by simp), h.ne, h.lc, h.lo⟩
theorem SS.turn0 {bc bo : Nat} {w wr w' : World} {v : Value} {p last : Int} (h : SS bc bo w wr v p last) (g : Turn [] wr w') : SS bc bo w w' v p last :=
  ⟨h.turn.trans' g (by simp), g.other h.r (by simp), g.other h.o (by simp), g.other h.z (by simp), h.ne, h.lc, h.lo⟩
theorem SS.turnR {bc bo : Nat} {w wr w' : World} {v : Value} {p p' last : Int} (h : SS bc bo w wr v p last) (g : Turn [bc] wr w') (hr : w'.heap[bc]? = some (rdr v p')) : SS bc bo w w' v p' last :=
  ⟨h.turn.trans' g (by simp), hr, g.other h.o (by simpa using h.ne.symm), g.other h.z (by have := h.lc; simp; omega), h.ne, h.lc, h.lo⟩
theorem SS.turnO {bc bo : Nat} {w wr w' : World} {v : Value} {p last last' : Int} (h : SS bc bo w wr v p last) (g : Turn [bo] wr w') (ho : w'.heap[bo]? = some (ord last')) : SS bc bo w w' v p last' :=
  ⟨h.turn.trans' g (by simp), g.other h.r (by simpa using h.ne), ho, g.other h.z (by have := h.lo; simp; omega), h.ne, h.lc, h.lo⟩
/- Blocks that were not there may turn. -/
theorem SS.turnN {bc bo b : Nat} {w wr w' : World} {v : Value} {p last : Int} (h : SS bc bo w wr v p last) (g : Turn [b] wr w') (hb : w.heap.size < b) : SS bc bo w w' v p last :=
  ⟨h.turn.trans' g (by simp; omega), g.other h.r (by have := h.lc; simp; omega), g.other h.o (by have := h.lo; simp; omega), g.other h.z (by simp; omega), h.ne, h.lc, h.lo⟩
theorem SS.reads {bc bo : Nat} {w wr : World} {v : Value} {p last : Int} {u : Value} {l : List Int} (h : SS bc bo w wr v p last) (hr : Reads w u l) (h1 : NoB w bc) (h2 : NoB w bo) : Reads wr u l :=
  hr.turn h.turn (by simp; exact ⟨h1, h2⟩)

theorem takes_zero (bo : Nat) (last : Int) (w : World) (h : w.heap[bo]? = some (ord last)) :
    Calls Try.prog 61 #[.pointer (some ⟨bo, 0, none⟩), .int .i64 0] w fun en w' => en = .returned (.bool true) ∧ Turn [bo] w w' ∧ w'.heap[bo]? = some (ord last) := by
  refine (takes_free bo last w).mono ?_
  rintro en w' ⟨rfl, rfl⟩
  exact ⟨rfl, Turn.refl _ _, h⟩
theorem Has.gr {w w' : World} {v : Value} {l : List Int} (h : Has w.heap.size w w' v l) : Grew w w' := ⟨h.2.1, h.2.2⟩
theorem own_turn {base : Nat} {w w' : World} {v : Value} {l : List Int} {S : List Nat} (h : w.ownsRow base 5 1 v l.length (U8 l)) (ht : Turn S w w') (hv : ∀ k, v.ownBlock = some k → k ∉ S) : w'.ownsRow base 5 1 v l.length (U8 l) := by
  obtain ⟨hl, ho⟩ := h
  refine ⟨hl, ?_⟩
  rcases ho with ho | ⟨g, cap, cur, rfl, hg, hh, h3⟩
  · exact Or.inl ho
  · exact Or.inr ⟨g, cap, cur, rfl, hg, ht.other hh (hv g rfl), h3⟩


set_option maxRecDepth 100000 in
set_option maxHeartbeats 2000000 in
theorem section_id (bc bo : Nat) (a : Option Addr) (cap : Nat) (l : List Int) (A : Nat) (last : Int) (w : World) (h : w.heap[bc]? = some (rdr (.slice a l.length cap) A)) (ho : w.heap[bo]? = some (ord last)) (hne : bc ≠ bo) (hR : Reads w (.slice a l.length cap) l) (hb : Byt l) (hlen : l.length ≤ 140737488351232) (hA : A < l.length) (hrk : rank (l.getD A 0) = -1) :
    Calls Try.prog 59 #[.pointer (some ⟨bc, 0, none⟩), .pointer (some ⟨bo, 0, none⟩)] w fun en w' => en = .panicked (flt A 4) ∧ Turn [bc, bo] w w' := by
  have _ := hlen
  have S0 : SS bc bo w (w.alloc zsec) (.slice a l.length cap) A last := ⟨(Turn.refl _ _).alloc _, heap_alloc h _, heap_alloc ho _, heap_alloc_last _ _, hne, lt_of_obj h, lt_of_obj ho⟩
  have c0 := cell_of h 0
  have c1 := cell_of h 1
  simp at c0 c1
  obtain ⟨bb, off, rfl, cb⟩ := hR.at hA
  obtain ⟨x, hx⟩ : ∃ x, x = l.getD A 0 := ⟨_, rfl⟩
  have hx0 := hb A
  rw [← hx] at cb hx0 hrk
  have hlc := lt_of_obj h
  have hlb : bb < w.heap.size := block_lt_of_cell cb
  have cr := fun w => rank_any x w
  rw [hrk] at cr
  clear hx h ho hR hb hrk hne
  go_enter Try.func59, Try.ntmps59
  go_wp2_with fail
  refine (cr _).mono ?_
  rintro en w1 ⟨rfl, hg⟩
  clear cr
  go_wp2_with fail
  refine (giveUp_any _ 4 _).mono ?_
  rintro en w2 ⟨rfl, rfl⟩
  go_wp2_with fail
  exact ⟨rfl, rfl, (S0.grew hg).turn⟩
set_option maxRecDepth 100000 in
set_option maxHeartbeats 4000000 in
theorem section_rd (bc bo : Nat) (a : Option Addr) (cap : Nat) (l : List Int) (A : Nat) (last : Int) (w : World) (h : w.heap[bc]? = some (rdr (.slice a l.length cap) A)) (ho : w.heap[bo]? = some (ord last)) (hne : bc ≠ bo) (hR : Reads w (.slice a l.length cap) l) (hb : Byt l) (hlen : l.length ≤ 140737488351232) (hA : A < l.length) (hrk : 0 ≤ rank (l.getD A 0)) (n q e : Int) (hrd : rd 32 false l (A + 1 : Nat) l.length = (n, q, e)) (he : e ≠ 0) :
    Calls Try.prog 59 #[.pointer (some ⟨bc, 0, none⟩), .pointer (some ⟨bo, 0, none⟩)] w fun en w' => en = .panicked (flt q e) ∧ Turn [bc, bo] w w' := by
  have S0 : SS bc bo w (w.alloc zsec) (.slice a l.length cap) A last := ⟨(Turn.refl _ _).alloc _, heap_alloc h _, heap_alloc ho _, heap_alloc_last _ _, hne, lt_of_obj h, lt_of_obj ho⟩
  have n1 : NoB w bc := NoB.rdr h
  have n2 : NoB w bo := NoB.ord ho
  have N1 : Hid (NoB w bc) := n1
  have N2 : Hid (NoB w bo) := n2
  have c0 := cell_of h 0
  have c1 := cell_of h 1
  simp at c0 c1
  obtain ⟨bb, off, rfl, cb⟩ := hR.at hA
  have HR : Hid (Reads w (.slice (some ⟨bb, off, none⟩) l.length cap) l) := hR
  have HB : Hid (Byt l) := hb
  obtain ⟨x, hx⟩ : ∃ x, x = l.getD A 0 := ⟨_, rfl⟩
  have hx0 := hb A
  rw [← hx] at cb hx0 hrk
  have hlc := lt_of_obj h
  have hlb : bb < w.heap.size := block_lt_of_cell cb
  have cr := fun w => rank_any x w
  obtain ⟨rk, hk⟩ : ∃ r, r = rank x := ⟨_, rfl⟩
  rw [← hk] at cr hrk
  have HX : Hid (x = l.getD A 0) := hx
  have HK : Hid (rk = rank x) := hk
  have HRD : Hid (rd 32 false l (A + 1 : Nat) l.length = (n, q, e)) := hrd
  clear hx h ho hR hb hne n1 n2 hk hrd
  go_enter Try.func59, Try.ntmps59
  go_wp2_with fail
  refine (cr _).mono ?_
  rintro en w1 ⟨rfl, hg⟩
  clear cr
  have S1 := S0.grew hg
  clear c0 c1 cb hg S0
  have c0 := cell_of S1.r 0
  have c1 := cell_of S1.r 1
  have z1 := free_of S1.r 1
  simp at c0 c1
  go_wp2_with fail
  have S2 : SS bc bo w (w1.setCell ⟨bc, 1, none⟩ (.int .i64 ((A : Int) + 1))) (.slice (some ⟨bb, off, none⟩) l.length cap) ((A + 1 : Nat) : Int) last :=
    S1.turnR ((Turn.refl _ _).set (by simp) _) (by rw [show ((A + 1 : Nat) : Int) = (A : Int) + 1 from by omega, heap_set S1.r]; rfl)
  clear c0 c1 z1 S1
  refine (number_bad bc _ cap l _ n q e _ S2.r (S2.reads HR.out N1.out N2.out) HB.out hlen HRD.out he).mono ?_
  rintro en w3 ⟨rfl, t3⟩
  clear he
  go_wp2_with fail
  exact ⟨rfl, rfl, (S2.turn0 t3).turn⟩

set_option maxRecDepth 100000 in
set_option maxHeartbeats 4000000 in
theorem section_short (bc bo : Nat) (a : Option Addr) (cap : Nat) (l : List Int) (A : Nat) (last : Int) (w : World) (h : w.heap[bc]? = some (rdr (.slice a l.length cap) A)) (ho : w.heap[bo]? = some (ord last)) (hne : bc ≠ bo) (hR : Reads w (.slice a l.length cap) l) (hb : Byt l) (hlen : l.length ≤ 140737488351232) (hA : A < l.length) (hrk : 0 ≤ rank (l.getD A 0)) (n : Int) (N Q : Nat) (hrd : rd 32 false l (A + 1 : Nat) l.length = (n, (Q : Int), 0)) (hN : n % 4294967296 = N) (hN32 : N ≤ 4294967295) (hQ : Q ≤ l.length) (hs : ¬ Q + N ≤ l.length) :
    Calls Try.prog 59 #[.pointer (some ⟨bc, 0, none⟩), .pointer (some ⟨bo, 0, none⟩)] w fun en w' => en = .panicked (flt l.length 3) ∧ Turn [bc, bo] w w' := by
  have S0 : SS bc bo w (w.alloc zsec) (.slice a l.length cap) A last := ⟨(Turn.refl _ _).alloc _, heap_alloc h _, heap_alloc ho _, heap_alloc_last _ _, hne, lt_of_obj h, lt_of_obj ho⟩
  have n1 : NoB w bc := NoB.rdr h
  have n2 : NoB w bo := NoB.ord ho
  have N1 : Hid (NoB w bc) := n1
  have N2 : Hid (NoB w bo) := n2
  have c0 := cell_of h 0
  have c1 := cell_of h 1
  simp at c0 c1
  obtain ⟨bb, off, rfl, cb⟩ := hR.at hA
  have HR : Hid (Reads w (.slice (some ⟨bb, off, none⟩) l.length cap) l) := hR
  have HB : Hid (Byt l) := hb
  obtain ⟨x, hx⟩ : ∃ x, x = l.getD A 0 := ⟨_, rfl⟩
  have hx0 := hb A
  rw [← hx] at cb hx0 hrk
  have hlc := lt_of_obj h
  have hlb : bb < w.heap.size := block_lt_of_cell cb
  have cr := fun w => rank_any x w
  obtain ⟨rk, hk⟩ : ∃ r, r = rank x := ⟨_, rfl⟩
  rw [← hk] at cr hrk
  have HX : Hid (x = l.getD A 0) := hx
  have HK : Hid (rk = rank x) := hk
  have HRD : Hid (rd 32 false l (A + 1 : Nat) l.length = (n, (Q : Int), 0)) := hrd
  clear hx h ho hR hb hne n1 n2 hk hrd
  go_enter Try.func59, Try.ntmps59
  go_wp2_with fail
  refine (cr _).mono ?_
  rintro en w1 ⟨rfl, hg⟩
  clear cr
  have S1 := S0.grew hg
  clear c0 c1 cb hg S0
  have c0 := cell_of S1.r 0
  have c1 := cell_of S1.r 1
  have z1 := free_of S1.r 1
  simp at c0 c1
  go_wp2_with fail
  have S2 : SS bc bo w (w1.setCell ⟨bc, 1, none⟩ (.int .i64 ((A : Int) + 1))) (.slice (some ⟨bb, off, none⟩) l.length cap) ((A + 1 : Nat) : Int) last :=
    S1.turnR ((Turn.refl _ _).set (by simp) _) (by rw [show ((A + 1 : Nat) : Int) = (A : Int) + 1 from by omega, heap_set S1.r]; rfl)
  clear c0 c1 z1 S1
  have cn := number_ok bc _ cap l _ n Q _ S2.r (S2.reads HR.out N1.out N2.out) HB.out hlen HRD.out
  rw [hN] at cn
  refine cn.mono ?_
  rintro en w3 ⟨rfl, t3, h3⟩
  have S3 := S2.turnR t3 h3
  clear cn t3 h3 S2 hN
  go_wp2_with fail
  refine (part_bad bc _ cap l Q N _ S3.r hQ hs hlen hN32).mono ?_
  rintro en w4 ⟨rfl, t4⟩
  go_wp2_with fail
  exact ⟨rfl, rfl, (S3.turn0 t4).turn⟩

set_option maxRecDepth 100000 in
set_option maxHeartbeats 4000000 in
theorem section_order (bc bo : Nat) (a : Option Addr) (cap : Nat) (l : List Int) (A : Nat) (last : Int) (w : World) (h : w.heap[bc]? = some (rdr (.slice a l.length cap) A)) (ho : w.heap[bo]? = some (ord last)) (hne : bc ≠ bo) (hR : Reads w (.slice a l.length cap) l) (hb : Byt l) (hlen : l.length ≤ 140737488351232) (hA : A < l.length) (hrk : 0 ≤ rank (l.getD A 0)) (n : Int) (N Q : Nat) (hrd : rd 32 false l (A + 1 : Nat) l.length = (n, (Q : Int), 0)) (hN : n % 4294967296 = N) (hN32 : N ≤ 4294967295) (hQ : Q ≤ l.length) (hs : Q + N ≤ l.length) (h0 : rank (l.getD A 0) ≠ 0) (hl : rank (l.getD A 0) ≤ last) :
    Calls Try.prog 59 #[.pointer (some ⟨bc, 0, none⟩), .pointer (some ⟨bo, 0, none⟩)] w fun en w' => en = .panicked (flt A 20) ∧ Turn [bc, bo] w w' := by
  have S0 : SS bc bo w (w.alloc zsec) (.slice a l.length cap) A last := ⟨(Turn.refl _ _).alloc _, heap_alloc h _, heap_alloc ho _, heap_alloc_last _ _, hne, lt_of_obj h, lt_of_obj ho⟩
  have n1 : NoB w bc := NoB.rdr h
  have n2 : NoB w bo := NoB.ord ho
  have N1 : Hid (NoB w bc) := n1
  have N2 : Hid (NoB w bo) := n2
  have c0 := cell_of h 0
  have c1 := cell_of h 1
  simp at c0 c1
  obtain ⟨bb, off, rfl, cb⟩ := hR.at hA
  have HR : Hid (Reads w (.slice (some ⟨bb, off, none⟩) l.length cap) l) := hR
  have HB : Hid (Byt l) := hb
  obtain ⟨x, hx⟩ : ∃ x, x = l.getD A 0 := ⟨_, rfl⟩
  have hx0 := hb A
  rw [← hx] at cb hx0 hrk
  have hlc := lt_of_obj h
  have hlb : bb < w.heap.size := block_lt_of_cell cb
  have cr := fun w => rank_any x w
  obtain ⟨rk, hk⟩ : ∃ r, r = rank x := ⟨_, rfl⟩
  rw [← hk] at cr hrk
  have HX : Hid (x = l.getD A 0) := hx
  have HK : Hid (rk = rank x) := hk
  have HRD : Hid (rd 32 false l (A + 1 : Nat) l.length = (n, (Q : Int), 0)) := hrd
  rw [← hx, ← hk] at h0 hl
  clear hx h ho hR hb hne n1 n2 hk hrd
  go_enter Try.func59, Try.ntmps59
  go_wp2_with fail
  refine (cr _).mono ?_
  rintro en w1 ⟨rfl, hg⟩
  clear cr
  have S1 := S0.grew hg
  clear c0 c1 cb hg S0
  have c0 := cell_of S1.r 0
  have c1 := cell_of S1.r 1
  have z1 := free_of S1.r 1
  simp at c0 c1
  go_wp2_with fail
  have S2 : SS bc bo w (w1.setCell ⟨bc, 1, none⟩ (.int .i64 ((A : Int) + 1))) (.slice (some ⟨bb, off, none⟩) l.length cap) ((A + 1 : Nat) : Int) last :=
    S1.turnR ((Turn.refl _ _).set (by simp) _) (by rw [show ((A + 1 : Nat) : Int) = (A : Int) + 1 from by omega, heap_set S1.r]; rfl)
  clear c0 c1 z1 S1
  have cn := number_ok bc _ cap l _ n Q _ S2.r (S2.reads HR.out N1.out N2.out) HB.out hlen HRD.out
  rw [hN] at cn
  refine cn.mono ?_
  rintro en w3 ⟨rfl, t3, h3⟩
  have S3 := S2.turnR t3 h3
  clear cn t3 h3 S2 hN
  go_wp2_with fail
  have n3 : NoB w3 bc := NoB.rdr S3.r
  refine (part_ok bc _ cap l Q N _ S3.r (S3.reads HR.out N1.out N2.out) hQ hs hlen hN32).mono ?_
  rintro en w4 ⟨a', c', rfl, hr4, t4, h4⟩
  have S4 := S3.turnR t4 h4
  have HR4 : Hid (Reads w4 (.slice a' (Q + N) c') (l.take (Q + N))) := hr4.turn t4 (by simpa using n3)
  have hl2 : (l.take (Q + N)).length = Q + N := by simp; omega
  have hs4 := S4.turn.size
  clear hr4 t4 h4 S3 n3
  go_wp2_with fail
  have S5 : SS bc bo w (w4.alloc (rdr (.slice a' (Q + N) c') Q)) _ _ _ := S4.grew ((Grew.refl _).alloc _)
  have P5 : (w4.alloc (rdr (.slice a' (Q + N) c') Q)).heap[w4.heap.size]? = some (rdr (.slice a' (Q + N) c') Q) := heap_alloc_last _ _
  have HR5 : Hid (Reads (w4.alloc (rdr (.slice a' (Q + N) c') Q)) (.slice a' (Q + N) c') (l.take (Q + N))) := ((Grew.refl _).alloc _).reads HR4.out
  have hlo := S4.lo
  refine (takes_no bo last rk _ S5.o h0 hl).mono ?_
  rintro en w6 ⟨rfl, rfl⟩
  clear h0 hl
  go_wp2_with fail
  refine (giveUp_any _ 20 _).mono ?_
  rintro en w7 ⟨rfl, rfl⟩
  go_wp2_with fail
  exact ⟨rfl, rfl, S5.turn⟩

set_option maxRecDepth 100000 in
set_option maxHeartbeats 4000000 in
theorem section_plain (bc bo : Nat) (a : Option Addr) (cap : Nat) (l : List Int) (A : Nat) (last : Int) (w : World) (h : w.heap[bc]? = some (rdr (.slice a l.length cap) A)) (ho : w.heap[bo]? = some (ord last)) (hne : bc ≠ bo) (hR : Reads w (.slice a l.length cap) l) (hb : Byt l) (hlen : l.length ≤ 140737488351232) (hA : A < l.length) (hrk : 0 ≤ rank (l.getD A 0)) (n : Int) (N Q : Nat) (hrd : rd 32 false l (A + 1 : Nat) l.length = (n, (Q : Int), 0)) (hN : n % 4294967296 = N) (hN32 : N ≤ 4294967295) (hQ : Q ≤ l.length) (hs : Q + N ≤ l.length) (h0 : rank (l.getD A 0) ≠ 0) (hl : ¬ rank (l.getD A 0) ≤ last) (hi : l.getD A 0 ≠ 0) :
    Calls Try.prog 59 #[.pointer (some ⟨bc, 0, none⟩), .pointer (some ⟨bo, 0, none⟩)] w fun en w' => ∃ vd, en = .returned (secV (l.getD A 0) ⟨#[]⟩ vd Q) ∧ w'.ownsRow w.heap.size 5 1 vd ((l.take (Q + N)).drop Q).length (U8 ((l.take (Q + N)).drop Q)) ∧ Turn [bc, bo] w w' ∧ w'.heap[bc]? = some (rdr (.slice a l.length cap) ((Q + N : Nat) : Int)) ∧ w'.heap[bo]? = some (ord (rank (l.getD A 0))) := by
  have S0 : SS bc bo w (w.alloc zsec) (.slice a l.length cap) A last := ⟨(Turn.refl _ _).alloc _, heap_alloc h _, heap_alloc ho _, heap_alloc_last _ _, hne, lt_of_obj h, lt_of_obj ho⟩
  have n1 : NoB w bc := NoB.rdr h
  have n2 : NoB w bo := NoB.ord ho
  have N1 : Hid (NoB w bc) := n1
  have N2 : Hid (NoB w bo) := n2
  have c0 := cell_of h 0
  have c1 := cell_of h 1
  simp at c0 c1
  obtain ⟨bb, off, rfl, cb⟩ := hR.at hA
  have HR : Hid (Reads w (.slice (some ⟨bb, off, none⟩) l.length cap) l) := hR
  have HB : Hid (Byt l) := hb
  obtain ⟨x, hx⟩ : ∃ x, x = l.getD A 0 := ⟨_, rfl⟩
  have hx0 := hb A
  rw [← hx] at cb hx0 hrk
  have hlc := lt_of_obj h
  have hlb : bb < w.heap.size := block_lt_of_cell cb
  have cr := fun w => rank_any x w
  obtain ⟨rk, hk⟩ : ∃ r, r = rank x := ⟨_, rfl⟩
  rw [← hk] at cr hrk
  have HX : Hid (x = l.getD A 0) := hx
  have HK : Hid (rk = rank x) := hk
  have HRD : Hid (rd 32 false l (A + 1 : Nat) l.length = (n, (Q : Int), 0)) := hrd
  rw [← hx, ← hk] at h0 hl
  rw [← hx] at hi
  rw [← hx, ← hk]
  have hi' : (x == 0) = false := beq_eq_false_iff_ne.2 hi
  have hQL : Q ≤ Q + N := by omega
  clear hx h ho hR hb hne n1 n2 hk hrd
  go_enter Try.func59, Try.ntmps59
  go_wp2_with fail
  refine (cr _).mono ?_
  rintro en w1 ⟨rfl, hg⟩
  clear cr
  have S1 := S0.grew hg
  clear c0 c1 cb hg S0
  have c0 := cell_of S1.r 0
  have c1 := cell_of S1.r 1
  have z1 := free_of S1.r 1
  simp at c0 c1
  go_wp2_with fail
  have S2 : SS bc bo w (w1.setCell ⟨bc, 1, none⟩ (.int .i64 ((A : Int) + 1))) (.slice (some ⟨bb, off, none⟩) l.length cap) ((A + 1 : Nat) : Int) last :=
    S1.turnR ((Turn.refl _ _).set (by simp) _) (by rw [show ((A + 1 : Nat) : Int) = (A : Int) + 1 from by omega, heap_set S1.r]; rfl)
  clear c0 c1 z1 S1
  have cn := number_ok bc _ cap l _ n Q _ S2.r (S2.reads HR.out N1.out N2.out) HB.out hlen HRD.out
  rw [hN] at cn
  refine cn.mono ?_
  rintro en w3 ⟨rfl, t3, h3⟩
  have S3 := S2.turnR t3 h3
  clear cn t3 h3 S2 hN
  go_wp2_with fail
  have n3 : NoB w3 bc := NoB.rdr S3.r
  refine (part_ok bc _ cap l Q N _ S3.r (S3.reads HR.out N1.out N2.out) hQ hs hlen hN32).mono ?_
  rintro en w4 ⟨a', c', rfl, hr4, t4, h4⟩
  have S4 := S3.turnR t4 h4
  have HR4 : Hid (Reads w4 (.slice a' (Q + N) c') (l.take (Q + N))) := hr4.turn t4 (by simpa using n3)
  have hl2 : (l.take (Q + N)).length = Q + N := by simp; omega
  have hs4 := S4.turn.size
  clear hr4 t4 h4 S3 n3
  go_wp2_with fail
  have S5 : SS bc bo w (w4.alloc (rdr (.slice a' (Q + N) c') Q)) _ _ _ := S4.grew ((Grew.refl _).alloc _)
  have P5 : (w4.alloc (rdr (.slice a' (Q + N) c') Q)).heap[w4.heap.size]? = some (rdr (.slice a' (Q + N) c') Q) := heap_alloc_last _ _
  have HR5 : Hid (Reads (w4.alloc (rdr (.slice a' (Q + N) c') Q)) (.slice a' (Q + N) c') (l.take (Q + N))) := ((Grew.refl _).alloc _).reads HR4.out
  have hlo := S4.lo
  refine (takes_yes bo last rk _ S5.o h0 (by omega)).mono ?_
  rintro en w6 ⟨rfl, t6, o6⟩
  have S6 := S5.turnO t6 o6
  have P6 := t6.other P5 (by simp; omega)
  have HR6 : Hid (Reads w6 (.slice a' (Q + N) c') (l.take (Q + N))) := HR5.out.turn t6 (by have := NoB.ord S5.o; simpa using this)
  have l6 := lt_of_obj P6
  have p1 := cell_of P6 1
  simp at p1
  clear h0 hl hi t6 o6 P5 S4 S5
  go_wp2_with fail
  refine (rest_any w4.heap.size a' c' (l.take (Q + N)) Q _ (by rw [hl2]; exact heap_alloc P6 _) (by rw [hl2]; exact ((Grew.refl _).alloc _).reads HR6.out) (by omega) (by omega)).mono ?_
  rintro en w8 ⟨a3, c3, rfl, hr3, nd, rfl⟩
  rw [hl2, Nat.add_sub_cancel_left] at hr3
  go_wp2_with fail
  have T8 : Turn [w6.heap.size] ((w6.alloc (.cells #[.int .i64 x, .string ⟨#[]⟩, .slice none 0 0, .int .i64 Q] 45)).drewN nd) (((w6.alloc (.cells #[.int .i64 x, .string ⟨#[]⟩, .slice none 0 0, .int .i64 Q] 45)).drewN nd).setCell ⟨w6.heap.size, 2, none⟩ (.slice a3 N c3)) := (Turn.refl _ _).set (by simp) _
  have T8' : Turn [] w6 (((w6.alloc (.cells #[.int .i64 x, .string ⟨#[]⟩, .slice none 0 0, .int .i64 Q] 45)).drewN nd).setCell ⟨w6.heap.size, 2, none⟩ (.slice a3 N c3)) := (((Turn.refl _ _).alloc _).drewN _).set (by simp) _
  have n8 : NoB ((w6.alloc (.cells #[.int .i64 x, .string ⟨#[]⟩, .slice none 0 0, .int .i64 Q] 45)).drewN nd) w6.heap.size := by
    intro j m
    rw [cell_of (heap_drewN (heap_alloc_last w6 _) nd)]
    rcases j with _ | _ | _ | _ | j <;> simp
  have hr8 := (hr3.drewN nd).turn T8 (by simpa using n8)
  refine (copied_any x ⟨#[]⟩ _ ((l.take (Q + N)).drop Q) Q _ hr8 (by simp; omega)).mono ?_
  rintro en w9 ⟨vd, rfl, hh9⟩
  have S9 := (S6.turn0 T8').grew hh9.gr
  have hsz6 := S6.turn.size
  have hblk : ∀ k, vd.ownBlock = some k → k ∉ [w.heap.size] := by
    intro k hk hm
    have h1 := hh9.1.lt k hk
    have h2 := T8'.size
    have h3 := lt_of_obj S6.z
    simp at hm
    omega
  have hown : w9.ownsRow w.heap.size 5 1 vd ((l.take (Q + N)).drop Q).length (U8 ((l.take (Q + N)).drop Q)) := hh9.1.mono (Nat.le_trans hsz6 T8'.size)
  have HV : Hid (Reads w9 vd ((l.take (Q + N)).drop Q)) := hh9.reads
  have hld : ((l.take (Q + N)).drop Q).length = N := by simp; omega
  obtain ⟨ad, cd, hvd⟩ := hh9.reads.len
  rw [hld] at hvd
  subst hvd
  clear hh9 T8 T8' n8 hr8 hr3 p1 P6 S6
  have f0 := cell_of S9.z 0
  have f1 := cell_of S9.z 1
  have f2 := cell_of S9.z 2
  have f3 := cell_of S9.z 3
  have y0 := free_of S9.z 0
  have y1 := free_of S9.z 1
  have y2 := free_of S9.z 2
  have y3 := free_of S9.z 3
  simp at f0 f1 f2 f3
  unfold secV
  go_wp2_with fail
  refine bodyPost_ret (v := .agg #[.int .i64 x, .string ⟨#[]⟩, .slice ad N cd, .int .i64 Q]) (by simp [results, Try.results59, go_sem, f0, f1, f2, f3]) rfl ⟨_, rfl, ?_, ?_, ?_, ?_⟩
  · refine own_turn (S := [w.heap.size]) hown ?_ hblk
    have T := Turn.refl [w.heap.size] w9
    repeat (first | exact T | refine Turn.set ?_ (by simp) _)
  · have T := S9.turn
    repeat (first | exact T | refine Turn.set ?_ (by simp) _)
  · have T := S9.r
    rw [show ((Q + N : Nat) : Int) = (Q : Int) + N from by omega]
    repeat (first | exact T | refine heap_other ?_ (by simp; omega) _)
  · have T := S9.o
    repeat (first | exact T | refine heap_other ?_ (by simp; omega) _)

set_option maxRecDepth 100000 in
set_option maxHeartbeats 4000000 in
theorem section_name (bc bo : Nat) (a : Option Addr) (cap : Nat) (l : List Int) (A : Nat) (last : Int) (w : World) (h : w.heap[bc]? = some (rdr (.slice a l.length cap) A)) (ho : w.heap[bo]? = some (ord last)) (hne : bc ≠ bo) (hR : Reads w (.slice a l.length cap) l) (hb : Byt l) (hlen : l.length ≤ 140737488351232) (hA : A < l.length) (hrk : 0 ≤ rank (l.getD A 0)) (n : Int) (N Q : Nat) (hrd : rd 32 false l (A + 1 : Nat) l.length = (n, (Q : Int), 0)) (hN : n % 4294967296 = N) (hN32 : N ≤ 4294967295) (hQ : Q ≤ l.length) (hs : Q + N ≤ l.length) (hi : l.getD A 0 = 0) (s : List Int) (p e : Int) (hn : nm (l.take (Q + N)) Q = (s, p, e)) (he : e ≠ 0) :
    Calls Try.prog 59 #[.pointer (some ⟨bc, 0, none⟩), .pointer (some ⟨bo, 0, none⟩)] w fun en w' => en = .panicked (flt p e) ∧ Turn [bc, bo] w w' := by
  have S0 : SS bc bo w (w.alloc zsec) (.slice a l.length cap) A last := ⟨(Turn.refl _ _).alloc _, heap_alloc h _, heap_alloc ho _, heap_alloc_last _ _, hne, lt_of_obj h, lt_of_obj ho⟩
  have n1 : NoB w bc := NoB.rdr h
  have n2 : NoB w bo := NoB.ord ho
  have N1 : Hid (NoB w bc) := n1
  have N2 : Hid (NoB w bo) := n2
  have c0 := cell_of h 0
  have c1 := cell_of h 1
  simp at c0 c1
  obtain ⟨bb, off, rfl, cb⟩ := hR.at hA
  have HR : Hid (Reads w (.slice (some ⟨bb, off, none⟩) l.length cap) l) := hR
  have HB : Hid (Byt l) := hb
  obtain ⟨x, hx⟩ : ∃ x, x = l.getD A 0 := ⟨_, rfl⟩
  have hx0 := hb A
  rw [← hx] at cb hx0 hrk
  have hlc := lt_of_obj h
  have hlb : bb < w.heap.size := block_lt_of_cell cb
  have cr := fun w => rank_any x w
  obtain ⟨rk, hk⟩ : ∃ r, r = rank x := ⟨_, rfl⟩
  rw [← hk] at cr hrk
  have HX : Hid (x = l.getD A 0) := hx
  have HK : Hid (rk = rank x) := hk
  have HRD : Hid (rd 32 false l (A + 1 : Nat) l.length = (n, (Q : Int), 0)) := hrd
  rw [← hx] at hi
  subst hi
  have ek : rk = 0 := hk
  subst ek
  have HNM : Hid (nm (l.take (Q + N)) Q = (s, p, e)) := hn
  clear hn
  clear hx h ho hR hb hne n1 n2 hk hrd
  go_enter Try.func59, Try.ntmps59
  go_wp2_with fail
  refine (cr _).mono ?_
  rintro en w1 ⟨rfl, hg⟩
  clear cr
  have S1 := S0.grew hg
  clear c0 c1 cb hg S0
  have c0 := cell_of S1.r 0
  have c1 := cell_of S1.r 1
  have z1 := free_of S1.r 1
  simp at c0 c1
  go_wp2_with fail
  have S2 : SS bc bo w (w1.setCell ⟨bc, 1, none⟩ (.int .i64 ((A : Int) + 1))) (.slice (some ⟨bb, off, none⟩) l.length cap) ((A + 1 : Nat) : Int) last :=
    S1.turnR ((Turn.refl _ _).set (by simp) _) (by rw [show ((A + 1 : Nat) : Int) = (A : Int) + 1 from by omega, heap_set S1.r]; rfl)
  clear c0 c1 z1 S1
  have cn := number_ok bc _ cap l _ n Q _ S2.r (S2.reads HR.out N1.out N2.out) HB.out hlen HRD.out
  rw [hN] at cn
  refine cn.mono ?_
  rintro en w3 ⟨rfl, t3, h3⟩
  have S3 := S2.turnR t3 h3
  clear cn t3 h3 S2 hN
  go_wp2_with fail
  have n3 : NoB w3 bc := NoB.rdr S3.r
  refine (part_ok bc _ cap l Q N _ S3.r (S3.reads HR.out N1.out N2.out) hQ hs hlen hN32).mono ?_
  rintro en w4 ⟨a', c', rfl, hr4, t4, h4⟩
  have S4 := S3.turnR t4 h4
  have HR4 : Hid (Reads w4 (.slice a' (Q + N) c') (l.take (Q + N))) := hr4.turn t4 (by simpa using n3)
  have hl2 : (l.take (Q + N)).length = Q + N := by simp; omega
  have hs4 := S4.turn.size
  clear hr4 t4 h4 S3 n3
  go_wp2_with fail
  have S5 : SS bc bo w (w4.alloc (rdr (.slice a' (Q + N) c') Q)) _ _ _ := S4.grew ((Grew.refl _).alloc _)
  have P5 : (w4.alloc (rdr (.slice a' (Q + N) c') Q)).heap[w4.heap.size]? = some (rdr (.slice a' (Q + N) c') Q) := heap_alloc_last _ _
  have HR5 : Hid (Reads (w4.alloc (rdr (.slice a' (Q + N) c') Q)) (.slice a' (Q + N) c') (l.take (Q + N))) := ((Grew.refl _).alloc _).reads HR4.out
  have hlo := S4.lo
  refine (takes_zero bo last _ S5.o).mono ?_
  rintro en w6 ⟨rfl, t6, o6⟩
  have S6 := S5.turnO t6 o6
  have P6 := t6.other P5 (by simp; omega)
  have HR6 : Hid (Reads w6 (.slice a' (Q + N) c') (l.take (Q + N))) := HR5.out.turn t6 (by have := NoB.ord S5.o; simpa using this)
  have l6 := lt_of_obj P6
  have lz4 := lt_of_obj S4.z
  clear t6 o6 P5 S4 S5
  go_wp2_with fail
  have P7 : (w6.alloc (.cells #[.int .i64 0, .string ⟨#[]⟩, .slice none 0 0, .int .i64 0] 45)).heap[w4.heap.size]? = some (rdr (.slice a' (l.take (Q + N)).length c') Q) := by rw [hl2]; exact heap_alloc P6 _
  have R7 : Reads (w6.alloc (.cells #[.int .i64 0, .string ⟨#[]⟩, .slice none 0 0, .int .i64 0] 45)) (.slice a' (l.take (Q + N)).length c') (l.take (Q + N)) := by rw [hl2]; exact ((Grew.refl _).alloc _).reads HR6.out
  refine (name_bad w4.heap.size a' c' (l.take (Q + N)) Q _ P7 R7 (HB.out.take _) (by omega) s p e HNM.out he).mono ?_
  rintro en w8 ⟨rfl, t8⟩
  clear he P7 R7
  go_wp2_with fail
  exact ⟨rfl, rfl, ((S6.grew ((Grew.refl _).alloc _)).turnN t8 (by omega)).turn⟩

end Go.Proofs.Ytclamdpbdafmcaa
