/-
  The walk of the reader's section, at a custom one; no statement is proved here.
-/
import Derived.Test.YtclamdpbdafmcaaSecW
namespace Go.Proofs.Ytclamdpbdafmcaa
open Go.RowKit
set_option linter.unusedVariables false


set_option maxRecDepth 100000 in
set_option maxHeartbeats 4000000 in
theorem section_custom (bc bo : Nat) (a : Option Addr) (cap : Nat) (l : List Int) (A : Nat) (last : Int) (w : World) (h : w.heap[bc]? = some (rdr (.slice a l.length cap) A)) (ho : w.heap[bo]? = some (ord last)) (hne : bc ≠ bo) (hR : Reads w (.slice a l.length cap) l) (hb : Byt l) (hlen : l.length ≤ 140737488351232) (hA : A < l.length) (hrk : 0 ≤ rank (l.getD A 0)) (n : Int) (N Q : Nat) (hrd : rd 32 false l (A + 1 : Nat) l.length = (n, (Q : Int), 0)) (hN : n % 4294967296 = N) (hN32 : N ≤ 4294967295) (hQ : Q ≤ l.length) (hs : Q + N ≤ l.length) (hi : l.getD A 0 = 0) (s : List Int) (P : Nat) (hn : nm (l.take (Q + N)) Q = (s, (P : Int), 0)) (hP : P ≤ Q + N) :
    Calls Try.prog 59 #[.pointer (some ⟨bc, 0, none⟩), .pointer (some ⟨bo, 0, none⟩)] w fun en w' => ∃ vd, en = .returned (secV 0 (strOfNums s) vd P) ∧ w'.ownsRow w.heap.size 5 1 vd ((l.take (Q + N)).drop P).length (U8 ((l.take (Q + N)).drop P)) ∧ Turn [bc, bo] w w' ∧ w'.heap[bc]? = some (rdr (.slice a l.length cap) ((Q + N : Nat) : Int)) ∧ w'.heap[bo]? = some (ord last) := by
  have S0 : SS bc bo w (w.alloc zsec) (.slice a l.length cap) A last := ⟨(Turn.refl _ _).alloc _, heap_alloc h _, heap_alloc ho _, heap_alloc_last _ _, hne, lt_of_obj h, lt_of_obj ho⟩
  have n1 : NoB w bc := NoB.rdr h
  have n2 : NoB w bo := NoB.ord ho
  have N1 : Hid (NoB w bc) := n1
  have N2 : Hid (NoB w bo) := n2
  have c0 := cell_of h 0
  have c1 := cell_of h 1
  simp at c0 c1
  obtain ⟨bb, off, rfl, cb⟩ := hR.at hA
  have HR : Hid (Reads w (.slice (some ⟨bb, off, none⟩) l.length cap) l) := hR
  have HB : Hid (Byt l) := hb
  obtain ⟨x, hx⟩ : ∃ x, x = l.getD A 0 := ⟨_, rfl⟩
  have hx0 := hb A
  rw [← hx] at cb hx0 hrk
  have hlc := lt_of_obj h
  have hlb : bb < w.heap.size := block_lt_of_cell cb
  have cr := fun w => rank_any x w
  obtain ⟨rk, hk⟩ : ∃ r, r = rank x := ⟨_, rfl⟩
  rw [← hk] at cr hrk
  have HX : Hid (x = l.getD A 0) := hx
  have HK : Hid (rk = rank x) := hk
  have HRD : Hid (rd 32 false l (A + 1 : Nat) l.length = (n, (Q : Int), 0)) := hrd
  rw [← hx] at hi
  subst hi
  have ek : rk = 0 := hk
  subst ek
  obtain ⟨st, hst⟩ : ∃ st, st = strOfNums s := ⟨_, rfl⟩
  rw [← hst]
  have HST : Hid (st = strOfNums s) := hst
  clear hst
  have HNM : Hid (nm (l.take (Q + N)) Q = (s, (P : Int), 0)) := hn
  clear hn
  clear hx h ho hR hb hne n1 n2 hk hrd
  go_enter Try.func59, Try.ntmps59
  go_wp2_with fail
  refine (cr _).mono ?_
  rintro en w1 ⟨rfl, hg⟩
  clear cr
  have S1 := S0.grew hg
  clear c0 c1 cb hg S0
  have c0 := cell_of S1.r 0
  have c1 := cell_of S1.r 1
  have z1 := free_of S1.r 1
  simp at c0 c1
  go_wp2_with fail
  have S2 : SS bc bo w (w1.setCell ⟨bc, 1, none⟩ (.int .i64 ((A : Int) + 1))) (.slice (some ⟨bb, off, none⟩) l.length cap) ((A + 1 : Nat) : Int) last :=
    S1.turnR ((Turn.refl _ _).set (by simp) _) (by rw [show ((A + 1 : Nat) : Int) = (A : Int) + 1 from by omega, heap_set S1.r]; rfl)
  clear c0 c1 z1 S1
  have cn := number_ok bc _ cap l _ n Q _ S2.r (S2.reads HR.out N1.out N2.out) HB.out hlen HRD.out
  rw [hN] at cn
  refine cn.mono ?_
  rintro en w3 ⟨rfl, t3, h3⟩
  have S3 := S2.turnR t3 h3
  clear cn t3 h3 S2 hN
  go_wp2_with fail
  have n3 : NoB w3 bc := NoB.rdr S3.r
  refine (part_ok bc _ cap l Q N _ S3.r (S3.reads HR.out N1.out N2.out) hQ hs hlen hN32).mono ?_
  rintro en w4 ⟨a', c', rfl, hr4, t4, h4⟩
  have S4 := S3.turnR t4 h4
  have HR4 : Hid (Reads w4 (.slice a' (Q + N) c') (l.take (Q + N))) := hr4.turn t4 (by simpa using n3)
  have hl2 : (l.take (Q + N)).length = Q + N := by simp; omega
  have hs4 := S4.turn.size
  clear hr4 t4 h4 S3 n3
  go_wp2_with fail
  have S5 : SS bc bo w (w4.alloc (rdr (.slice a' (Q + N) c') Q)) _ _ _ := S4.grew ((Grew.refl _).alloc _)
  have P5 : (w4.alloc (rdr (.slice a' (Q + N) c') Q)).heap[w4.heap.size]? = some (rdr (.slice a' (Q + N) c') Q) := heap_alloc_last _ _
  have HR5 : Hid (Reads (w4.alloc (rdr (.slice a' (Q + N) c') Q)) (.slice a' (Q + N) c') (l.take (Q + N))) := ((Grew.refl _).alloc _).reads HR4.out
  have hlo := S4.lo
  refine (takes_zero bo last _ S5.o).mono ?_
  rintro en w6 ⟨rfl, t6, o6⟩
  have S6 := S5.turnO t6 o6
  have P6 := t6.other P5 (by simp; omega)
  have HR6 : Hid (Reads w6 (.slice a' (Q + N) c') (l.take (Q + N))) := HR5.out.turn t6 (by have := NoB.ord S5.o; simpa using this)
  have l6 := lt_of_obj P6
  have lz4 := lt_of_obj S4.z
  clear t6 o6 P5 S4 S5
  go_wp2_with fail
  have P7 : (w6.alloc (.cells #[.int .i64 0, .string ⟨#[]⟩, .slice none 0 0, .int .i64 0] 45)).heap[w4.heap.size]? = some (rdr (.slice a' (l.take (Q + N)).length c') Q) := by rw [hl2]; exact heap_alloc P6 _
  have R7 : Reads (w6.alloc (.cells #[.int .i64 0, .string ⟨#[]⟩, .slice none 0 0, .int .i64 0] 45)) (.slice a' (l.take (Q + N)).length c') (l.take (Q + N)) := by rw [hl2]; exact ((Grew.refl _).alloc _).reads HR6.out
  have cnm := name_ok w4.heap.size a' c' (l.take (Q + N)) Q _ P7 R7 (HB.out.take _) (by omega) s P HNM.out
  rw [← HST.out] at cnm
  refine cnm.mono ?_
  rintro en w8 ⟨rfl, t8, P8⟩
  have S8 := (S6.grew ((Grew.refl _).alloc _)).turnN t8 (by omega)
  have hlz : w.heap.size < w6.heap.size := lt_of_obj S6.z
  have hq6 := S6.turn.size
  have B8 := t8.other (heap_alloc_last w6 (.cells #[.int .i64 0, .string ⟨#[]⟩, .slice none 0 0, .int .i64 0] 45)) (by simp; omega)
  have R8 : Reads w8 (.slice a' (l.take (Q + N)).length c') (l.take (Q + N)) := R7.turn t8 (by have := NoB.rdr P7; simpa using this)
  clear P7 R7 t8 S6 P6 cnm
  have g0 := cell_of B8 0
  have g1 := cell_of B8 1
  have g2 := cell_of B8 2
  have g3 := cell_of B8 3
  have y0 := free_of B8 0
  have y1 := free_of B8 1
  have y2 := free_of B8 2
  have y3 := free_of B8 3
  have p1 := cell_of P8 1
  simp at g0 g1 g2 g3 p1
  have hne9 : ¬ w4.heap.size = w6.heap.size := by omega
  have hne9' : ¬ w6.heap.size = w4.heap.size := by omega
  have B8' : Hid (w8.heap[w6.heap.size]? = some (.cells #[.int .i64 0, .string ⟨#[]⟩, .slice none 0 0, .int .i64 0] 45 (0, 0))) := B8
  clear B8
  go_wp2_with fail
  have T9 : Turn [w6.heap.size] w8 ((w8.setCell ⟨w6.heap.size, 1, none⟩ (.string st)).setCell ⟨w6.heap.size, 3, none⟩ (.int .i64 P)) := ((Turn.refl _ _).set (by simp) _).set (by simp) _
  have B9 : ((w8.setCell ⟨w6.heap.size, 1, none⟩ (.string st)).setCell ⟨w6.heap.size, 3, none⟩ (.int .i64 P)).heap[w6.heap.size]? = some (.cells #[.int .i64 0, .string st, .slice none 0 0, .int .i64 P] 45 (0, 0)) := by
    rw [heap_set (heap_set B8'.out _ _)]; rfl
  have n8 : NoB w8 w6.heap.size := by
    intro j m
    rw [cell_of B8'.out]
    rcases j with _ | _ | _ | _ | j <;> simp
  have S9 := S8.turnN T9 hlz
  have P9 := T9.other P8 (by simpa using hne9)
  have R9 := R8.turn T9 (by simpa using n8)
  clear g0 g1 g2 g3 y0 y1 y2 y3 p1 B8' P8 S8 R8 T9 n8
  generalize ((w8.setCell ⟨w6.heap.size, 1, none⟩ (.string st)).setCell ⟨w6.heap.size, 3, none⟩ (.int .i64 P)) = w9 at *
  refine (rest_any w4.heap.size a' c' (l.take (Q + N)) P _ P9 R9 (by omega) (by omega)).mono ?_
  rintro en w10 ⟨a3, c3, rfl, hr3, nd, rfl⟩
  rw [hl2] at hr3
  have g0 := cell_of B9 0
  have g1 := cell_of B9 1
  have g2 := cell_of B9 2
  have g3 := cell_of B9 3
  have y2 := free_of B9 2
  simp at g0 g1 g2 g3
  go_wp2_with fail
  have T10 : Turn [w6.heap.size] (w9.drewN nd) ((w9.drewN nd).setCell ⟨w6.heap.size, 2, none⟩ (.slice a3 (Q + N - P) c3)) := (Turn.refl _ _).set (by simp) _
  have n9 : NoB (w9.drewN nd) w6.heap.size := by
    intro j m
    rw [cell_of (heap_drewN B9 nd)]
    rcases j with _ | _ | _ | _ | j <;> simp
  have hr10 := (hr3.drewN nd).turn T10 (by simpa using n9)
  refine (copied_any 0 st _ ((l.take (Q + N)).drop P) P _ hr10 (by simp; omega)).mono ?_
  rintro en w11 ⟨vd, rfl, hh9⟩
  have S10 := (S9.turn0 ((Turn.refl _ _).drewN nd)).turnN T10 hlz
  have S11 := S10.grew hh9.gr
  have hsz6 := S10.turn.size
  have hblk : ∀ k, vd.ownBlock = some k → k ∉ [w.heap.size] := by
    intro k hk hm
    have h1 := hh9.1.lt k hk
    have h3 := lt_of_obj S10.z
    simp at hm
    omega
  have hown : w11.ownsRow w.heap.size 5 1 vd ((l.take (Q + N)).drop P).length (U8 ((l.take (Q + N)).drop P)) := hh9.1.mono hsz6
  have hld : ((l.take (Q + N)).drop P).length = Q + N - P := by simp; omega
  obtain ⟨ad, cd, hvd⟩ := hh9.reads.len
  rw [hld] at hvd
  subst hvd
  clear hh9 T10 n9 hr10 hr3 B9 S9 S10 g0 g1 g2 g3 y2 P9 R9
  have f0 := cell_of S11.z 0
  have f1 := cell_of S11.z 1
  have f2 := cell_of S11.z 2
  have f3 := cell_of S11.z 3
  have y0 := free_of S11.z 0
  have y1 := free_of S11.z 1
  have y2 := free_of S11.z 2
  have y3 := free_of S11.z 3
  simp at f0 f1 f2 f3
  unfold secV
  go_wp2_with fail
  refine bodyPost_ret (v := .agg #[.int .i64 0, .string st, .slice ad (Q + N - P) cd, .int .i64 P]) (by simp [results, Try.results59, go_sem, f0, f1, f2, f3]) rfl ⟨_, rfl, ?_, ?_, ?_, ?_⟩
  · refine own_turn (S := [w.heap.size]) hown ?_ hblk
    have T := Turn.refl [w.heap.size] w11
    repeat (first | exact T | refine Turn.set ?_ (by simp) _)
  · have T := S11.turn
    repeat (first | exact T | refine Turn.set ?_ (by simp) _)
  · have T := S11.r
    rw [show ((Q + N : Nat) : Int) = (Q : Int) + N from by omega]
    repeat (first | exact T | refine heap_other ?_ (by simp; omega) _)
  · have T := S11.o
    repeat (first | exact T | refine heap_other ?_ (by simp; omega) _)

end Go.Proofs.Ytclamdpbdafmcaa
