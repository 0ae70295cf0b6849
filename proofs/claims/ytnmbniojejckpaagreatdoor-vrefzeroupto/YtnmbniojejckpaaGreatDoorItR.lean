/-
  Sub's row of an order, and its iterator; no statement is proved here.
-/
import Derived.Test.YtnmbniojejckpaaGreatDoorOneO
set_option maxRecDepth 100000
set_option maxHeartbeats 8000000
namespace Go.Proofs.YtnmbniojejckpaaGreatDoor
open Go.RowKit Go.Shelf
set_option linter.unusedVariables false
set_option linter.unusedSimpArgs false
attribute [local go_sem] Oper.semAt_some
def upF : Nat → Int → List Int
  | 0, _ => []
  | n + 1, h => match kinP h with
    | none => []
    | some k => h :: upF n k.1
def upL (h : Int) : List Int := upF 5 h
theorem upF_some {n : Nat} {h : Int} {k : Int × Int × Int} (e : kinP h = some k) : upF (n + 1) h = h :: upF n k.1 := by
  show (match kinP h with | none => [] | some k => h :: upF n k.1) = _
  rw [e]
theorem upF_none {n : Nat} {h : Int} (e : kinP h = none) : upF n h = [] := by
  cases n with
  | zero => rfl
  | succ n =>
    show (match kinP h with | none => [] | some k => h :: upF n k.1) = _
    rw [e]
/- How far it is to the top. -/
def dist (h : Int) : Nat := if h = -7 ∨ h = -8 ∨ h = -9 then 3 else if h = -6 then 2 else if h < -12 ∨ -1 < h then 0 else 1
theorem dist_le (h : Int) : dist h ≤ 3 := by
  unfold dist
  split
  · omega
  · split
    · omega
    · split <;> omega
theorem dist_up {h : Int} {k : Int × Int × Int} (e : kinP h = some k) : dist k.1 + 1 = dist h := by
  by_cases hh : h < -12 ∨ -1 < h
  · rw [kinP_no hh] at e; cases e
  · have : h = -1 ∨ h = -2 ∨ h = -3 ∨ h = -4 ∨ h = -5 ∨ h = -6 ∨ h = -7 ∨ h = -8 ∨ h = -9 ∨ h = -10 ∨ h = -11 ∨ h = -12 := by omega
    rcases this with rfl | rfl | rfl | rfl | rfl | rfl | rfl | rfl | rfl | rfl | rfl | rfl <;> (cases e; decide)
theorem upward_any (h : Int) (w : World) : Calls Tryz.prog 145 #[.int .i64 h] w fun en w' => en = .returned (.func (.func 151) #[] #[.pointer (some ⟨w.heap.size, 0, none⟩)]) ∧ w'.heap[w.heap.size]? = some (.cells #[.int .i64 h] 3 (0, 0)) ∧ Grew w w' := by
  go_enter Tryz.func145, Tryz.ntmps145
  go_wp2_with fail
  go_ret
  exact ⟨rfl, heap_alloc_last _ _, (Grew.refl w).alloc _⟩
theorem cell_obj {W : World} {b : Nat} {v : Value} {t : TypeId} (h : W.heap[b]? = some (.cells #[v] t (0, 0))) : W.cell? ⟨b, 0, none⟩ = some v := by
  rw [cell_of h]; rfl
theorem upward_seq {ob bx : Nat} {h : Int} {w : World} (hob : ob < w.heap.size) (hb : w.heap[bx]? = some (.cells #[.int .i64 h] 3 (0, 0))) : SeqO ob 151 #[.pointer (some ⟨bx, 0, none⟩)] (upL h) w := by
  intro l X J Jx W hg hX hJ hJx hY h0
  have c0 := cell_obj (hg.other hb)
  have hobW : ob < W.heap.size := Nat.lt_of_lt_of_le hob hg.2
  have CK' : Hid (∀ h X, Calls Tryz.prog 142 #[.int .i64 h] X fun en w' => en = .returned (.tuple #[.agg #[.int .i64 (kA (kinP h)), .int .i64 (kB (kinP h)), .int .i64 (kD (kinP h))], .bool (kinP h).isSome]) ∧ Grew X w') := fun h X => kinOf_is h X
  have HJ : Hid (∀ s A B, J s A → GN W.heap.size A B → J s B) := hJ
  have HJx : Hid (∀ s A B, Jx s A → GN W.heap.size A B → Jx s B) := hJx
  have HY : Hid (∀ pre x A, J pre A → (pre ++ [x]) <+: upL h → YieldAt Fence.wide 0 Tryz.prog l #[.int .i64 x] A fun e B => (e = .returned (.bool true) ∧ J (pre ++ [x]) B ∧ KC ob A B ∧ KX X A B) ∨ (e = .returned (.bool false) ∧ Jx (pre ++ [x]) B ∧ KX X A B)) := hY
  have H0 : Hid (J [] W) := h0
  clear hJ hJx hY h0 hb hg hX
  refine (callsIn_wide (n := 0)).1 ?_
  refine callsIn_of_wp Tryz.func151 rfl trivial ?_ rfl
  simp only [Tryz.ntmps151, List.size_toArray, List.length_cons, List.length_nil, Nat.reduceAdd, Nat.reduceSub, Array.replicate_succ, Array.replicate_zero, List.push_toArray, List.append_toArray, List.nil_append, List.cons_append]
  gi_wp2
  refine ⟨trivial, rfl, (callsIn_wide.2 (CK'.out h W)).mono ?_⟩
  rintro e w1 ⟨rfl, g1⟩
  have hz1 : W.heap.size ≤ w1.heap.size := g1.2
  have J1 : Hid (J [] (w1.alloc (.cells #[.int .i64 (kA (kinP h)), .int .i64 (kB (kinP h)), .int .i64 (kD (kinP h))] 185))) := HJ.out _ _ _ H0.out ((g1.alloc _).gn _)
  have B1 : Hid ((w1.alloc (.cells #[.int .i64 (kA (kinP h)), .int .i64 (kB (kinP h)), .int .i64 (kD (kinP h))] 185)).heap[w1.heap.size]? = some (.cells #[.int .i64 (kA (kinP h)), .int .i64 (kB (kinP h)), .int .i64 (kD (kinP h))] 185 (0, 0))) := heap_alloc_last _ _
  clear g1 H0 c0
  gi_wp2
  generalize (w1.alloc (.cells #[.int .i64 (kA (kinP h)), .int .i64 (kB (kinP h)), .int .i64 (kD (kinP h))] 185)) = w2 at *
  generalize w1.heap.size = kb at *
  gi_loopw [3, 4, 5] (fun a_ k_ o_ wr => ∃ (pre : List Int) (at_ : Int) (kb : Nat) (m : Nat), a_ = .int .i64 at_ ∧ k_ = .pointer (some ⟨kb, 0, none⟩) ∧ o_ = .bool (kinP at_).isSome ∧ W.heap.size ≤ kb ∧ Hid (upL h = pre ++ upF m at_ ∧ dist at_ < m) ∧ Hid (wr.heap[kb]? = some (.cells #[.int .i64 (kA (kinP at_)), .int .i64 (kB (kinP at_)), .int .i64 (kD (kinP at_))] 185 (0, 0))) ∧ Hid (J pre wr)) (fun a_ _ _ _ => dist (intOf a_))
  case atStart => exact ⟨[], h, kb, 5, rfl, rfl, rfl, hz1, ⟨rfl, by have := dist_le h; omega⟩, B1, J1⟩
  case round =>
    clear B1 J1
    obtain ⟨pre, at_, kb, m, rfl, rfl, rfl, hkb, hU, hB, hJ⟩ := hrel
    cases hk : kinP at_ with
    | none =>
      have hU' : upL h = pre := by rw [hU.out.1, upF_none hk, List.append_nil]
      gi_wp2
      refine ⟨fun _ h => (by cases h), ?_⟩
      gi_wp2
      go_end0
      exact ⟨⟨_, rfl⟩, Or.inl (by rw [hU']; exact hJ.out)⟩
    | some k =>
      obtain ⟨m', rfl⟩ : ∃ m', m = m' + 1 := ⟨m - 1, by have := hU.out.2; omega⟩
      have hU' : upL h = (pre ++ [at_]) ++ upF m' k.1 := by rw [hU.out.1, upF_some hk, List.append_assoc]; rfl
      obtain ⟨fn, tmps, assign, body, hy, hR⟩ := HY.out pre at_ wr hJ.out ⟨upF m' k.1, by rw [hU']⟩
      have HR : Hid (RoundIn Fence.wide 0 Tryz.prog l fn tmps assign body wr fun e B => (e = .returned (.bool true) ∧ J (pre ++ [at_]) B ∧ KC ob wr B ∧ KX X wr B) ∨ (e = .returned (.bool false) ∧ Jx (pre ++ [at_]) B ∧ KX X wr B)) := hR
      clear hR
      have hlt := lt_of_obj hB.out
      gi_wp2
      refine ⟨rfl, HR.out.mono ?_⟩
      clear HR hy
      rintro e w3 (⟨rfl, h1, h2, h3⟩ | ⟨rfl, h1, h2⟩)
      · have B3 := h2.1 kb _ ?_ hB.out rfl
        · have b0 := cell_of B3 0
          have b1 := cell_of B3 1
          have b2 := cell_of B3 2
          simp at b0 b1 b2
          have lt3 := lt_of_obj B3
          have hJ3 : Hid (J (pre ++ [at_]) w3) := h1
          have ek : kA (kinP at_) = k.1 := by rw [hk]; rfl
          rw [ek] at b0
          have hU3 : Hid (upL h = (pre ++ [at_]) ++ upF m' k.1) := hU'
          have hd : Hid (dist k.1 + 1 = dist at_) := dist_up hk
          have hm : Hid (dist at_ < m' + 1) := hU.out.2
          clear h1 h2 h3 B3 hB hJ hU' hU ek hk hlt
          generalize kB (kinP at_) = qb at *
          generalize kD (kinP at_) = qd at *
          generalize k.1 = ku at *
          gi_wp2
          refine ⟨trivial, rfl, (callsIn_wide.2 (CK'.out ku _)).mono ?_⟩
          rintro e w4 ⟨rfl, g4⟩
          have A4 := g4.other (heap_alloc_last w3 (.cells #[.int .i64 ku, .int .i64 qb, .int .i64 qd] 185))
          have G4 : Hid (Grew w3 w4) := ((Grew.refl w3).alloc _).trans g4
          have a0 := cell_of A4 0
          have a1 := cell_of A4 1
          have a2 := cell_of A4 2
          have z0 := free_of A4 0
          have z1 := free_of A4 1
          have z2 := free_of A4 2
          simp at a0 a1 a2
          have lt4 := lt_of_obj A4
          have HA : Hid (w4.heap[w3.heap.size]? = some (.cells #[.int .i64 ku, .int .i64 qb, .int .i64 qd] 185 (0, 0))) := A4
          clear A4 g4 b0 b1 b2
          gi_wp2
          go_roundw
          case rel =>
            refine ⟨pre ++ [at_], ku, w3.heap.size, m', rfl, rfl, rfl, by omega, ⟨hU3.out, by have := hd.out; have := hm.out; omega⟩, ?_, ?_⟩
            · exact heap_set (heap_set (heap_set HA.out 0 _) 1 _) 2 _
            · exact HJ.out _ _ _ hJ3.out ((((G4.out.set (p := ⟨w3.heap.size, 0, none⟩) (Nat.le_refl _) _).set (p := ⟨w3.heap.size, 1, none⟩) (Nat.le_refl _) _).set (p := ⟨w3.heap.size, 2, none⟩) (Nat.le_refl _) _).gn _)
          case measure =>
            have := hd.out
            simp only [intOf]
            omega
        · omega
      · have hJ3 : Hid (Jx (pre ++ [at_]) w3) := h1
        clear h1 h2 hB hJ hU hlt hk
        gi_wp2
        go_end0
        exact ⟨⟨_, rfl⟩, Or.inr ⟨pre ++ [at_], ⟨upF m' k.1, hU'.symm⟩, hJ3.out⟩⟩
end Go.Proofs.YtnmbniojejckpaaGreatDoor
namespace Go.Proofs.YtnmbniojejckpaaGreatDoor
open Go.RowKit Go.Shelf
set_option linter.unusedVariables false
set_option linter.unusedSimpArgs false
attribute [local go_sem] Oper.semAt_some
def supI (L : List RT) (n : Nat) : Option Int := (flatT L)[n]?.bind fun x => x.supers.head?
def rowF (L : List RT) : Nat → Nat → List Int
  | 0, _ => []
  | k + 1, a => (a : Int) :: (match supI L a with | none => [] | some s => rowF L k s.toNat)
def rowL (L : List RT) (a : Nat) : List Int := rowF L (flatT L).length a
theorem rowF_none {L : List RT} {k a : Nat} (h : supI L a = none) : rowF L (k + 1) a = [(a : Int)] := by
  show (a : Int) :: (match supI L a with | none => [] | some s => rowF L k s.toNat) = _
  rw [h]
theorem rowF_some {L : List RT} {k a : Nat} {s : Int} (h : supI L a = some s) : rowF L (k + 1) a = (a : Int) :: rowF L k s.toNat := by
  show (a : Int) :: (match supI L a with | none => [] | some s => rowF L k s.toNat) = _
  rw [h]
theorem flat_in {L : List RT} {x : SB} (h : x ∈ flatT L) : ∃ (g : Nat) (r : RT), L[g]? = some r ∧ x ∈ r.types := by
  obtain ⟨r, hr, hx⟩ := List.mem_flatMap.1 h
  obtain ⟨g, hg, rfl⟩ := List.getElem_of_mem hr
  exact ⟨g, _, List.getElem?_eq_getElem hg, hx⟩
theorem closed_seen {L : List RT} (hc : closedP 0 L = true) {x : SB} (hx : x ∈ flatT L) {s : Int} (hs : s ∈ seenL x) : 0 ≤ s ∧ s < ((flatT L).length : Int) := by
  obtain ⟨g, r, hg, hr⟩ := flat_in hx
  have h := closedP_mem hc hg x hr
  unfold fineP at h
  have h2 := List.all_eq_true.1 h s hs
  have h3 := cntT_snoc hg
  have h4 := cntT_take L (g + 1)
  rw [flat_cnt]
  unfold okS at h2
  simp at h2
  omega
theorem closed_sup {L : List RT} (hc : closedP 0 L = true) {n : Nat} {s : Int} (h : supI L n = some s) : ∃ m : Nat, s = m ∧ m < (flatT L).length := by
  unfold supI at h
  cases e : (flatT L)[n]? with
  | none => rw [e] at h; cases h
  | some x =>
    rw [e] at h
    have h' : x.supers.head? = some s := h
    have hm : s ∈ x.supers := List.mem_of_head? h'
    have := closed_seen hc (List.mem_of_getElem? e) (s := s) (by unfold seenL; simp [hm])
    exact ⟨s.toNat, by omega, by omega⟩
theorem row_any (p : Value) (n : Int) (w : World) (hp : ∃ a, p = .pointer a) : Calls Tryz.prog 143 #[p, .int .i64 n] w fun en w' => en = .returned (.func (.func 149) #[] #[.pointer (some ⟨w.heap.size + 1, 0, none⟩), .pointer (some ⟨w.heap.size, 0, none⟩)]) ∧ w'.heap[w.heap.size]? = some (.cells #[p] 163 (0, 0)) ∧ w'.heap[w.heap.size + 1]? = some (.cells #[.int .i64 n] 3 (0, 0)) ∧ Grew w w' := by
  obtain ⟨a, rfl⟩ := hp
  go_enter Tryz.func143, Tryz.ntmps143
  go_wp2_with fail
  go_ret
  refine ⟨rfl, heap_alloc (heap_alloc_last _ _) _, ?_, ((Grew.refl w).alloc _).alloc _⟩
  have := heap_alloc_last (w.alloc (.cells #[.pointer a] 163)) (.cells #[.int .i64 n] 3)
  rw [World.size_alloc] at this
  exact this
theorem row_seq {ob bn bo a : Nat} {L : List RT} {w0 w : World} (hcl : closedP 0 L = true) (hfit : Fit L) (hR : RD ob L w0 w) (ha : a < (flatT L).length) (hbn : w.heap[bn]? = some (.cells #[.int .i64 (a : Int)] 3 (0, 0))) (hbo : w.heap[bo]? = some (.cells #[.pointer (some ⟨ob, 0, none⟩)] 163 (0, 0))) :
    SeqO ob 149 #[.pointer (some ⟨bn, 0, none⟩), .pointer (some ⟨bo, 0, none⟩)] (rowL L a) w := by
  intro l X J Jx W hg hX hJ hJx hY h0
  have hRW : RD ob L w0 W := hR.kc (hg.kc ob)
  have hbno : bo ≠ ob := by
    rintro rfl
    obtain ⟨_, _, v, tv, iv, h1, _⟩ := hR
    rw [h1] at hbo
    unfold oobj at hbo
    injection hbo with hbo
    injection hbo with _ hbo _
    revert hbo; decide
  have B0 := hg.other hbo
  have c0 := cell_obj (hg.other hbn)
  have c1 := cell_obj B0
  have hN : (flatT L).length ≤ 1048576 := by rw [flat_cnt]; exact hfit.sml.2.1
  have HJ : Hid (∀ s A B, J s A → GN W.heap.size A B → J s B) := hJ
  have HY : Hid (∀ pre x A, J pre A → (pre ++ [x]) <+: rowL L a → YieldAt Fence.wide 0 Tryz.prog l #[.int .i64 x] A fun e B => (e = .returned (.bool true) ∧ J (pre ++ [x]) B ∧ KC ob A B ∧ KX X A B) ∨ (e = .returned (.bool false) ∧ Jx (pre ++ [x]) B ∧ KX X A B)) := hY
  have H0 : Hid (J [] W) := h0
  obtain ⟨x0, hx0⟩ : ∃ x, (flatT L)[a]? = some x := ⟨_, List.getElem?_eq_getElem ha⟩
  obtain ⟨v, g, cap, iv, pb, po, h1, h2, h3, h4, _, hne⟩ := hRW.get hx0
  have o1 := cell_of h1 1
  simp at o1
  have lto := lt_of_obj h1
  have HRW : Hid (RD ob L w0 W) := hRW
  have HB0 : Hid (W.heap[bo]? = some (.cells #[.pointer (some ⟨ob, 0, none⟩)] 163 (0, 0))) := B0
  have HC : Hid (closedP 0 L = true) := hcl
  clear hJ hJx hY h0 hbn hg hX hR hRW hbo h1 h3 h4 hx0 hfit hcl B0
  obtain ⟨N, hNN⟩ : ∃ N, N = (flatT L).length := ⟨_, rfl⟩
  rw [← hNN] at ha hN h2 o1
  have HN : Hid (N = (flatT L).length) := hNN
  clear hNN
  refine (callsIn_wide (n := 0)).1 ?_
  refine callsIn_of_wp Tryz.func149 rfl trivial ?_ rfl
  simp only [Tryz.ntmps149, List.size_toArray, List.length_cons, List.length_nil, Nat.reduceAdd, Nat.reduceSub, Array.replicate_succ, Array.replicate_zero, List.push_toArray, List.append_toArray, List.nil_append, List.cons_append]
  gi_wp2
  gi_loopw [4, 11] (fun a_ i_ wr => ∃ (pre : List Int) (at_ i : Nat), a_ = .int .i64 (at_ : Int) ∧ i_ = .int .i64 (i : Int) ∧ i ≤ N ∧ at_ < N ∧ Hid (rowL L a = pre ++ rowF L (N - i) at_) ∧ Hid (RD ob L w0 wr) ∧ Hid (wr.heap[bo]? = some (.cells #[.pointer (some ⟨ob, 0, none⟩)] 163 (0, 0))) ∧ Hid (J pre wr)) (fun _ i_ _ => N - (intOf i_).toNat)
  case atStart => exact ⟨[], a, 0, rfl, rfl, Nat.zero_le _, ha, (by rw [HN.out]; rfl : rowL L a = [] ++ rowF L (N - 0) a), HRW, HB0, H0⟩
  case round =>
    clear HRW HB0 H0 c0 c1 o1
    obtain ⟨pre, at_, i, rfl, rfl, hi, hat, hU, hR, hB, hJ⟩ := hrel
    by_cases hlt : i < N
    · have d1 : decide ((i : Int) < (N : Int)) = true := by simp; omega
      obtain ⟨m, hm⟩ : ∃ m, N - i = m + 1 := ⟨N - i - 1, by omega⟩
      obtain ⟨x, hx⟩ : ∃ x, (flatT L)[at_]? = some x := ⟨_, List.getElem?_eq_getElem (by rw [← HN.out]; exact hat)⟩
      have hrw : ∃ R, rowL L a = (pre ++ [(at_ : Int)]) ++ R ∧ ((supI L at_ = none ∧ R = []) ∨ ∃ s, supI L at_ = some s ∧ R = rowF L m s.toNat) := by
        cases e : supI L at_ with
        | none => exact ⟨[], by rw [hU.out, hm, rowF_none e, List.append_nil], Or.inl ⟨rfl, rfl⟩⟩
        | some s => exact ⟨rowF L m s.toNat, by rw [hU.out, hm, rowF_some e, List.append_assoc]; rfl, Or.inr ⟨s, rfl, rfl⟩⟩
      obtain ⟨R, hRl, hRc⟩ := hrw
      have HRl : Hid (rowL L a = (pre ++ [(at_ : Int)]) ++ R) := hRl
      have HRc : Hid ((supI L at_ = none ∧ R = []) ∨ ∃ s, supI L at_ = some s ∧ R = rowF L m s.toNat) := hRc
      obtain ⟨fn, tmps, assign, body, hy, hRr⟩ := HY.out pre at_ wr hJ.out ⟨R, hRl.symm⟩
      have HR : Hid (RoundIn Fence.wide 0 Tryz.prog l fn tmps assign body wr fun e B => (e = .returned (.bool true) ∧ J (pre ++ [(at_ : Int)]) B ∧ KC ob wr B ∧ KX X wr B) ∨ (e = .returned (.bool false) ∧ Jx (pre ++ [(at_ : Int)]) B ∧ KX X wr B)) := hRr
      clear hRr hRl hRc
      gi_wp2
      refine ⟨rfl, HR.out.mono ?_⟩
      clear HR hy
      rintro e w3 (⟨rfl, j1, k1, k2⟩ | ⟨rfl, j1, k2⟩)
      · have R3 := hR.out.kc k1
        have B3 := k1.1 bo _ hbno hB.out rfl
        have HJ3 : Hid (J (pre ++ [(at_ : Int)]) w3) := j1
        obtain ⟨v3, g3, cap3, iv3, pb3, po3, q1, q2, q3, q4, ck, qne⟩ := R3.get hx
        obtain ⟨sv, pv, rv, fv, ⟨hsv, _⟩, b0, b1, _⟩ := q4
        have e1 := ck _ _ _ b1
        have o1 := cell_of q1 1
        simp at o1
        have c1 := cell_obj B3
        have lto3 := lt_of_obj q1
        have HR3 : Hid (RD ob L w0 w3) := R3
        have HB3 : Hid (w3.heap[bo]? = some (.cells #[.pointer (some ⟨ob, 0, none⟩)] 163 (0, 0))) := B3
        rw [← HN.out] at o1 q2
        have d3 : decide ((at_ : Int) < (N : Int)) = true := by simp; omega
        have d4 : decide (at_ < N) = true := by simp; omega
        have hatN : (at_ : Int) < (N : Int) := by omega
        obtain ⟨sa, sc, esv, hsc, _⟩ := hsv.one
        cases hs : x.supers with
        | nil =>
          have es : sv = .slice sa 0 sc := by rw [esv, hs]; rfl
          subst es
          have hJ4 : J (rowL L a) w3 := by
            rw [HRl.out]
            rcases HRc.out with ⟨_, hr⟩ | ⟨s, h5, _⟩
            · rw [hr, List.append_nil]; exact HJ3.out
            · exfalso
              unfold supI at h5
              rw [hx] at h5
              simp [hs] at h5
          have HJ4 : Hid (J (rowL L a) w3) := hJ4
          clear j1 k1 k2 R3 B3 q1 hsv b0 b1 hJ4 HJ3 HRl HRc hU hR hB hJ esv hs HR3 HB3
          gi_wp2
          refine bodyPost_ret (results_none rfl _ _ _) rfl ?_
          exact ⟨⟨_, rfl⟩, Or.inl HJ4.out⟩
        | cons s ss =>
          have hss : supI L at_ = some s := by unfold supI; rw [hx]; simp [hs]
          obtain ⟨m', em, hm'⟩ := closed_sup HC.out hss
          subst em
          have es : sv = .slice sa (ss.length + 1) sc := by rw [esv, hs]; rfl
          subst es
          rw [hs] at hsv
          obtain ⟨sb, so, rfl, _, hel⟩ := hsv.get (by simp)
          have e2 : w0.cell? ⟨sb, so, none⟩ = some (.int .i64 (m' : Int)) := by
            have := hel 0 _ rfl
            rw [Nat.zero_mul, Nat.add_zero] at this
            exact this
          have e3 := ck _ _ _ e2
          have hRe : R = rowF L m m' := by
            rcases HRc.out with ⟨h5, _⟩ | ⟨s', h5, h6⟩
            · rw [hss] at h5; cases h5
            · rw [hss] at h5
              injection h5 with h5
              subst h5
              exact h6
          have HU3 : Hid (rowL L a = (pre ++ [(at_ : Int)]) ++ rowF L (N - (i + 1)) m') := by
            have h7 : rowL L a = (pre ++ [(at_ : Int)]) ++ rowF L (N - (i + 1)) m' := by rw [HRl.out, hRe, show N - (i + 1) = m by omega]
            exact h7
          have hm2 : m' < N := by rw [HN.out]; exact hm'
          have hsl : decide (((ss.length + 1 : Nat) : Int) = 0) = false := by simp; omega
          have hsl2 : (((ss.length + 1 : Nat) : Int) == 0) = false := by simp; omega
          have hsl3 : ((ss.length : Int) + 1 == 0) = false := by simp; omega
          have d5 : decide ((0 : Int) < ((ss.length + 1 : Nat) : Int)) = true := decide_eq_true (by omega)
          clear j1 k1 k2 R3 B3 q1 hsv b0 b1 HRl HRc hU hR hB hJ esv hs hel e2 hRe hss hm' hx
          gi_wp2
          go_roundw
          case rel => exact ⟨pre ++ [(at_ : Int)], m', i + 1, rfl, by go_num, by omega, hm2, HU3, HR3, HB3, HJ3⟩
          case measure => simp [intOf]; omega
      · have HJ3 : Hid (Jx (pre ++ [(at_ : Int)]) w3) := j1
        clear j1 k2 hR hB hJ hU HRc hx
        gi_wp2
        refine bodyPost_ret (results_none rfl _ _ _) rfl ?_
        exact ⟨⟨_, rfl⟩, Or.inr ⟨pre ++ [(at_ : Int)], ⟨R, HRl.out.symm⟩, HJ3.out⟩⟩
    · have d1 : decide ((i : Int) < (N : Int)) = false := by simp; omega
      have hJ4 : Hid (J (rowL L a) wr) := by
        have h7 : J (rowL L a) wr := by rw [hU.out, show N - i = 0 by omega]; show J (pre ++ []) wr; rw [List.append_nil]; exact hJ.out
        exact h7
      clear hU hR hB hJ
      gi_wp2
      go_end0
      exact ⟨⟨_, rfl⟩, Or.inl hJ4.out⟩
end Go.Proofs.YtnmbniojejckpaaGreatDoor
