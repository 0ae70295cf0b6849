/-
  The walk of frame.order's faultOf; no statement is proved here.
-/
import Derived.Test.YtclamdpbdafmcaaSecs
import Derived.Test.YtclamdpbdafmcaaJoinM
namespace Go.Proofs.Ytclamdpbdafmcaa
open Go.RowKit
set_option linter.unusedVariables false

theorem str_empty {m : List Int} : (strOfNums m).toList.isEmpty = m.isEmpty := by
  first | rw [ByteArray.toList_eq, strOfNums_data] | rw [Lib.toList_data, strOfNums_data]
  cases m <;> rfl
set_option maxRecDepth 100000 in
set_option maxHeartbeats 2000000 in
theorem faultOf_any (bo : Nat) (last : Int) (s : Sec) (v : Value) (w : World) (h : w.heap[bo]? = some (ord last)) (hm : Byt s.name) (hml : s.name.length ≤ 140737488351232) :
    Calls Try.prog 44 #[.pointer (some ⟨bo, 0, none⟩), secV s.id (strOfNums s.name) v s.at_] w fun en w' =>
      en = .returned (.int .i64 (ff s last)) ∧ Turn [bo] w w' ∧ (ff s last = 0 → w'.heap[bo]? = some (ord (nl s last))) := by
  obtain ⟨id, nm, d, p⟩ := s
  simp only at hm hml ⊢
  have hse := str_empty (m := nm)
  have cr := rank_any id
  have hrc := rank_cases id
  have cn := fun w => nf_any nm w hm hml
  have HH : Hid (w.heap[bo]? = some (ord last)) := h
  have hbo : bo < w.heap.size := lt_of_obj h
  obtain ⟨r, hr⟩ : ∃ r, r = rank id := ⟨_, rfl⟩
  obtain ⟨sm, hsm⟩ : ∃ s, s = strOfNums nm := ⟨_, rfl⟩
  unfold ff nl
  simp only
  rw [← hr] at cr hrc ⊢
  rw [← hsm] at hse cn ⊢
  clear hr hsm hm hml h
  obtain ⟨nn, hnn⟩ : ∃ n, n = if r = 0 then last else r := ⟨_, rfl⟩
  rw [← hnn]
  have HN : Hid (nn = if r = 0 then last else r) := hnn
  clear hnn
  unfold secV
  by_cases h1 : r < 0
  · rw [if_pos (Or.inl h1)]
    have d1 : decide (r < 0) = true := by simpa using h1
    clear cn hrc hse
    go_enter Try.func44, Try.ntmps44
    go_wp2_with fail
    refine (cr _).mono ?_
    rintro en w1 ⟨rfl, g1⟩
    clear cr
    have G1 : Hid (Grew w w1) := ((Grew.refl w).alloc _).trans g1
    have S1 : Hid (w1.heap[w.heap.size]? = some (.cells #[.int .i64 id, .string sm, v, .int .i64 p] 45 (0, 0))) := (g1.turn []).other (heap_alloc_last _ _) (by simp)
    have c0 := cell_of S1.out 0
    have c1 := cell_of S1.out 1
    simp at c0 c1
    clear g1
    go_wp2_with fail
    go_ret
    exact ⟨rfl, G1.out.turn _, fun h => absurd h (by decide)⟩
  · have d1 : decide (r < 0) = false := by simpa using h1
    by_cases h2 : id ≠ 0 ∧ nm ≠ []
    · rw [if_pos (Or.inr h2)]
      have d2 : (id == 0) = false := beq_eq_false_iff_ne.2 h2.1
      have d2' : ¬ id = 0 := h2.1
      have d3 : sm.toList.isEmpty = false := by rw [hse]; cases nm with | nil => exact absurd rfl h2.2 | cons _ _ => rfl
      clear cn hrc hse h2
      go_enter Try.func44, Try.ntmps44
      go_wp2_with fail
      refine (cr _).mono ?_
      rintro en w1 ⟨rfl, g1⟩
      clear cr
      have G1 : Hid (Grew w w1) := ((Grew.refl w).alloc _).trans g1
      have S1 : Hid (w1.heap[w.heap.size]? = some (.cells #[.int .i64 id, .string sm, v, .int .i64 p] 45 (0, 0))) := (g1.turn []).other (heap_alloc_last _ _) (by simp)
      have c0 := cell_of S1.out 0
      have c1 := cell_of S1.out 1
      simp at c0 c1
      clear g1
      go_wp2_with fail
      go_ret
      exact ⟨rfl, G1.out.turn _, fun h => absurd h (by decide)⟩
    · rw [if_neg (by rintro (h | h); exact h1 h; exact h2 h)]
      by_cases h3 : id = 0
      · have hr0 : r = 0 := by omega
        subst hr0
        subst h3
        rw [if_neg (by simp)]
        clear hrc hse h2 h1
        go_enter Try.func44, Try.ntmps44
        go_wp2_with fail
        refine (cr _).mono ?_
        rintro en w1 ⟨rfl, g1⟩
        clear cr
        have G1 : Hid (Grew w w1) := ((Grew.refl w).alloc _).trans g1
        have S1 : Hid (w1.heap[w.heap.size]? = some (.cells #[.int .i64 0, .string sm, v, .int .i64 p] 45 (0, 0))) := (g1.turn []).other (heap_alloc_last _ _) (by simp)
        have c0 := cell_of S1.out 0
        have c1 := cell_of S1.out 1
        simp at c0 c1
        clear g1
        have B1 : Hid (w1.heap[bo]? = some (ord last)) := (G1.out.turn []).other HH.out (by simp)
        go_wp2_with fail
        refine (takes_zero bo last _ B1.out).mono ?_
        rintro en w2 ⟨rfl, t2, o2⟩
        have S2 : Hid (w2.heap[w.heap.size]? = some (.cells #[.int .i64 0, .string sm, v, .int .i64 p] 45 (0, 0))) := t2.other S1.out (by simp; omega)
        have e0 := cell_of S2.out 0
        have e1 := cell_of S2.out 1
        simp at e0 e1
        have T2 : Hid (Turn [bo] w w2) := (G1.out.turn [bo]).trans t2
        have O2 : Hid (w2.heap[bo]? = some (ord last)) := o2
        clear t2 o2 c0 c1
        go_wp2_with fail
        refine (cn _).mono ?_
        rintro en w3 ⟨rfl, g3⟩
        have G3 : Hid (Grew w2 w3) := g3
        clear g3
        go_wp2_with fail
        go_ret
        exact ⟨rfl, T2.out.trans (G3.out.turn _), fun _ => by rw [HN.out, if_pos trivial]; exact (G3.out.turn []).other O2.out (by simp)⟩
      · have hnm : nm = [] := by
          by_cases h : nm = []
          · exact h
          · exact absurd ⟨h3, h⟩ h2
        have d3 : sm.toList.isEmpty = true := by rw [hse, hnm]; rfl
        have hr1 : r ≠ 0 := by omega
        have hn0 : nf nm = 0 := by rw [hnm]; decide
        rw [hn0] at cn ⊢
        have d2 : (id == 0) = false := beq_eq_false_iff_ne.2 h3
        have HR1 : Hid (r ≠ 0) := hr1
        by_cases h4 : r ≤ last
        · rw [if_pos ⟨hr1, h4⟩]
          clear hrc hse h2 h1 hnm hn0
          go_enter Try.func44, Try.ntmps44
          go_wp2_with fail
          refine (cr _).mono ?_
          rintro en w1 ⟨rfl, g1⟩
          clear cr
          have G1 : Hid (Grew w w1) := ((Grew.refl w).alloc _).trans g1
          have S1 : Hid (w1.heap[w.heap.size]? = some (.cells #[.int .i64 id, .string sm, v, .int .i64 p] 45 (0, 0))) := (g1.turn []).other (heap_alloc_last _ _) (by simp)
          have c0 := cell_of S1.out 0
          have c1 := cell_of S1.out 1
          simp at c0 c1
          clear g1
          have B1 : Hid (w1.heap[bo]? = some (ord last)) := (G1.out.turn []).other HH.out (by simp)
          go_wp2_with fail
          refine (takes_no bo last r _ B1.out HR1.out h4).mono ?_
          rintro en w2 ⟨rfl, hw2⟩
          obtain rfl := hw2
          go_wp2_with fail
          go_ret
          exact ⟨rfl, G1.out.turn _, fun h => absurd h (by decide)⟩
        · rw [if_neg (fun h => h4 h.2)]
          clear hrc hse h2 h1 hnm hn0
          go_enter Try.func44, Try.ntmps44
          go_wp2_with fail
          refine (cr _).mono ?_
          rintro en w1 ⟨rfl, g1⟩
          clear cr
          have G1 : Hid (Grew w w1) := ((Grew.refl w).alloc _).trans g1
          have S1 : Hid (w1.heap[w.heap.size]? = some (.cells #[.int .i64 id, .string sm, v, .int .i64 p] 45 (0, 0))) := (g1.turn []).other (heap_alloc_last _ _) (by simp)
          have c0 := cell_of S1.out 0
          have c1 := cell_of S1.out 1
          simp at c0 c1
          clear g1
          have B1 : Hid (w1.heap[bo]? = some (ord last)) := (G1.out.turn []).other HH.out (by simp)
          go_wp2_with fail
          refine (takes_yes bo last r _ B1.out HR1.out (by omega)).mono ?_
          rintro en w2 ⟨rfl, t2, o2⟩
          have S2 : Hid (w2.heap[w.heap.size]? = some (.cells #[.int .i64 id, .string sm, v, .int .i64 p] 45 (0, 0))) := t2.other S1.out (by simp; omega)
          have e0 := cell_of S2.out 0
          have e1 := cell_of S2.out 1
          simp at e0 e1
          have T2 : Hid (Turn [bo] w w2) := (G1.out.turn [bo]).trans t2
          have O2 : Hid (w2.heap[bo]? = some (ord r)) := o2
          clear t2 o2 c0 c1
          go_wp2_with fail
          refine (cn _).mono ?_
          rintro en w3 ⟨rfl, g3⟩
          have G3 : Hid (Grew w2 w3) := g3
          clear g3
          go_wp2_with fail
          go_ret
          exact ⟨rfl, T2.out.trans (G3.out.turn _), fun _ => by rw [HN.out, if_neg HR1.out]; exact (G3.out.turn []).other O2.out (by simp)⟩
end Go.Proofs.Ytclamdpbdafmcaa
