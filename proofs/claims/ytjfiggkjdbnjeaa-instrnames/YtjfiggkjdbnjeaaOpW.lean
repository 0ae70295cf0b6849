/-
  The walk of Op; no statement is proved here.
-/
import Derived.Test.YtjfiggkjdbnjeaaOpsW
namespace Go.Proofs.Ytjfiggkjdbnjeaa
open Go.RowKit
set_option linter.unusedVariables false
set_option linter.unusedSimpArgs false

def noM (s : List UInt8) (l : List (Int × List UInt8)) : Prop := ∀ p ∈ l, p.2 ≠ s
theorem noM.app {s : List UInt8} {a b : List (Int × List UInt8)} (h : noM s a) (k : noM s b) : noM s (a ++ b) := fun p hp => (List.mem_append.1 hp).elim (h p) (k p)
def pairsR (r : Int × List UInt8 × List UInt8) : List (Int × List UInt8) := pairsF r.1 r.2.1 (cutW r.2.2 [])
theorem PL_is : PL = RL.flatMap pairsR := rfl
theorem pairs_mem (a : List UInt8) : ∀ (l : List (List UInt8)) (f : Int) p, p ∈ pairsF f a l → ∃ x ∈ l, p.2 = a ++ x
  | [], f, p, h => by simp [pairsF] at h
  | x :: l, f, p, h => by
    rw [pairsF] at h
    rcases List.mem_cons.1 h with rfl | h
    · exact ⟨x, by simp, rfl⟩
    · obtain ⟨y, hy, e⟩ := pairs_mem a l (f + 1) p h
      exact ⟨y, by simp [hy], e⟩
theorem pairs_split (a : List UInt8) : ∀ (l : List (List UInt8)) (j : Nat) (f : Int) (x : List UInt8), l[j]? = some x → ∃ b, pairsF f a l = pairsF f a (l.take j) ++ (f + j, a ++ x) :: b
  | [], j, f, x, h => by simp at h
  | y :: l, 0, f, x, h => by
    simp at h
    subst h
    exact ⟨pairsF (f + 1) a l, by simp [pairsF]⟩
  | y :: l, j + 1, f, x, h => by
    rw [List.getElem?_cons_succ] at h
    obtain ⟨b, hb⟩ := pairs_split a l j (f + 1) x h
    refine ⟨b, ?_⟩
    rw [pairsF, hb, List.take_succ_cons, pairsF, List.cons_append]
    congr 4
    omega
theorem find_hit {s : List UInt8} {a b : List (Int × List UInt8)} {n : Int} (h : PL = a ++ (n, s) :: b) (ha : noM s a) : opP s = some n := by
  unfold opP
  rw [h, List.find?_append]
  have e : a.find? (fun p => decide (p.2 = s)) = none := by
    rw [List.find?_eq_none]
    intro p hp
    simpa using ha p hp
  rw [e]
  simp
theorem find_no {s : List UInt8} (h : noM s PL) : opP s = none := by
  unfold opP
  have e : PL.find? (fun p => decide (p.2 = s)) = none := by
    rw [List.find?_eq_none]
    intro p hp
    simpa using h p hp
  rw [e]
  rfl
theorem op_hit {s : List UInt8} {k j : Nat} {r : Int × List UInt8 × List UInt8} {x : List UInt8} (hr : RL[k]? = some r) (hk : noM s ((RL.take k).flatMap pairsR)) (hj : ∀ y ∈ (cutW r.2.2 []).take j, r.2.1 ++ y ≠ s) (hx : (cutW r.2.2 [])[j]? = some x) (he : r.2.1 ++ x = s) : opP s = some (r.1 + j) := by
  obtain ⟨h', hg⟩ := List.getElem?_eq_some_iff.1 hr
  obtain ⟨b, hb⟩ := pairs_split r.2.1 (cutW r.2.2 []) j r.1 x hx
  have e : PL = ((RL.take k).flatMap pairsR ++ pairsF r.1 r.2.1 ((cutW r.2.2 []).take j)) ++ (r.1 + j, s) :: (b ++ (RL.drop (k + 1)).flatMap pairsR) := by
    rw [PL_is]
    conv => lhs; rw [← List.take_append_drop k RL, List.drop_eq_getElem_cons h', hg, List.flatMap_append, List.flatMap_cons]
    rw [show pairsR r = pairsF r.1 r.2.1 (cutW r.2.2 []) from rfl, hb, he]
    simp
  refine find_hit e (hk.app ?_)
  intro p hp
  obtain ⟨y, hy, e⟩ := pairs_mem _ _ _ _ hp
  rw [e]
  exact hj y hy
theorem op_next {s : List UInt8} {k : Nat} {r : Int × List UInt8 × List UInt8} (hr : RL[k]? = some r) (hk : noM s ((RL.take k).flatMap pairsR)) (hj : ∀ y ∈ cutW r.2.2 [], r.2.1 ++ y ≠ s) : noM s ((RL.take (k + 1)).flatMap pairsR) := by
  rw [RL_take hr, List.flatMap_append, List.flatMap_cons, List.flatMap_nil, List.append_nil]
  refine hk.app ?_
  intro p hp
  obtain ⟨y, hy, e⟩ := pairs_mem _ _ _ _ hp
  rw [e]
  exact hj y hy
def opV (o : Option Int) : Value := match o with
  | some n => .tuple #[.int .i64 n, .int .i64 0]
  | none => .tuple #[.int .i64 0, .int .i64 6]
set_option maxRecDepth 100000 in
set_option maxHeartbeats 4000000 in
theorem op_any (s : List UInt8) (hl : s.length ≤ 9223372036854775807) (w : World) :
    Calls Try.prog 9 #[.string (BA s)] w fun e w' => e = .returned (opV (opP s)) ∧ Grew w w' := by
  obtain ⟨S, hS⟩ : ∃ S, BA s = S := ⟨_, rfl⟩
  have CP : Hid (∀ (p : List UInt8) (W : World), p.length ≤ 1000 → Calls Try.prog 20 #[.string S, .string (BA p)] W fun e w' => w' = W ∧ ((∃ x, s = p ++ x ∧ e = .returned (.tuple #[.string (BA x), .bool true])) ∨ ((∀ x, s ≠ p ++ x) ∧ ∃ y, e = .returned (.tuple #[.string (BA y), .bool false])))) := by
    intro p W hp
    rw [← hS]
    exact cutPre_any s p hl hp W
  rw [hS]
  clear hS hl
  go_enter Try.func9, Try.ntmps9
  go_wp2_with fail
  refine (runs_any _).mono ?_
  rintro e w1 ⟨rfl, hw1⟩
  have O0 : Hid (w1.heap[w.heap.size]? = some (.cells RUNS 33 (0, 0))) := by rw [hw1]; exact heap_alloc_last w _
  have G1 : Hid (Grew w w1) := by rw [hw1]; exact (Grew.refl w).alloc _
  clear hw1
  go_wp2_with fail
  go_loopw [12] (fun i wx => ∃ k : Nat, k ≤ 30 ∧ i = .int .i64 k ∧ noM s ((RL.take k).flatMap pairsR) ∧ wx.heap[w.heap.size]? = some (.cells RUNS 33 (0, 0)) ∧ Grew w wx) (fun i _ => 30 - (intOf i).toNat)
  case atStart => exact ⟨0, by omega, rfl, (fun p hp => by simp at hp), O0.out, G1.out⟩
  case round =>
    obtain ⟨k, hk, rfl, pm, p1, pg⟩ := hrel
    have PM : Hid (noM s ((RL.take k).flatMap pairsR)) := pm
    have P1 : Hid _ := p1
    have PG : Hid (Grew w wr) := pg
    clear O0 G1 pm pg
    by_cases hlt : k < 30
    · obtain ⟨r, hr⟩ := RL_ex hlt
      obtain ⟨q0, q1, q2⟩ := runs_cell p1 hr
      have HR : Hid (RL[k]? = some r) := hr
      obtain ⟨f1, f2, f3, f4, f5, f6, f7⟩ := RL_ok hr
      have CC : Hid (∀ W, Calls Try.prog 15 #[.string (BA r.2.2)] W fun e w' => ∃ v, e = .returned v ∧ w'.ownsRow W.heap.size 9 1 v (cutW r.2.2 []).length ((cutW r.2.2 []).map ST) ∧ Grew W w') := fun W => cut_any r.2.2 f3 (by omega) W
      have hs0 : w.heap.size < wr.heap.size := lt_of_obj p1
      clear p1 hr f3 f4 f6
      go_wp2_with fail
      refine (CP.out r.2.1 _ f5).mono ?_
      rintro en w2 ⟨rfl, ⟨x, hx, rfl⟩ | ⟨hx, y, rfl⟩⟩
      · have HX : Hid (s = r.2.1 ++ x) := hx
        clear hx
        go_wp2_with fail
        refine (CC.out _).mono ?_
        rintro en w3 ⟨v, rfl, hv, g3⟩
        obtain ⟨va, vc, rfl⟩ := row_one hv
        have K3 : Hid (w3.heap[wr.heap.size]? = some (.cells #[.int .i64 r.1, .string (BA r.2.1), .string (BA r.2.2)] 33 (0, 0))) := (g3.turn []).other (heap_alloc_last _ _) (by simp)
        have G3 : Hid (Grew w w3) := (PG.out.alloc _).trans g3
        have B3 : Hid (w3.heap[w.heap.size]? = some (.cells RUNS 33 (0, 0))) := (g3.turn []).other (heap_alloc P1.out _) (by simp)
        have V3 : Hid (w3.ownsRow 0 9 1 (.slice va (cutW r.2.2 []).length vc) (cutW r.2.2 []).length ((cutW r.2.2 []).map ST)) := row_low hv (Nat.zero_le _)
        have y0 := cell_of K3.out 0
        simp at y0
        obtain ⟨L, hL⟩ : ∃ L, cutW r.2.2 [] = L := ⟨_, rfl⟩
        have HL : Hid (cutW r.2.2 [] = L) := hL
        rw [hL] at V3 f7 ⊢
        clear hL hv g3 CC P1 PG K3
        go_wp2_with fail
        generalize wr.heap.size = rb at *
        go_loop [29] (fun i => ∃ j : Nat, j ≤ L.length ∧ i = .int .i64 j ∧ ∀ y ∈ L.take j, r.2.1 ++ y ≠ s) (fun i => L.length - (intOf i).toNat)
        case atStart => exact ⟨0, by omega, rfl, by simp⟩
        case round =>
          obtain ⟨j, hj, rfl, hno⟩ := hrel
          have HNO : Hid (∀ y ∈ L.take j, r.2.1 ++ y ≠ s) := hno
          clear hno
          by_cases hlt2 : j < L.length
          · obtain ⟨g, c, hv, hc1, hc2, hg⟩ := row_at V3.out (by omega)
            injection hv with e1 e2 e3
            subst e1
            subst e3
            have q5 := V3.out.cellAt j (by omega)
            rw [List.getElem?_map, List.getElem?_eq_getElem hlt2] at q5
            have HJ : Hid (L[j]? = some L[j]) := List.getElem?_eq_getElem hlt2
            obtain ⟨X, hX⟩ : ∃ X, L[j] = X := ⟨_, rfl⟩
            rw [hX] at q5 HJ
            simp only [Option.map_some, ST] at q5
            have hadd : IntKind.i64.wrap (r.1 + (j : Int)) = r.1 + (j : Int) := wrap_id (by omega) (by omega)
            have d1 : decide ((j : Int) < L.length) = true := by simp; omega
            have heq := BA_eq X x
            clear hX
            by_cases hm : X = x
            · have hd : ((BA X).toList == (BA x).toList) = true := by rw [heq]; simp [hm]
              clear heq
              go_wp2_with fail
              go_ret2
              have e := op_hit HR.out PM.out (j := j) (x := X) (by rw [HL.out]; exact HNO.out) (by rw [HL.out]; exact HJ.out) (by rw [hm, ← HX.out])
              rw [e]
              exact ⟨rfl, G3.out⟩
            · have hd : ((BA X).toList == (BA x).toList) = false := by rw [heq]; simp [hm]
              clear heq
              go_wp2_with fail
              go_round
              case rel =>
                refine ⟨j + 1, by omega, by go_num, fun y hy => ?_⟩
                obtain ⟨h', he⟩ := List.getElem?_eq_some_iff.1 HJ.out
                rw [List.take_succ_eq_append_getElem h', he] at hy
                rcases List.mem_append.1 hy with hy | hy
                · exact HNO.out y hy
                · simp at hy
                  subst hy
                  intro hh
                  rw [HX.out] at hh
                  exact hm (List.append_cancel_left hh)
              case measure => simp [intOf]; omega
          · obtain rfl : j = L.length := by omega
            have d1 : decide ((L.length : Int) < L.length) = false := by simp
            go_wp2_with fail
            go_roundw
            case rel =>
              refine ⟨k + 1, by omega, by go_num, op_next HR.out PM.out (by rw [HL.out]; have := HNO.out; rwa [List.take_length] at this), B3.out, G3.out⟩
            case measure => simp [intOf]; omega
      · have HX : Hid (∀ x, s ≠ r.2.1 ++ x) := hx
        clear hx
        go_wp2_with fail
        go_roundw
        case rel => exact ⟨k + 1, by omega, by go_num, op_next HR.out PM.out (fun y _ h => HX.out y h.symm), heap_alloc P1.out _, PG.out.alloc _⟩
        case measure => simp [intOf]; omega
    · have hk30 : k = 30 := by omega
      have HN : Hid (opP s = none) := by
        refine find_no ?_
        have := PM.out
        rw [hk30, show RL.take 30 = RL by rw [← RL_len, List.take_length]] at this
        exact this
      clear p1
      go_wp2_with fail
      go_ret2
      rw [HN.out]
      exact ⟨rfl, PG.out⟩
end Go.Proofs.Ytjfiggkjdbnjeaa
