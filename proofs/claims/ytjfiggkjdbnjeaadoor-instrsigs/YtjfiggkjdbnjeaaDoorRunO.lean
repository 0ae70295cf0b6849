/-
  The walk of runOf; no statement is proved here.
-/
import Derived.Test.YtjfiggkjdbnjeaaDoorCutW
namespace Go.Proofs.YtjfiggkjdbnjeaaDoor
open Go.RowKit
set_option linter.unusedVariables false
set_option linter.unusedSimpArgs false

theorem lastF_snoc (op : Int) (r : Int × List UInt8 × List UInt8) : ∀ (l : List (Int × List UInt8 × List UInt8)) f, lastF op (l ++ [r]) f = if r.1 ≤ op then r else lastF op l f
  | [], f => rfl
  | a :: l, f => by rw [List.cons_append, lastF, lastF, lastF_snoc op r l]
theorem flat_at {α : Type} (f : α → List Value) (k : Nat) (hf : ∀ a, (f a).length = k) : ∀ (l : List α) (i : Nat) (x : α) (j : Nat), l[i]? = some x → j < k → (l.flatMap f)[i * k + j]? = (f x)[j]? := by
  intro l
  induction l with
  | nil => intro i x j h; simp at h
  | cons a l ih =>
    intro i x j h hj
    rw [List.flatMap_cons]
    cases i with
    | zero =>
      simp only [List.getElem?_cons_zero, Option.some.injEq] at h
      subst h
      rw [Nat.zero_mul, Nat.zero_add, List.getElem?_append_left (by rw [hf]; exact hj)]
    | succ i =>
      rw [List.getElem?_cons_succ] at h
      rw [List.getElem?_append_right (by rw [hf, Nat.succ_mul]; omega), hf, show (i + 1) * k + j - k = i * k + j by rw [Nat.succ_mul]; omega]
      exact ih i x j h hj
theorem RL_len : RL.length = 30 := by decide +kernel
theorem runs_cell {w : World} {b : Nat} (h : w.heap[b]? = some (.cells RUNS 110 (0, 0))) {k : Nat} {r : Int × List UInt8 × List UInt8} (hk : RL[k]? = some r) :
    w.cell? ⟨b, k * 3, none⟩ = some (.int .i64 r.1) ∧ w.cell? ⟨b, k * 3 + 1, none⟩ = some (.string (BA r.2.1)) ∧ w.cell? ⟨b, k * 3 + 2, none⟩ = some (.string (BA r.2.2)) := by
  have h0 := flat_at c3 3 (fun _ => rfl) RL k r 0 hk (by omega)
  have h1 := flat_at c3 3 (fun _ => rfl) RL k r 1 hk (by omega)
  have h2 := flat_at c3 3 (fun _ => rfl) RL k r 2 hk (by omega)
  refine ⟨?_, ?_, ?_⟩ <;> rw [cell_of h, RUNS, List.getElem?_toArray]
  · exact h0
  · exact h1
  · exact h2
theorem set3_obj {w : World} {b : Nat} {x y z : Value} {t : TypeId} {fr : Nat × Nat} (h : w.heap[b]? = some (.cells #[x, y, z] t fr)) (x' y' z' : Value) :
    (((w.setCell ⟨b, 0, none⟩ x').setCell ⟨b, 1, none⟩ y').setCell ⟨b, 2, none⟩ z').heap[b]? = some (.cells #[x', y', z'] t fr) := by
  have h1 := heap_set h 0 x'
  have h2 := heap_set h1 1 y'
  exact heap_set h2 2 z'
theorem set3_other {w : World} {b b' : Nat} {o : Obj} (h : w.heap[b']? = some o) (hb : b' ≠ b) (x y z : Value) :
    (((w.setCell ⟨b, 0, none⟩ x).setCell ⟨b, 1, none⟩ y).setCell ⟨b, 2, none⟩ z).heap[b']? = some o := heap_other (heap_other (heap_other h hb _) hb _) hb _
def R3 (r : Int × List UInt8 × List UInt8) : Value := .agg #[.int .i64 r.1, .string (BA r.2.1), .string (BA r.2.2)]
set_option maxRecDepth 100000 in
set_option maxHeartbeats 1000000 in
theorem runOf_any (op : Int) (w : World) :
    Calls Tryd.prog 58 #[.int .i64 op] w fun e w' => e = .returned (R3 (lastR op)) ∧ Grew w w' := by
  have HR : Hid (∀ k, k < 30 → ∃ r, RL[k]? = some r) := fun k hk => ⟨RL[k]'(by rw [RL_len]; exact hk), List.getElem?_eq_getElem (by rw [RL_len]; exact hk)⟩
  go_enter Tryd.func58, Tryd.ntmps58
  go_wp2_with fail
  refine (runs_any _).mono ?_
  rintro e w1 ⟨rfl, hw1⟩
  have hsz : w1.heap.size = w.heap.size + 3 := by rw [hw1]; simp
  have O0 : w1.heap[w.heap.size]? = some (.cells #[.int .i64 0, .string ⟨#[]⟩, .string ⟨#[]⟩] 110 (0, 0)) := by
    rw [hw1]
    exact heap_alloc (heap_alloc (heap_alloc_last w _) _) _
  have O1 : w1.heap[w.heap.size + 1]? = some (.cells #[.int .i64 0, .string ⟨#[]⟩, .string ⟨#[]⟩] 110 (0, 0)) := by
    rw [hw1]
    have := heap_alloc_last (w.alloc (.cells #[.int .i64 0, .string ⟨#[]⟩, .string ⟨#[]⟩] 110)) (.cells #[.int .i64 0, .string ⟨#[]⟩, .string ⟨#[]⟩] 110)
    rw [alloc_size] at this
    exact heap_alloc this _
  have O2 : w1.heap[w.heap.size + 2]? = some (.cells RUNS 110 (0, 0)) := by
    rw [hw1]
    have := heap_alloc_last ((w.alloc (.cells #[.int .i64 0, .string ⟨#[]⟩, .string ⟨#[]⟩] 110)).alloc (.cells #[.int .i64 0, .string ⟨#[]⟩, .string ⟨#[]⟩] 110)) (.cells RUNS 110)
    rw [alloc_size, alloc_size] at this
    exact this
  have G1 : Grew w w1 := by rw [hw1]; exact (((Grew.refl w).alloc _).alloc _).alloc _
  clear hw1
  have HG1 : Hid (Grew w w1) := G1
  have H0 : Hid _ := O0
  have H1 : Hid _ := O1
  have H2 : Hid _ := O2
  clear G1 O0 O1 O2
  go_wp2_with fail
  go_loopw [9] (fun i wx => ∃ k : Nat, k ≤ 30 ∧ i = .int .i64 k ∧ wx.heap[w.heap.size]? = some (.cells #[.int .i64 0, .string ⟨#[]⟩, .string ⟨#[]⟩] 110 (0, 0)) ∧
    wx.heap[w.heap.size + 1]? = some (.cells (c3 (lastF op (RL.take k) (0, [], []))).toArray 110 (0, 0)) ∧ wx.heap[w.heap.size + 2]? = some (.cells RUNS 110 (0, 0)) ∧ Grew w wx) (fun i _ => 30 - (intOf i).toNat)
  case atStart => exact ⟨0, by omega, rfl, H0.out, H1.out, H2.out, HG1.out⟩
  case round =>
    obtain ⟨k, hk, rfl, p0, p1, p2, pg⟩ := hrel
    by_cases hlt : k < 30
    · obtain ⟨r, hr⟩ := HR.out k hlt
      obtain ⟨q0, q1, q2⟩ := runs_cell p2 hr
      have hT : Hid (RL.take (k + 1) = RL.take k ++ [r]) := by
        obtain ⟨h', he⟩ := List.getElem?_eq_some_iff.1 hr
        show RL.take (k + 1) = RL.take k ++ [r]
        rw [List.take_succ_eq_append_getElem h', he]
      have P0 : Hid _ := p0
      have P1 : Hid _ := p1
      have P2 : Hid _ := p2
      have PG : Hid (Grew w wr) := pg
      have hs2 : w.heap.size + 2 < wr.heap.size := lt_of_obj p2
      have hs1 : w.heap.size + 1 < wr.heap.size := by omega
      have hn1 : ¬ w.heap.size + 1 = wr.heap.size := by omega
      obtain ⟨f, hf⟩ : ∃ f, lastF op (RL.take k) (0, [], []) = f := ⟨_, rfl⟩
      have HF : Hid (lastF op (RL.take k) (0, [], []) = f) := hf
      rw [hf] at p1 P1
      have z0 := free_of p1 0
      have z1 := free_of p1 1
      have z2 := free_of p1 2
      have y0 := cell_of p1 0
      have y1 := cell_of p1 1
      have y2 := cell_of p1 2
      simp [c3] at y0 y1 y2
      clear hf
      clear p0 p1 p2 pg HR H0 H1 H2 HG1
      by_cases hle : r.1 ≤ op
      · go_wp2_with fail
        go_roundw
        case rel =>
          refine ⟨k + 1, by omega, by go_num, ?_, ?_, ?_, ?_⟩
          · exact heap_alloc (set3_other P0.out (by omega) _ _ _) _
          · rw [hT.out, lastF_snoc, if_pos hle]
            exact heap_alloc (set3_obj P1.out _ _ _) _
          · exact heap_alloc (set3_other P2.out (by omega) _ _ _) _
          · exact (((PG.out.set (p := ⟨w.heap.size + 1, 0, none⟩) (by simp) _).set (p := ⟨w.heap.size + 1, 1, none⟩) (by simp) _).set (p := ⟨w.heap.size + 1, 2, none⟩) (by simp) _).alloc _
        case measure => simp [intOf]; omega
      · go_wp2_with fail
        go_roundw
        case rel =>
          refine ⟨k + 1, by omega, by go_num, heap_alloc P0.out _, ?_, heap_alloc P2.out _, PG.out.alloc _⟩
          rw [hT.out, lastF_snoc, if_neg hle, HF.out]
          exact heap_alloc P1.out _
        case measure => simp [intOf]; omega
    · obtain rfl : k = 30 := by omega
      have e30 : RL.take 30 = RL := by rw [← RL_len, List.take_length]
      rw [e30] at p1
      obtain ⟨f, hf⟩ : ∃ f, lastF op RL (0, [], []) = f := ⟨_, rfl⟩
      have HF : Hid (lastR op = f) := hf
      rw [hf] at p1
      have z0 := free_of p0 0
      have z1 := free_of p0 1
      have z2 := free_of p0 2
      have x0 := cell_of p0 0
      have x1 := cell_of p0 1
      have x2 := cell_of p0 2
      have y0 := cell_of p1 0
      have y1 := cell_of p1 1
      have y2 := cell_of p1 2
      simp [c3] at y0 y1 y2
      simp at x0 x1 x2
      have PG : Hid (Grew w wr) := pg
      have P0 : Hid _ := p0
      clear p0 p1 p2 pg hf e30 HR H0 H1 H2 HG1
      go_wp2_with fail
      rw [HF.out]
      have hobj := set3_obj P0.out (.int .i64 f.1) (.string (BA f.2.1)) (.string (BA f.2.2))
      generalize hW : ((wr.setCell ⟨w.heap.size, 0, none⟩ (.int .i64 f.1)).setCell ⟨w.heap.size, 1, none⟩ (.string (BA f.2.1))).setCell ⟨w.heap.size, 2, none⟩ (.string (BA f.2.2)) = W at *
      have g0 := cell_of hobj 0
      have g1 := cell_of hobj 1
      have g2 := cell_of hobj 2
      simp at g0 g1 g2
      refine bodyPost_ret (v := R3 f) (by simp [results, Tryd.results58, go_sem, g0, g1, g2, R3]) rfl ⟨rfl, ?_⟩
      rw [← hW]
      exact ((PG.out.set (p := ⟨w.heap.size, 0, none⟩) (by simp) _).set (p := ⟨w.heap.size, 1, none⟩) (by simp) _).set (p := ⟨w.heap.size, 2, none⟩) (by simp) _
end Go.Proofs.YtjfiggkjdbnjeaaDoor
