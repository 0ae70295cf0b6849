/-
  Plain mathematics: types and groups that are read are written in at most as many bytes, and read back between any bytes; nothing of the program.
-/
import Derived.Test.YtbhbogfdnaadeaaDoorLeN
namespace Go.Proofs.YtbhbogfdnaadeaaDoor
set_option linter.unusedVariables false
set_option linter.unusedSimpArgs false

theorem mean_out {c : Int} (h : c < 94 ∨ 127 < c) : mean c = (0, 0) := by
  unfold mean codeL
  iterate 24 rw [findC, if_neg (by simp only; omega)]
  rfl
theorem in_range {c : Int} (h : ¬ (c < 94 ∨ 127 < c)) : ∃ k : _root_.Fin 34, c = 94 + (k.val : Int) := ⟨⟨(c - 94).toNat, by omega⟩, by simp only; omega⟩
theorem code_of1 : ∀ k : _root_.Fin 34, (mean (94 + (k.val : Int))).1 = 1 → codeW 1 (mean (94 + (k.val : Int))).2 = some (94 + (k.val : Int)) ∧ 1 ≤ (mean (94 + (k.val : Int))).2 ∧ (mean (94 + (k.val : Int))).2 ≤ 4 := by decide +kernel
theorem code_of3 : ∀ k : _root_.Fin 34, (mean (94 + (k.val : Int))).1 = 3 → codeW 3 (mean (94 + (k.val : Int))).2 = some (94 + (k.val : Int)) ∧ ((mean (94 + (k.val : Int))).2 = 6 ∨ (mean (94 + (k.val : Int))).2 = 7) := by decide +kernel
theorem code_of4 : ∀ k : _root_.Fin 34, (mean (94 + (k.val : Int))).1 = 4 → codeW 4 (mean (94 + (k.val : Int))).2 = some (94 + (k.val : Int)) ∧ (mean (94 + (k.val : Int))).2 < 0 := by decide +kernel
theorem code_of5 : ∀ k : _root_.Fin 34, (mean (94 + (k.val : Int))).1 = 5 → (mean (94 + (k.val : Int))).2 = 0 ∨ (mean (94 + (k.val : Int))).2 = 1 := by decide +kernel
theorem code_of6 : ∀ k : _root_.Fin 34, (mean (94 + (k.val : Int))).1 = 6 → (mean (94 + (k.val : Int))).2 = 1 ∨ (mean (94 + (k.val : Int))).2 = 2 ∨ (mean (94 + (k.val : Int))).2 = 3 := by decide +kernel
theorem kind_in {c : Int} {k : Int} (hk : k ≠ 0) (h : (mean c).1 = k) : ∃ j : _root_.Fin 34, c = 94 + (j.val : Int) := by
  refine in_range fun ho => ?_
  rw [mean_out ho] at h
  exact hk h.symm
theorem code1 {c : Int} (h : (mean c).1 = 1) : codeR 1 (mean c).2 = .ok [c] ∧ 1 ≤ (mean c).2 ∧ (mean c).2 ≤ 4 := by
  obtain ⟨j, rfl⟩ := kind_in (by decide) h
  obtain ⟨h1, h2⟩ := code_of1 j h
  exact ⟨by unfold codeR; rw [h1], h2⟩
theorem code3 {c : Int} (h : (mean c).1 = 3) : codeR 3 (mean c).2 = .ok [c] ∧ ((mean c).2 = 6 ∨ (mean c).2 = 7) := by
  obtain ⟨j, rfl⟩ := kind_in (by decide) h
  obtain ⟨h1, h2⟩ := code_of3 j h
  exact ⟨by unfold codeR; rw [h1], h2⟩
theorem code4 {c : Int} (h : (mean c).1 = 4) : codeR 4 (mean c).2 = .ok [c] ∧ (mean c).2 < 0 := by
  obtain ⟨j, rfl⟩ := kind_in (by decide) h
  obtain ⟨h1, h2⟩ := code_of4 j h
  exact ⟨by unfold codeR; rw [h1], h2⟩
theorem code5 {c : Int} (h : (mean c).1 = 5) : (mean c).2 = 0 ∨ (mean c).2 = 1 := by
  obtain ⟨j, rfl⟩ := kind_in (by decide) h
  exact code_of5 j h
theorem code6 {c : Int} (h : (mean c).1 = 6) : (mean c).2 = 1 ∨ (mean c).2 = 2 ∨ (mean c).2 = 3 := by
  obtain ⟨j, rfl⟩ := kind_in (by decide) h
  exact code_of6 j h

/- What is read is written, in at most as many bytes, opening with a byte of P, and read back between any bytes. -/
def Wd {α : Type} (P : Int → Prop) (rd : List Int → Nat → RS α) (wr : α → Except Nat (List Int)) (a : α) (len : Nat) : Prop :=
  ∃ (c : Int) (r : List Int), wr a = .ok (c :: r) ∧ P c ∧ r.length + 1 ≤ len ∧ By (c :: r) ∧ Bk rd a (c :: r)
def Ls {α : Type} (P : Int → Prop) (rd : List Int → Nat → RS α) (wr : α → Except Nat (List Int)) : Prop := ∀ (l : List Int) (p : Nat) (a : α) (q : Nat), p ≤ l.length → By l → rd l p = .ok (a, q) → Wd P rd wr a (q - p)
theorem at_byte {α : Type} {l : List Int} {p : Nat} {k : Int → RS α} {x : α × Nat} (h : atR l p k = .ok x) : p < l.length ∧ k (l.getD p 0) = .ok x := by
  unfold atR at h
  split at h
  · exact ⟨by assumption, h⟩
  · cases h
theorem at_mid {α : Type} (pre r : List Int) (c : Int) (k : Int → RS α) : atR (pre ++ (c :: r)) pre.length k = k c := by
  unfold atR
  rw [if_pos (by simp)]
  congr 1
  simp [List.getD]
theorem By.get {l : List Int} (h : By l) {p : Nat} (hp : p < l.length) : 0 ≤ l.getD p 0 ∧ l.getD p 0 ≤ 255 := by
  have : l.getD p 0 = l[p] := by simp [List.getD, hp]
  rw [this]
  exact h _ (List.getElem_mem hp)
theorem lim_ok {p : Nat} {m : Int} {r : RS Int} {n : Int} {q : Nat} (h : limR p m r = .ok (n, q)) : r = .ok (n, q) ∧ n ≤ m := by
  cases r with
  | error e => cases h
  | ok x =>
    obtain ⟨a, b⟩ := x
    simp only [limR] at h
    split at h
    · cases h
    · simp only [Except.ok.injEq, Prod.mk.injEq] at h
      obtain ⟨rfl, rfl⟩ := h
      exact ⟨rfl, by omega⟩
theorem num32_lo {l : List Int} {p q : Nat} {n : Int} (hp : p ≤ l.length) (h : numR 32 false l p = .ok (n, q)) : 0 ≤ n := by
  obtain ⟨k, hs, rfl⟩ := num_ok hp h
  obtain ⟨V, k', hq, h1, h2, hV, hV2, hn⟩ := scan_val _ (fun c hc => okB_lt hc) _ _ 0 0 n k (by omega) (Int.le_refl 0) (by decide) hs
  simp [ws] at hn
  omega
/- Type numbers. -/
theorem PU_cons (n : Int) : ∃ c r, PU n = c :: r := by
  have := PU_ne n
  cases h : PU n with
  | nil => rw [h] at this; simp at this
  | cons c r => exact ⟨c, r, rfl⟩
theorem tyU_ls : Ls (fun _ => True) tyU uidxW := by
  intro l p n q hp hl h
  obtain ⟨h1, h2⟩ := lim_ok h
  have h0 := num32_lo hp h1
  have hk := num32_least hp h1 h0
  obtain ⟨c, r, hc⟩ := PU_cons n
  refine ⟨c, r, by rw [uidxW, if_pos ⟨h0, h2⟩, hc], trivial, by rw [hc] at hk; simp at hk; omega, by rw [← hc]; exact PU_by h0 (by omega), ?_⟩
  intro pre post
  rw [← hc, tyU, num32_back h0 (by omega) pre post]
  rw [limR, if_neg (by omega)]
theorem tyS_ok {l : List Int} {p q : Nat} {n : Int} (h : tyS l p = .ok (n, q)) : ∃ N, numR 33 true l p = .ok (N, q) ∧ n = sg64 N ∧ 0 ≤ n ∧ n ≤ 2147483647 := by
  unfold tyS at h
  cases hx : numR 33 true l p with
  | error e => rw [hx] at h; cases h
  | ok x =>
    obtain ⟨N, q'⟩ := x
    rw [hx] at h
    simp only at h
    split at h
    · cases h
    · split at h
      · cases h
      · simp only [Except.ok.injEq, Prod.mk.injEq] at h
        obtain ⟨rfl, rfl⟩ := h
        exact ⟨N, rfl, rfl, by omega, by omega⟩
theorem tyS_back {n : Int} (h0 : 0 ≤ n) (h1 : n ≤ 2147483647) : Bk tyS n (PS n) := by
  intro pre post
  rw [tyS, num33_back h0 h1 pre post]
  have e : sg64 n = n := by unfold sg64; omega
  simp only [e]
  rw [if_neg (by omega), if_neg (by omega)]
theorem tyS_ls : Ls (fun c => c < 64 ∨ 128 ≤ c) tyS sidxW := by
  intro l p n q hp hl h
  obtain ⟨N, h1, rfl, h0, h2⟩ := tyS_ok h
  have hk := num33_least hp h1 h0 h2
  obtain ⟨c, r, hc, _, hc2⟩ := PS_head (sg64 N) h0
  refine ⟨c, r, by rw [sidxW, if_pos ⟨h0, h2⟩, hc], hc2, by rw [hc] at hk; simp at hk; omega, by rw [← hc]; exact PS_by _, ?_⟩
  rw [← hc]
  exact tyS_back h0 h2
theorem mean_big {c : Int} (h : c < 64 ∨ 128 ≤ c) : mean c = (0, 0) := mean_out (by omega)
theorem heap_ls : Ls (fun c => (mean c).1 = 4 ∨ (mean c).1 = 0) heapR heapW := by
  intro l p n q hp hl h
  obtain ⟨hlt, h⟩ := at_byte h
  split at h
  · rename_i h4
    obtain ⟨hc, hn⟩ := code4 h4
    simp only [Except.ok.injEq, Prod.mk.injEq] at h
    obtain ⟨rfl, rfl⟩ := h
    refine ⟨l.getD p 0, [], by rw [heapW, if_neg (by omega), hc], Or.inl h4, by simp, By.one (hl.get hlt), fun pre post => ?_⟩
    rw [List.cons_append, heapR, at_mid, if_pos h4]
    simp
  · obtain ⟨c, r, h1, h2, h3, h4, h5⟩ := tyS_ls l p n q hp hl h
    obtain ⟨N, _, _, hn0, _⟩ := tyS_ok h
    refine ⟨c, r, by rw [heapW, if_pos hn0, h1], Or.inr (by rw [mean_big h2]), h3, h4, fun pre post => ?_⟩
    have := h5 pre post
    rw [List.cons_append] at this ⊢
    rw [heapR, at_mid, if_neg (by rw [mean_big h2]; simp), this]
theorem ref_ls : Ls (fun c => (mean c).1 = 4 ∨ (mean c).1 = 5) refR refW := by
  intro l p n q hp hl h
  obtain ⟨hlt, h⟩ := at_byte h
  split at h
  · rename_i h4
    obtain ⟨hc, hn⟩ := code4 h4
    simp only [Except.ok.injEq, Prod.mk.injEq] at h
    obtain ⟨rfl, rfl⟩ := h
    refine ⟨l.getD p 0, [], ?_, Or.inl h4, by simp, By.one (hl.get hlt), fun pre post => ?_⟩
    · rw [refW, if_pos rfl, if_neg (by simp), if_neg (by simp only; omega), heapW, if_neg (by simp only; omega)]
      simp only [hc, thenW, List.nil_append]
    · rw [List.cons_append, refR, at_mid, if_pos h4]
      simp
  · rename_i h4
    split at h
    · rename_i h5
      obtain ⟨v, hv, rfl⟩ := mapR_ok h
      obtain ⟨c, r, h1, h2, h3, hby, hbk⟩ := heap_ls l (p + 1) v q (by omega) hl hv
      have hq := (heap_adv l (p + 1) (by omega)).1 v q hv
      have hbk' : ∀ (x : Int) (pre post : List Int), heapR (pre ++ (x :: (c :: (r ++ post)))) (pre.length + 1) = .ok (v, pre.length + 1 + (r.length + 1)) := by
        intro x pre post
        have := hbk (pre ++ [x]) post
        simpa using this
      by_cases hnull : (mean (l.getD p 0)).2 = 1
      · rw [show decide ((mean (l.getD p 0)).2 = 1) = true from decide_eq_true hnull]
        by_cases hv0 : 0 ≤ v
        · refine ⟨99, c :: r, ?_, Or.inr (by decide), by simp; omega, By.app (By.one (by omega)) hby, fun pre post => ?_⟩
          · rw [refW, if_pos rfl, if_neg (by simp), if_pos hv0]
            simp only [h1, thenW]
            rfl
          · rw [List.cons_append, refR, at_mid, if_neg (by decide), if_pos (by decide)]
            rw [List.cons_append, hbk' 99 pre post]
            simp only [mapR, List.length_cons]
            rw [show decide ((mean 99).2 = 1) = true from by decide +kernel, Nat.add_assoc, Nat.add_comm 1]
        · -- an abstract heap type: by its byte alone
          have hw : heapW v = codeR 4 v := by rw [heapW, if_neg hv0]
          have h4c : (mean c).1 = 4 ∧ v = (mean c).2 ∧ r = [] := by
            have hb := hbk [] []
            simp only [List.nil_append, List.append_nil, List.length_nil, Nat.zero_add, List.length_cons] at hb
            have hb' : atR ([] ++ (c :: r)) ([] : List Int).length (fun c' => if (mean c').1 = 4 then .ok ((mean c').2, 0 + 1) else tyS (c :: r) 0) = .ok (v, r.length + 1) := hb
            rw [at_mid] at hb'
            split at hb'
            · rename_i h4'
              simp only [Except.ok.injEq, Prod.mk.injEq] at hb'
              refine ⟨h4', hb'.1.symm, List.eq_nil_of_length_eq_zero (by omega)⟩
            · obtain ⟨N, _, _, hn0, _⟩ := tyS_ok hb'
              omega
          obtain ⟨h4m, hvm, rfl⟩ := h4c
          refine ⟨c, [], ?_, Or.inl h4m, by simp; omega, hby, fun pre post => ?_⟩
          · rw [refW, if_pos rfl, if_neg (by simp), if_neg hv0]
            simp only [h1, thenW, List.nil_append]
          · rw [List.cons_append, refR, at_mid, if_pos h4m]
            simp [hvm]
      · have hz : (mean (l.getD p 0)).2 = 0 := by rcases code5 h5 with h | h <;> omega
        rw [show decide ((mean (l.getD p 0)).2 = 1) = false from decide_eq_false hnull]
        refine ⟨100, c :: r, ?_, Or.inr (by decide), by simp; omega, By.app (By.one (by omega)) hby, fun pre post => ?_⟩
        · rw [refW, if_pos rfl, if_pos rfl]
          simp only [h1, thenW]
          rfl
        · rw [List.cons_append, refR, at_mid, if_neg (by decide), if_pos (by decide)]
          rw [List.cons_append, hbk' 100 pre post]
          simp only [mapR, List.length_cons]
          rw [show decide ((mean 100).2 = 1) = false from by decide +kernel, Nat.add_assoc, Nat.add_comm 1]
    · cases h
theorem val_ls : Ls (fun c => (mean c).1 = 1 ∨ (mean c).1 = 4 ∨ (mean c).1 = 5) valR valW := by
  intro l p n q hp hl h
  obtain ⟨hlt, h⟩ := at_byte h
  split at h
  · cases h
  · split at h
    · rename_i h1
      obtain ⟨hc, hn⟩ := code1 h1
      simp only [Except.ok.injEq, Prod.mk.injEq] at h
      obtain ⟨rfl, rfl⟩ := h
      refine ⟨l.getD p 0, [], ?_, Or.inl h1, by simp, By.one (hl.get hlt), fun pre post => ?_⟩
      · rw [valW, if_neg (by simp only; omega), plainW, if_pos (by simp)]
        exact hc
      · rw [List.cons_append, valR, at_mid, if_neg (by omega), if_pos h1]
        simp
    · obtain ⟨c, r, h1, h2, h3, h4, h5⟩ := ref_ls l p n q hp hl h
      have h5n : n.num = 5 := by
        cases hn : decide (n.num = 5) with
        | true => simpa using hn
        | false => simp at hn; rw [refW, if_neg hn] at h1; cases h1
      refine ⟨c, r, by rw [valW, if_pos h5n, h1], Or.inr h2, h3, h4, fun pre post => ?_⟩
      have := h5 pre post
      rw [List.cons_append] at this ⊢
      rw [valR, at_mid, if_neg (by omega), if_neg (by omega), this]
theorem val_num {l : List Int} {p q : Nat} {v : VT} (hp : p ≤ l.length) (hl : By l) (h : valR l p = .ok (v, q)) : ¬ (v.num = 6 ∨ v.num = 7) := by
  obtain ⟨c, r, h1, _⟩ := val_ls l p v q hp hl h
  intro hn
  rw [valW, if_neg (by omega), plainW] at h1
  split at h1
  · rcases hn with hn | hn <;> rw [hn] at h1 <;> simp [codeR, codeW, codeL, findW] at h1
  · cases h1
theorem stor_ls : Ls (fun c => (mean c).1 = 3 ∨ (mean c).1 = 1 ∨ (mean c).1 = 4 ∨ (mean c).1 = 5) storR storW := by
  intro l p n q hp hl h
  obtain ⟨hlt, h⟩ := at_byte h
  split at h
  · rename_i h1
    obtain ⟨hc, hn⟩ := code3 h1
    simp only [Except.ok.injEq, Prod.mk.injEq] at h
    obtain ⟨rfl, rfl⟩ := h
    refine ⟨l.getD p 0, [], ?_, Or.inl h1, by simp, By.one (hl.get hlt), fun pre post => ?_⟩
    · rw [storW, if_pos hn, plainW, if_pos (by simp)]
      exact hc
    · rw [List.cons_append, storR, at_mid, if_pos h1]
      simp
  · obtain ⟨c, r, h1, h2, h3, h4, h5⟩ := val_ls l p n q hp hl h
    refine ⟨c, r, by rw [storW, if_neg (val_num hp hl h), h1], Or.inr h2, h3, h4, fun pre post => ?_⟩
    have := h5 pre post
    rw [List.cons_append] at this ⊢
    rw [storR, at_mid, if_neg (by omega), this]
theorem flag_back (x : Bool) : Bk flagR x (flagB x) := by
  intro pre post
  rw [flagB, List.cons_append, flagR, belowR, at_mid]
  cases x <;> simp [mapR]
theorem field_ls : Ls (fun _ => True) fieldR fieldW := by
  intro l p f q hp hl h
  unfold fieldR at h
  cases hs : storR l p with
  | error e => rw [hs] at h; cases h
  | ok x =>
    obtain ⟨v, q1⟩ := x
    rw [hs] at h
    simp only [thenR] at h
    obtain ⟨m, hm, rfl⟩ := mapR_ok h
    have a1 := (stor_adv l p hp).1 v q1 hs
    have a2 := (flag_adv l q1 a1.2).1 m q hm
    obtain ⟨c, r, h1, h2, h3, h4, h5⟩ := stor_ls l p v q1 hp hl hs
    refine ⟨c, r ++ flagB m, ?_, trivial, by simp [flagB]; omega, ?_, fun pre post => ?_⟩
    · rw [fieldW, h1]; rfl
    · rw [← List.cons_append]; exact By.app h4 (by unfold flagB; split <;> exact By.one (by omega))
    · have e1 := h5 pre (flagB m ++ post)
      have e2 := flag_back m (pre ++ (c :: r)) post
      have el : pre ++ (c :: (r ++ flagB m) ++ post) = pre ++ (c :: r ++ (flagB m ++ post)) := by simp
      have el2 : pre ++ (c :: r) ++ (flagB m ++ post) = pre ++ (c :: r ++ (flagB m ++ post)) := by simp
      rw [el2] at e2
      rw [fieldR, el, e1]
      simp only [thenR]
      have e3 : pre.length + (c :: r).length = (pre ++ (c :: r)).length := by simp
      rw [e3, e2]
      simp [mapR, flagB]
      omega
/- So many, one behind another. -/
theorem many_ls {α : Type} {P : Int → Prop} {rd : List Int → Nat → RS α} {wr : α → Except Nat (List Int)} (H : Ls P rd wr) (l : List Int) (hA : Adv l (rd l)) (hl : By l) :
    ∀ (n : Nat) (acc : List α) (p : Nat) (xs : List α) (q : Nat), p ≤ l.length → manyR (rd l) n acc p = .ok (xs, q) →
      ∃ ys m, xs = acc ++ ys ∧ ys.length = n ∧ manyW wr ys = .ok m ∧ p + m.length ≤ q ∧ By m ∧
        ∀ pre post acc', manyR (rd (pre ++ (m ++ post))) n acc' pre.length = .ok (acc' ++ ys, pre.length + m.length)
  | 0, acc, p, xs, q, hp, h => by
    simp only [manyR, Except.ok.injEq, Prod.mk.injEq] at h
    obtain ⟨rfl, rfl⟩ := h
    exact ⟨[], [], by simp, rfl, rfl, by simp, (by intro c hc; cases hc), fun pre post acc' => by simp [manyR]⟩
  | n + 1, acc, p, xs, q, hp, h => by
    rw [manyR] at h
    cases hx : rd l p with
    | error e => rw [hx] at h; cases h
    | ok y =>
      obtain ⟨a, q1⟩ := y
      rw [hx] at h
      simp only [thenR] at h
      have a1 := (hA p hp).1 a q1 hx
      obtain ⟨c, r, h1, h2, h3, h4, h5⟩ := H l p a q1 hp hl hx
      obtain ⟨ys, m, rfl, hy, hw, hle, hby, hbk⟩ := many_ls H l hA hl n (acc ++ [a]) q1 xs q a1.2 h
      refine ⟨a :: ys, c :: r ++ m, by simp, by simp [hy], ?_, by simp; omega, By.app h4 hby, fun pre post acc' => ?_⟩
      · rw [manyW, h1, hw]; rfl
      · have e1 := h5 pre (m ++ post)
        have e2 := hbk (pre ++ (c :: r)) post (acc' ++ [a])
        have el : pre ++ (c :: r ++ m ++ post) = pre ++ (c :: r ++ (m ++ post)) := by simp
        have el2 : pre ++ (c :: r) ++ (m ++ post) = pre ++ (c :: r ++ (m ++ post)) := by simp
        rw [el2] at e2
        rw [manyR, el, e1]
        simp only [thenR]
        have e3 : pre.length + (c :: r).length = (pre ++ (c :: r)).length := by simp
        rw [e3, e2]
        simp
        omega
theorem list_ls {α : Type} {P : Int → Prop} {rd : List Int → Nat → RS α} {wr : α → Except Nat (List Int)} (H : Ls P rd wr) (hA : ∀ l, Adv l (rd l)) (lim : Nat) (hlim : lim ≤ 100000) :
    Ls (fun _ => True) (fun l p => listR (lim : Int) (rd l) l p) (listW lim wr) := by
  intro l p xs q hp hl h
  simp only [listR] at h
  cases hx : limR p (lim : Int) (numR 32 false l p) with
  | error e => rw [hx] at h; cases h
  | ok y =>
    obtain ⟨n, q1⟩ := y
    rw [hx] at h
    simp only [thenR] at h
    obtain ⟨hn, hnl⟩ := lim_ok hx
    have h0 := num32_lo hp hn
    have hk := num32_least hp hn h0
    have a1 := (num_adv 32 false l p hp).1 n q1 hn
    obtain ⟨ys, m, he, hy, hw, hle, hby, hbk⟩ := many_ls H l (hA l) hl n.toNat [] q1 xs q a1.2 h
    rw [List.nil_append] at he
    subst he
    have hyn : (xs.length : Int) = n := by omega
    obtain ⟨c, r, hc⟩ := PU_cons n
    refine ⟨c, r ++ m, ?_, trivial, by rw [hc] at hk; simp at hk ⊢; omega, ?_, fun pre post => ?_⟩
    · rw [listW, if_neg (by omega), hyn, hc, hw]; rfl
    · rw [← List.cons_append, ← hc]; exact By.app (PU_by h0 (by omega)) hby
    · have e1 := num32_back h0 (by omega) pre (m ++ post)
      have e2 := hbk (pre ++ PU n) post []
      have el : pre ++ (c :: (r ++ m) ++ post) = pre ++ (PU n ++ (m ++ post)) := by rw [hc]; simp
      have el2 : pre ++ PU n ++ (m ++ post) = pre ++ (PU n ++ (m ++ post)) := by simp
      rw [el2] at e2
      simp only [listR]
      rw [el, e1, limR, if_neg (by omega)]
      simp only [thenR]
      have e3 : pre.length + (PU n).length = (pre ++ PU n).length := by simp
      rw [e3, e2, hc]
      simp
      omega
theorem vals_ls : Ls (fun _ => True) valsR (listW 1000 valW) := list_ls val_ls val_adv 1000 (by omega)
theorem fields_ls : Ls (fun _ => True) (fun l p => listR 10000 (fieldR l) l p) (listW 10000 fieldW) := list_ls field_ls field_adv 10000 (by omega)
theorem sups_ls : Ls (fun _ => True) (fun l p => listR 1000 (tyU l) l p) (listW 1000 uidxW) := list_ls tyU_ls tyU_adv 1000 (by omega)
/- A byte ahead. -/
theorem Bk.after {α : Type} {rd : List Int → Nat → RS α} {a : α} {m : List Int} (h : Bk rd a m) (x : Int) (pre post : List Int) : rd (pre ++ (x :: (m ++ post))) (pre.length + 1) = .ok (a, pre.length + 1 + m.length) := by
  have := h (pre ++ [x]) post
  simpa using this
theorem comp_ls : Ls (fun c => (mean c).1 = 6) compR compW := by
  intro l p t q hp hl h
  obtain ⟨hlt, h⟩ := at_byte h
  split at h
  · cases h
  · rename_i h6
    have h6' : (mean (l.getD p 0)).1 = 6 := by omega
    split at h
    · cases hx : valsR l (p + 1) with
      | error e => rw [hx] at h; cases h
      | ok y =>
        obtain ⟨ps, q1⟩ := y
        rw [hx] at h
        simp only [thenR] at h
        obtain ⟨rs, hr, rfl⟩ := mapR_ok h
        have a1 := (vals_adv l (p + 1) (by omega)).1 ps q1 hx
        have a2 := (vals_adv l q1 a1.2).1 rs q hr
        obtain ⟨c, r, h1, h2, h3, h4, h5⟩ := vals_ls l (p + 1) ps q1 (by omega) hl hx
        obtain ⟨c', r', h1', h2', h3', h4', h5'⟩ := vals_ls l q1 rs q a1.2 hl hr
        refine ⟨96, c :: r ++ c' :: r', ?_, by decide, by simp; omega, By.app (By.one (by omega)) (By.app h4 h4'), fun pre post => ?_⟩
        · rw [compW, if_pos (by simp [wholeC]), if_pos rfl]
          simp only [h1, h1', thenW]
          rfl
        · have e1 := h5.after 96 pre (c' :: r' ++ post)
          have e2 := h5' (pre ++ (96 :: (c :: r))) post
          have el : pre ++ (96 :: (c :: r ++ c' :: r') ++ post) = pre ++ (96 :: (c :: r ++ (c' :: r' ++ post))) := by simp
          have el2 : pre ++ (96 :: (c :: r)) ++ (c' :: r' ++ post) = pre ++ (96 :: (c :: r ++ (c' :: r' ++ post))) := by simp
          rw [el2] at e2
          rw [el, compR, at_mid, if_neg (by decide), if_pos (by decide), e1]
          simp only [thenR]
          have e3 : pre.length + 1 + (c :: r).length = (pre ++ (96 :: (c :: r))).length := by simp; omega
          rw [e3, e2]
          simp [mapR]
          omega
    · rename_i hk1
      split at h
      · obtain ⟨fs, hf, rfl⟩ := mapR_ok h
        have a1 := (list_adv 10000 l (field_adv l) (p + 1) (by omega)).1 fs q hf
        obtain ⟨c, r, h1, h2, h3, h4, h5⟩ := fields_ls l (p + 1) fs q (by omega) hl hf
        refine ⟨95, c :: r, ?_, by decide, by simp; omega, By.app (By.one (by omega)) h4, fun pre post => ?_⟩
        · rw [compW, if_pos (by simp [wholeC]), if_neg (by simp), if_pos rfl]
          simp only [h1, thenW]
          rfl
        · have e1 := h5.after 95 pre post
          rw [List.cons_append, compR, at_mid, if_neg (by decide), if_neg (by decide), if_pos (by decide), e1]
          simp [mapR]
          omega
      · obtain ⟨f, hf, rfl⟩ := mapR_ok h
        have a1 := (field_adv l (p + 1) (by omega)).1 f q hf
        obtain ⟨c, r, h1, h2, h3, h4, h5⟩ := field_ls l (p + 1) f q (by omega) hl hf
        refine ⟨94, c :: r, ?_, by decide, by simp; omega, By.app (By.one (by omega)) h4, fun pre post => ?_⟩
        · rw [compW, if_pos (by simp [wholeC]), if_neg (by simp), if_neg (by simp)]
          simp only [List.headD_cons, h1, thenW]
          rfl
        · have e1 := h5.after 94 pre post
          rw [List.cons_append, compR, at_mid, if_neg (by decide), if_neg (by decide), if_neg (by decide), e1]
          simp [mapR]
          omega
theorem mean79 {c : Int} (h : (mean c).1 = 6) : ¬ (c = 80 ∨ c = 79) ∧ c ≠ 78 := by
  obtain ⟨j, rfl⟩ := kind_in (by decide) h
  have := j.isLt
  omega
theorem sub_ls : Ls (fun c => c ≠ 78) subR subW := by
  intro l p t q hp hl h
  obtain ⟨hlt, h⟩ := at_byte h
  split at h
  · rename_i h78
    cases hx : listR 1000 (tyU l) l (p + 1) with
    | error e => rw [hx] at h; cases h
    | ok y =>
      obtain ⟨ss, q1⟩ := y
      rw [hx] at h
      simp only [thenR] at h
      obtain ⟨x, hr, rfl⟩ := mapR_ok h
      have a1 := (list_adv 1000 l (tyU_adv l) (p + 1) (by omega)).1 ss q1 hx
      have a2 := (comp_adv l q1 a1.2).1 x q hr
      obtain ⟨c, r, h1, h2, h3, h4, h5⟩ := sups_ls l (p + 1) ss q1 (by omega) hl hx
      obtain ⟨c', r', h1', h2', h3', h4', h5'⟩ := comp_ls l q1 x q a1.2 hl hr
      by_cases hs : decide (l.getD p 0 = 79) = false ∨ 0 < ss.length
      · have key : ∀ (k : Int), (k = 80 ∨ k = 79) → (decide (k = 79) = decide (l.getD p 0 = 79)) → Wd (fun c => c ≠ 78) subR subW ⟨decide (l.getD p 0 = 79), ss, x⟩ (q - p) := by
          intro k hk hkd
          refine ⟨k, c :: r ++ c' :: r', ?_, by omega, by simp; omega, By.app (By.one (by omega)) (By.app h4 h4'), fun pre post => ?_⟩
          · rw [subW, if_pos hs, declW]
            simp only [h1, h1', thenW]
            congr 2
            rw [← hkd]
            rcases hk with rfl | rfl <;> simp
          · have e1 := h5.after k pre (c' :: r' ++ post)
            have e2 := h5' (pre ++ (k :: (c :: r))) post
            have el : pre ++ (k :: (c :: r ++ c' :: r') ++ post) = pre ++ (k :: (c :: r ++ (c' :: r' ++ post))) := by simp
            have el2 : pre ++ (k :: (c :: r)) ++ (c' :: r' ++ post) = pre ++ (k :: (c :: r ++ (c' :: r' ++ post))) := by simp
            rw [el2] at e2
            rw [el, subR, at_mid, if_pos hk]
            simp only [e1, thenR]
            have e3 : pre.length + 1 + (c :: r).length = (pre ++ (k :: (c :: r))).length := by simp; omega
            rw [e3, e2]
            simp [mapR]
            refine ⟨by simpa using hkd, by omega⟩
        rcases h78 with e | e
        · exact key 80 (Or.inl rfl) (by rw [e])
        · exact key 79 (Or.inr rfl) (by rw [e])
      · have hd : decide (l.getD p 0 = 79) = true := by
          cases hdd : decide (l.getD p 0 = 79) with
          | true => rfl
          | false => exact absurd (Or.inl hdd) hs
        have hss : ss = [] := List.eq_nil_of_length_eq_zero (by omega)
        subst hss
        refine ⟨c', r', by rw [subW, if_neg hs, h1'], (mean79 h2').2, by omega, h4', fun pre post => ?_⟩
        have := h5' pre post
        rw [List.cons_append] at this ⊢
        rw [subR, at_mid, if_neg (mean79 h2').1, this, hd]
        rfl
  · obtain ⟨x, hr, rfl⟩ := mapR_ok h
    obtain ⟨c', r', h1', h2', h3', h4', h5'⟩ := comp_ls l p x q hp hl hr
    refine ⟨c', r', by rw [subW, if_neg (by simp), h1'], (mean79 h2').2, h3', h4', fun pre post => ?_⟩
    have := h5' pre post
    rw [List.cons_append] at this ⊢
    rw [subR, at_mid, if_neg (mean79 h2').1, this]
    rfl
theorem subs_ls : Ls (fun _ => True) (fun l p => listR 10000 (subR l) l p) (listW 10000 subW) := list_ls sub_ls sub_adv 10000 (by omega)
/- A group that is read and written again. -/
theorem rec_least {l : List Int} {p q : Nat} {g : RT} (hp : p ≤ l.length) (hl : By l) (h : recR l p = .ok (g, q)) :
    ∃ m, recW g = .ok m ∧ p + m.length ≤ q ∧ By m ∧ recR m 0 = .ok (⟨g.types, g.explicit && decide (g.types.length ≠ 1)⟩, m.length) := by
  obtain ⟨hlt, h⟩ := at_byte h
  split at h
  · obtain ⟨ts, hr, rfl⟩ := mapR_ok h
    have a1 := (list_adv 10000 l (sub_adv l) (p + 1) (by omega)).1 ts q hr
    by_cases h1 : ts.length = 1
    · obtain ⟨t, rfl⟩ := List.length_eq_one_iff.1 h1
      have hr' := hr
      simp only [listR] at hr'
      cases hx : limR (p + 1) (10000 : Int) (numR 32 false l (p + 1)) with
      | error e => rw [hx] at hr'; cases hr'
      | ok y =>
        obtain ⟨n, q1⟩ := y
        rw [hx] at hr'
        simp only [thenR] at hr'
        obtain ⟨hn, _⟩ := lim_ok hx
        have a2 := (num_adv 32 false l (p + 1) (by omega)).1 n q1 hn
        obtain ⟨ys, m, he, hy, hw, hle, hby, hbk⟩ := many_ls sub_ls l (sub_adv l) hl n.toNat [] q1 [t] q a2.2 hr'
        simp only [List.nil_append] at he
        subst he
        have hn1 : n.toNat = 1 := by simpa using hy.symm
        rw [hn1] at hr'
        simp only [manyR] at hr'
        cases hz : subR l q1 with
        | error e => rw [hz] at hr'; cases hr'
        | ok z =>
          obtain ⟨t', q2⟩ := z
          rw [hz] at hr'
          simp only [thenR, List.nil_append, Except.ok.injEq, Prod.mk.injEq, List.cons.injEq, and_true] at hr'
          obtain ⟨rfl, rfl⟩ := hr'
          obtain ⟨c, r, k1, k2, k3, k4, k5⟩ := sub_ls l q1 t' q2 a2.2 hl hz
          have a3 := (sub_adv l q1 a2.2).1 t' q2 hz
          refine ⟨c :: r, (if_pos (by simp)).trans k1, by simp; omega, k4, ?_⟩
          have := k5 [] []
          simp only [List.nil_append, List.append_nil, List.length_nil, Nat.zero_add] at this
          have hm : recR (c :: r) 0 = atR ([] ++ (c :: r)) ([] : List Int).length (fun c' => if c' = 78 then mapR (fun ts => ⟨ts, true⟩) (listR 10000 (subR (c :: r)) (c :: r) (0 + 1)) else mapR (fun t => ⟨[t], false⟩) (subR (c :: r) 0)) := rfl
          rw [hm, at_mid, if_neg k2, this]
          simp [mapR]
    · obtain ⟨c, r, k1, k2, k3, k4, k5⟩ := subs_ls l (p + 1) ts q (by omega) hl hr
      refine ⟨78 :: (c :: r), by rw [recW, if_neg h1, k1]; rfl, by simp; omega, By.app (By.one (by omega)) k4, ?_⟩
      have := k5.after 78 [] []
      simp only [List.nil_append, List.append_nil, List.length_nil, Nat.zero_add] at this
      have hm : recR (78 :: c :: r) 0 = atR ([] ++ (78 :: c :: r)) ([] : List Int).length (fun c' => if c' = 78 then mapR (fun ts => ⟨ts, true⟩) (listR 10000 (subR (78 :: c :: r)) (78 :: c :: r) (0 + 1)) else mapR (fun t => ⟨[t], false⟩) (subR (78 :: c :: r) 0)) := rfl
      rw [hm, at_mid, if_pos rfl, Nat.zero_add, this]
      simp [mapR, h1]
      omega
  · obtain ⟨t, hr, rfl⟩ := mapR_ok h
    obtain ⟨c, r, k1, k2, k3, k4, k5⟩ := sub_ls l p t q hp hl hr
    have a3 := (sub_adv l p hp).1 t q hr
    refine ⟨c :: r, (if_pos (by simp)).trans k1, by simp; omega, k4, ?_⟩
    have := k5 [] []
    simp only [List.nil_append, List.append_nil, List.length_nil, Nat.zero_add] at this
    have hm : recR (c :: r) 0 = atR ([] ++ (c :: r)) ([] : List Int).length (fun c' => if c' = 78 then mapR (fun ts => ⟨ts, true⟩) (listR 10000 (subR (c :: r)) (c :: r) (0 + 1)) else mapR (fun t => ⟨[t], false⟩) (subR (c :: r) 0)) := rfl
    rw [hm, at_mid, if_neg k2, this]
    simp [mapR]
end Go.Proofs.YtbhbogfdnaadeaaDoor
