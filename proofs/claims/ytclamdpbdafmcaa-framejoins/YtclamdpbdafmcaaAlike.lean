/-
  Rows of sections that read as such, and the walk of the statements' own alike; no statement is proved here.
-/
import Derived.Test.YtclamdpbdafmcaaSecs
namespace Go.Proofs.Ytclamdpbdafmcaa
open Go.RowKit
set_option linter.unusedVariables false

/- A section that lies from a place on. -/
def SecAt (w : World) (b off : Nat) (s : Sec) : Prop :=
  ∃ a c, w.cell? ⟨b, off, none⟩ = some (.int .i64 s.id) ∧ w.cell? ⟨b, off + 1, none⟩ = some (.string (strOfNums s.name)) ∧ w.cell? ⟨b, off + 2, none⟩ = some (.slice a s.data.length c) ∧ w.cell? ⟨b, off + 3, none⟩ = some (.int .i64 s.at_) ∧
    Reads w (.slice a s.data.length c) s.data
/- The slice value v reads, in w, as these sections. -/
def RdS (w : World) (v : Value) (L : List Sec) : Prop :=
  ∃ a cap, v = .slice a L.length cap ∧ (L = [] ∨ ∃ b off, a = some ⟨b, off, none⟩ ∧ ∀ i s, L[i]? = some s → SecAt w b (off + i * 4) s)
theorem SecAt.drewN {w : World} {b off : Nat} {s : Sec} (h : SecAt w b off s) (n : Nat) : SecAt (w.drewN n) b off s := by
  obtain ⟨a, c, h0, h1, h2, h3, h4⟩ := h
  exact ⟨a, c, h0, h1, h2, h3, h4.drewN n⟩
theorem SecAt.grew {w w' : World} {b off : Nat} {s : Sec} (h : SecAt w b off s) (hg : Grew w w') : SecAt w' b off s := by
  obtain ⟨a, c, h0, h1, h2, h3, h4⟩ := h
  have hb : b < w.heap.size := block_lt_of_cell h0
  refine ⟨a, c, ?_, ?_, ?_, ?_, hg.reads h4⟩
  · rw [hg.1.cell hb]; exact h0
  · rw [hg.1.cell hb]; exact h1
  · rw [hg.1.cell hb]; exact h2
  · rw [hg.1.cell hb]; exact h3
theorem RdS.grew {w w' : World} {v : Value} {L : List Sec} (h : RdS w v L) (hg : Grew w w') : RdS w' v L := by
  obtain ⟨a, cap, hv, h⟩ := h
  refine ⟨a, cap, hv, h.imp_right ?_⟩
  rintro ⟨b, off, ha, hs⟩
  exact ⟨b, off, ha, fun i s hi => (hs i s hi).grew hg⟩
theorem cellsS_get (L : List (Sec × Value)) (i j : Nat) (x : Sec × Value) (hi : L[i]? = some x) (hj : j < 4) : (cellsS L)[i * 4 + j]? = (secC x)[j]? := by
  induction L generalizing i with
  | nil => simp at hi
  | cons y L ih =>
    have hy : (secC y).length = 4 := rfl
    simp only [cellsS, List.flatMap_cons]
    cases i with
    | zero =>
      simp at hi; subst hi
      rw [Nat.zero_mul, Nat.zero_add, List.getElem?_append_left (by omega)]
    | succ i =>
      rw [List.getElem?_append_right (by omega), hy, show (i + 1) * 4 + j - 4 = i * 4 + j from by omega]
      exact ih i (by simpa using hi)
theorem OwnS.rds {base : Nat} {w : World} {v : Value} {L : List (Sec × Value)} (h : OwnS base w v L) (hb : base ≤ w.heap.size) : RdS w v (L.map Prod.fst) := by
  have ho := h.1
  obtain ⟨_, ⟨rfl, h0⟩ | ⟨g, cap, cur, rfl, hge, hh, _⟩⟩ := h.1
  · have hL := List.eq_nil_of_length_eq_zero h0
    subst hL
    exact ⟨none, 0, rfl, Or.inl rfl⟩
  · refine ⟨some ⟨g, 0, none⟩, cap, by rw [List.length_map], Or.inr ⟨g, 0, rfl, fun i s hi => ?_⟩⟩
    rw [List.getElem?_map] at hi
    cases hx : L[i]? with
    | none => rw [hx] at hi; simp at hi
    | some x =>
      rw [hx] at hi
      simp at hi
      subst hi
      have hlt : i < L.length := (List.getElem?_eq_some_iff.1 hx).1
      have hr : Reads w x.2 x.1.data := (show Has base w w x.2 x.1.data from ⟨h.2.1 x (List.mem_of_getElem? hx), Below.refl _ _, hb⟩).reads
      obtain ⟨a, c, hv⟩ := hr.len
      have key : ∀ j, j < 4 → w.cell? ⟨g, i * 4 + j, none⟩ = (secC x)[j]? := fun j hj => by rw [ho.cellAt (i * 4 + j) (by omega), cellsS_get L i j x hx hj]
      have c0 := key 0 (by omega)
      have c1 := key 1 (by omega)
      have c2 := key 2 (by omega)
      have c3 := key 3 (by omega)
      simp [secC] at c0 c1 c2 c3
      rw [hv] at c2 hr
      rw [Nat.zero_add]
      exact ⟨a, c, c0, c1, c2, c3, hr⟩

set_option maxRecDepth 100000 in
set_option maxHeartbeats 4000000 in
theorem alike_true (v1 v2 : Value) (L1 L2 : List Sec) (pl : Bool) (w : World) (h1 : RdS w v1 L1) (h2 : RdS w v2 L2) (hl : L1.length = L2.length) (hlen : L1.length ≤ 4000000000000)
    (he : ∀ (i : Nat) (s t : Sec), L1[i]? = some s → L2[i]? = some t → s.id = t.id ∧ s.name = t.name ∧ s.data = t.data ∧ (pl = true → s.at_ = t.at_)) :
    Calls Try.prog 20 #[v1, v2, .bool pl] w fun e w' => e = .returned (.bool true) ∧ ∃ n, w' = w.drewN n := by
  obtain ⟨a1, k1, rfl, h1⟩ := h1
  obtain ⟨a2, k2, rfl, h2⟩ := h2
  rw [← hl]
  have H1 : Hid (L1 = [] ∨ ∃ b off, a1 = some ⟨b, off, none⟩ ∧ ∀ i s, L1[i]? = some s → SecAt w b (off + i * 4) s) := h1
  have H2 : Hid (L2 = [] ∨ ∃ b off, a2 = some ⟨b, off, none⟩ ∧ ∀ i s, L2[i]? = some s → SecAt w b (off + i * 4) s) := h2
  have HE : Hid (∀ (i : Nat) (s t : Sec), L1[i]? = some s → L2[i]? = some t → s.id = t.id ∧ s.name = t.name ∧ s.data = t.data ∧ (pl = true → s.at_ = t.at_)) := he
  have HL : Hid (L1.length = L2.length) := hl
  clear h1 h2 he hl
  go_enter Try.func20, Try.ntmps20
  go_wp2_with fail
  go_loopw [7] (fun i wr => ∃ (k d : Nat), i = .int .i64 k ∧ k ≤ L1.length ∧ wr = w.drewN d) (fun i _ => L1.length - (intOf i).toNat)
  case atStart => exact ⟨0, 0, rfl, by omega, rfl⟩
  case round =>
    obtain ⟨k, d, rfl, hk, rfl⟩ := hrel
    by_cases hlt : k < L1.length
    · obtain ⟨s, hs⟩ : ∃ s, L1[k]? = some s := ⟨_, List.getElem?_eq_getElem hlt⟩
      obtain ⟨t, ht⟩ : ∃ t, L2[k]? = some t := ⟨_, List.getElem?_eq_getElem (by rw [← HL.out]; exact hlt)⟩
      obtain ⟨e1, e2, e3, e4⟩ := HE.out k s t hs ht
      obtain ⟨b1, o1, rfl, f1⟩ := H1.out.resolve_left (fun h => by rw [h] at hlt; simp at hlt)
      obtain ⟨b2, o2, rfl, f2⟩ := H2.out.resolve_left (fun h => by rw [HL.out, h] at hlt; simp at hlt)
      obtain ⟨ad1, cd1, p0, p1, p2, p3, r1⟩ := f1 k s hs
      obtain ⟨ad2, cd2, q0, q1, q2, q3, r2⟩ := f2 k t ht
      rw [← e1] at q0
      rw [← e2] at q1
      rw [← e3] at q2 r2
      have HS : Hid (∀ n, Calls Try.prog 17 #[.slice ad1 s.data.length cd1, .slice ad2 s.data.length cd2] (w.drewN n) fun e w' => e = .returned (.bool true) ∧ w' = w.drewN n) := fun n => same_true _ _ s.data _ (r1.drewN n) (r2.drewN n)
      clear e1 e2 e3 f1 f2 hs ht r1 r2
      generalize strOfNums s.name = nm1 at *
      generalize s.data.length = dl at *
      generalize s.id = id1 at *
      cases pl with
      | false =>
        clear e4
        go_wp2_with fail
        go_quiet ((go_at_call 17; exact q_same HS.out))
        go_wp2_with fail
        go_roundw
        case rel => exact ⟨k + 1, _, by go_num, by omega, rfl⟩
        case measure => simp [intOf]; omega
      | true =>
        rw [← e4 rfl] at q3
        clear e4
        generalize s.at_ = at1 at *
        go_wp2_with fail
        go_quiet ((go_at_call 17; exact q_same HS.out))
        go_wp2_with fail
        go_roundw
        case rel => exact ⟨k + 1, _, by go_num, by omega, rfl⟩
        case measure => simp [intOf]; omega
    · go_wp2_with fail
      go_ret
      exact ⟨rfl, _, rfl⟩
end Go.Proofs.Ytclamdpbdafmcaa
