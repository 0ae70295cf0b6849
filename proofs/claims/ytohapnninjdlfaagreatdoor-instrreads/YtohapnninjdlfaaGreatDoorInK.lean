/-
  Instructions read, field by field: the plain readings; no statement is proved here.
-/
import Derived.Test.YtohapnninjdlfaaGreatDoorInT
import Derived.Test.YtohapnninjdlfaaGreatDoorInM
namespace Go.Proofs.YtohapnninjdlfaaGreatDoor
open Go.RowKit
set_option linter.unusedVariables false
set_option linter.unusedSimpArgs false
set_option linter.constructorNameAsVariable false

theorem TieI.pure {α : Type} (y : α) (st : Except (Nat × Nat) Nat) : TieI (runI (fun q => (.ok (y, q) : RS α)) st) y st := by cases st <;> rfl
theorem AnZ.tie {enc : Int → Value} {b : Nat} {v : Value} {l : List Int} {w : World} {r : RS Int} {en : Ending} {w' : World} (h : AnZ enc b v l w r en w') (hb : ∀ x q, r = .ok (x, q) → 0 ≤ x ∧ x ≤ 255) : ∃ y st, en = .returned (enc y) ∧ (0 ≤ y ∧ y ≤ 255) ∧ FinI b v l w w' st ∧ TieI r y st := by
  cases r with
  | ok x => obtain ⟨x, q⟩ := x; exact ⟨x, .ok q, h.1, hb x q rfl, h.2, rfl⟩
  | error x => obtain ⟨f, e⟩ := x; exact ⟨0, .error (f, e), h.1, by omega, h.2, rfl⟩
theorem byteI_bd {l : List Int} (hB : Byt l) {st : Except (Nat × Nat) Nat} : ∀ x q, runI (byteR l) st = .ok (x, q) → 0 ≤ x ∧ x ≤ 255 := by
  intro x q h
  cases st with
  | error e => cases h
  | ok p => have := byteR_bd hB (show byteR l p = .ok (x, q) from h); omega
set_option maxRecDepth 100000 in
set_option maxHeartbeats 2000000 in
theorem ibelow_t {w : World} {b : Nat} {v : Value} {l : List Int} {st : Except (Nat × Nat) Nat} (h : DI w b v l st) (e : Int) :
    Calls Tryz.prog 87 #[.pointer (some ⟨b, 0, none⟩), .int .u8 e] w fun en w' => ∃ y st', en = .returned (.int .u8 y) ∧ (0 ≤ y ∧ y ≤ 255) ∧ FinI b v l w w' st' ∧ TieI (runI (belowR e l) st) y st' := by
  have H : Hid (DI w b v l st) := h
  obtain ⟨e0, ho⟩ := h.st.plc
  have c1 := cell_of ho 1
  simp at c1
  have C := octet_any h
  have hB := h.byt
  have E : Hid (runI (belowR e l) st = runI (fun p => thenR (byteR l p) ((fun (p : Nat) c q => if e ≤ c then (.error (p, 4) : RS Int) else .ok (c, q)) p)) st) := by
    show _ = _
    rw [runI_below]
    cases st <;> rfl
  clear h ho
  go_enter Tryz.func87, Tryz.ntmps87
  go_wp2_with fail
  refine C.mono ?_
  intro en w1 ha
  obtain ⟨y, st1, rfl, hy, f1, t1⟩ := ha.tie (byteI_bd hB)
  have F1 : Hid (FinI b v l w w1 st1) := f1
  have T1 : Hid (TieI (runI (byteR l) st) y st1) := t1
  have Y : Hid (0 ≤ y ∧ y ≤ 255) := hy
  clear C ha f1 t1 hy hB
  by_cases hc : e ≤ y
  · have d : decide (e ≤ y) = true := by simpa using hc
    have HC : Hid (e ≤ y) := hc
    clear hc
    go_wp2_with fail
    refine (ifail_any F1.out.2 (plc st) 4 (by decide)).mono ?_
    rintro en w2 ⟨rfl, t2, s2⟩
    have F2 : Hid (FinI b v l w w2 (failI st1 (plc st) 4)) := ⟨F1.out.1.trans t2, s2⟩
    clear t2 s2
    go_wp2_with fail
    go_ret
    refine ⟨y, _, rfl, Y.out, F2.out, ?_⟩
    rw [E.out]
    refine TieI.seqP T1.out ?_
    simp only [if_pos HC.out]
    exact TieI.fail _ _ _ _
  · have d : decide (e ≤ y) = false := by simpa using hc
    have HC : Hid (¬ e ≤ y) := hc
    clear hc
    go_wp2_with fail
    go_ret
    refine ⟨y, _, rfl, Y.out, F1.out, ?_⟩
    rw [E.out]
    refine TieI.seqP T1.out ?_
    simp only [if_neg (show ¬ e ≤ y by have := HC.out; omega)]
    exact TieI.pure _ _
def CA.v (x : CA) : Value := .agg #[.int .i64 x.kind, .int .u32 x.tag, .int .u32 x.label]
def CA.c (x : CA) : List Value := [.int .i64 x.kind, .int .u32 x.tag, .int .u32 x.label]
set_option maxRecDepth 100000 in
set_option maxHeartbeats 2000000 in
theorem clause_any {w : World} {b : Nat} {v : Value} {l : List Int} {st : Except (Nat × Nat) Nat} (h : DI w b v l st) :
    Calls Tryz.prog 71 #[.pointer (some ⟨b, 0, none⟩)] w fun en w' => ∃ y st', en = .returned (CA.v y) ∧ FinI b v l w w' st' ∧ TieI (runI (clauseR l) st) y st' := by
  have H : Hid (DI w b v l st) := h
  have hb : b < w.heap.size := h.lt
  have U0 : Hid (DI (w.alloc (.cells #[.int .i64 0, .int .u32 0, .int .u32 0] 86)) b v l st) := h.grew ((Grew.refl w).alloc _)
  have T0 : Hid (Turn [b] w (w.alloc (.cells #[.int .i64 0, .int .u32 0, .int .u32 0] 86))) := (Turn.refl [b] w).alloc _
  have N0 : Hid ((w.alloc (.cells #[.int .i64 0, .int .u32 0, .int .u32 0] 86)).heap[w.heap.size]? = some (.cells #[.int .i64 0, .int .u32 0, .int .u32 0] 86 (0, 0))) := heap_alloc_last _ _
  clear h
  go_enter Tryz.func71, Tryz.ntmps71
  go_wp2_with fail
  refine (ibelow_t U0.out 4).mono ?_
  rintro en w1 ⟨k, st1, rfl, hk, f1, t1⟩
  have hN1 := f1.1.other N0.out (by simp; omega)
  have F1 : Hid (Turn [b] w w1) := T0.out.trans f1.1
  have D1 : Hid (DI w1 b v l st1) := f1.2
  have N1 : Hid (w1.heap[w.heap.size]? = some (.cells #[.int .i64 0, .int .u32 0, .int .u32 0] 86 (0, 0))) := hN1
  have R1 : Hid (TieI (runI (belowR 4 l) st) k st1) := t1
  have hkw : IntKind.i64.wrap k = k := by rw [IntKind.wrap_i64]; omega
  have hs1 : w.heap.size < w1.heap.size := lt_of_obj hN1
  have hb1 : b < w1.heap.size := f1.2.lt
  clear f1 t1 hN1 T0 U0 N0
  by_cases hk1 : k ≤ 1
  · have d1 : decide (k ≤ 1) = true := by simpa using hk1
    have K1 : Hid (k < 2) := (by omega : k < 2)
    clear hk1
    go_wp2_with fail
    have G1 := (Grew.refl w1).alloc (.cells #[.int .i64 k, .int .u32 0, .int .u32 0] 86)
    refine (idx_t (D1.out.grew G1)).mono ?_
    rintro en w2 ⟨t, st2, rfl, ht, f2, t2⟩
    have hM2 := f2.1.other (heap_alloc_last w1 (.cells #[.int .i64 k, .int .u32 0, .int .u32 0] 86)) (by simp; omega)
    have hN2 := f2.1.other (heap_alloc N1.out (.cells #[.int .i64 k, .int .u32 0, .int .u32 0] 86)) (by simp; omega)
    have F2 : Hid (Turn [b] w w2) := F1.out.trans ((G1.turn _).trans f2.1)
    have D2 : Hid (DI w2 b v l st2) := f2.2
    have R2 : Hid (TieI (runI (u32R l) st1) t st2) := t2
    have N2 : Hid (w2.heap[w.heap.size]? = some (.cells #[.int .i64 0, .int .u32 0, .int .u32 0] 86 (0, 0))) := hN2
    have M2 : Hid (w2.heap[w1.heap.size]? = some (.cells #[.int .i64 k, .int .u32 0, .int .u32 0] 86 (0, 0))) := hM2
    have m1 := cell_of hM2 1
    have z1 := free_of hM2 1
    simp at m1
    clear f2 t2 hM2 hN2 G1 F1 N1 ht
    go_wp2_with fail
    have D2' := H.out.setN F2.out D2.out w1.heap.size 1 (by omega) (.int .u32 t)
    refine (idx_t D2').mono ?_
    rintro en w3 ⟨lb, st3, rfl, hlb, f3, t3⟩
    have hM3 := f3.1.other (heap_set M2.out 1 (.int .u32 t)) (by simp; omega)
    have hN3 := f3.1.other ((heap_set_ne (j := 1) (x := .int .u32 t) (show w.heap.size ≠ w1.heap.size by omega)).trans N2.out) (by simp; omega)
    have F3 : Hid (Turn [b] w w3) := (F2.out.set (p := ⟨w1.heap.size, 1, none⟩) (Or.inr (by simp; omega)) _).trans f3.1
    have D3 : Hid (DI w3 b v l st3) := f3.2
    have R3 : Hid (TieI (runI (u32R l) st2) lb st3) := t3
    simp at hM3
    have T : Hid (TieI (runI (clauseR l) st) ⟨k, t, lb⟩ st3) := by
      refine TieI.seq R1.out ?_
      simp only [if_pos K1.out]
      refine TieI.seq R2.out ?_
      rw [runI_map]
      exact R3.out.map _
    clear f3 t3 D2' hlb m1 z1
    have N3 : Hid (w3.heap[w.heap.size]? = some (.cells #[.int .i64 0, .int .u32 0, .int .u32 0] 86 (0, 0))) := hN3
    have M3 : Hid (w3.heap[w1.heap.size]? = some (.cells #[.int .i64 k, .int .u32 t, .int .u32 0] 86 (0, 0))) := hM3
    have m0 := cell_of hM3 0
    have m1 := cell_of hM3 1
    have m2 := cell_of hM3 2
    have z2 := free_of hM3 2
    have n0 := cell_of hN3 0
    have n1 := cell_of hN3 1
    have n2 := cell_of hN3 2
    have y0 := free_of hN3 0
    have y1 := free_of hN3 1
    have y2 := free_of hN3 2
    simp at m0 m1 m2 n0 n1 n2
    clear hM3 hN3
    go_wp2_with fail
    have o1 := (heap_set_ne (j := 2) (x := .int .u32 lb) (show w.heap.size ≠ w1.heap.size by omega)).trans N3.out
    have o2 := heap_set (heap_set (heap_set o1 0 (.int .i64 k)) 1 (.int .u32 t)) 2 (.int .u32 lb)
    refine bodyPost_ret (v := CA.v ⟨k, t, lb⟩) ?_ rfl ?_
    · exact results_cell_row Tryz.results71 _ _ w.heap.size 86 _ (0, 0) _ rfl o2 Tryz.underlying86 rfl (by kernel_rfl)
    refine ⟨_, st3, rfl, ?_, T.out⟩
    have t4 := F3.out.set (p := ⟨w1.heap.size, 2, none⟩) (Or.inr (by simp; omega)) (.int .u32 lb)
    have d4 := H.out.setN F3.out D3.out w1.heap.size 2 (by omega) (.int .u32 lb)
    have t5 := t4.set (p := ⟨w.heap.size, 0, none⟩) (Or.inr (by simp)) (.int .i64 k)
    have d5 := H.out.setN t4 d4 w.heap.size 0 (Nat.le_refl _) (.int .i64 k)
    have t6 := t5.set (p := ⟨w.heap.size, 1, none⟩) (Or.inr (by simp)) (.int .u32 t)
    have d6 := H.out.setN t5 d5 w.heap.size 1 (Nat.le_refl _) (.int .u32 t)
    exact ⟨t6.set (p := ⟨w.heap.size, 2, none⟩) (Or.inr (by simp)) (.int .u32 lb), H.out.setN t6 d6 w.heap.size 2 (Nat.le_refl _) (.int .u32 lb)⟩
  · have d1 : decide (k ≤ 1) = false := by simpa using hk1
    have K1 : Hid (¬ k < 2) := (by omega : ¬ k < 2)
    clear hk1
    go_wp2_with fail
    have G1 := (Grew.refl w1).alloc (.cells #[.int .i64 k, .int .u32 0, .int .u32 0] 86)
    refine (idx_t (D1.out.grew G1)).mono ?_
    rintro en w3 ⟨lb, st3, rfl, hlb, f3, t3⟩
    have hM3 := f3.1.other (heap_alloc_last w1 (.cells #[.int .i64 k, .int .u32 0, .int .u32 0] 86)) (by simp; omega)
    have hN3 := f3.1.other (heap_alloc N1.out (.cells #[.int .i64 k, .int .u32 0, .int .u32 0] 86)) (by simp; omega)
    have F3 : Hid (Turn [b] w w3) := F1.out.trans ((G1.turn _).trans f3.1)
    have D3 : Hid (DI w3 b v l st3) := f3.2
    have R3 : Hid (TieI (runI (u32R l) st1) lb st3) := t3
    have T : Hid (TieI (runI (clauseR l) st) ⟨k, 0, lb⟩ st3) := by
      refine TieI.seq R1.out ?_
      simp only [if_neg (show ¬ k < 2 by have := K1.out; omega)]
      rw [runI_map]
      exact R3.out.map _
    clear f3 t3 G1 hlb
    have N3 : Hid (w3.heap[w.heap.size]? = some (.cells #[.int .i64 0, .int .u32 0, .int .u32 0] 86 (0, 0))) := hN3
    have M3 : Hid (w3.heap[w1.heap.size]? = some (.cells #[.int .i64 k, .int .u32 0, .int .u32 0] 86 (0, 0))) := hM3
    have m0 := cell_of hM3 0
    have m1 := cell_of hM3 1
    have m2 := cell_of hM3 2
    have z2 := free_of hM3 2
    have n0 := cell_of hN3 0
    have n1 := cell_of hN3 1
    have n2 := cell_of hN3 2
    have y0 := free_of hN3 0
    have y1 := free_of hN3 1
    have y2 := free_of hN3 2
    simp at m0 m1 m2 n0 n1 n2
    clear hM3 hN3
    go_wp2_with fail
    have o1 := (heap_set_ne (j := 2) (x := .int .u32 lb) (show w.heap.size ≠ w1.heap.size by omega)).trans N3.out
    have o2 := heap_set (heap_set (heap_set o1 0 (.int .i64 k)) 1 (.int .u32 0)) 2 (.int .u32 lb)
    refine bodyPost_ret (v := CA.v ⟨k, 0, lb⟩) ?_ rfl ?_
    · exact results_cell_row Tryz.results71 _ _ w.heap.size 86 _ (0, 0) _ rfl o2 Tryz.underlying86 rfl (by kernel_rfl)
    refine ⟨_, st3, rfl, ?_, T.out⟩
    have t4 := F3.out.set (p := ⟨w1.heap.size, 2, none⟩) (Or.inr (by simp; omega)) (.int .u32 lb)
    have d4 := H.out.setN F3.out D3.out w1.heap.size 2 (by omega) (.int .u32 lb)
    have t5 := t4.set (p := ⟨w.heap.size, 0, none⟩) (Or.inr (by simp)) (.int .i64 k)
    have d5 := H.out.setN t4 d4 w.heap.size 0 (Nat.le_refl _) (.int .i64 k)
    have t6 := t5.set (p := ⟨w.heap.size, 1, none⟩) (Or.inr (by simp)) (.int .u32 0)
    have d6 := H.out.setN t5 d5 w.heap.size 1 (Nat.le_refl _) (.int .u32 0)
    exact ⟨t6.set (p := ⟨w.heap.size, 2, none⟩) (Or.inr (by simp)) (.int .u32 lb), H.out.setN t6 d6 w.heap.size 2 (Nat.le_refl _) (.int .u32 lb)⟩
end Go.Proofs.YtohapnninjdlfaaGreatDoor

namespace Go.Proofs.YtohapnninjdlfaaGreatDoor
open Go.RowKit
set_option linter.unusedVariables false
set_option linter.unusedSimpArgs false
set_option linter.constructorNameAsVariable false

/- What is still to be read of a list. -/
def ML {α : Type} (R : RS (List α)) (rd : Nat → RS α) (N k : Nat) (acc : List α) : Except (Nat × Nat) Nat → Prop
  | .ok q => N ≤ 65536 ∧ R = manyR rd (N - k) acc q
  | .error e => R = .error e
theorem limR_then {p : Nat} {m : Int} {r : RS Int} : limR p m r = thenR r fun n q => if m < n then .error (p, 2) else .ok (n, q) := by
  cases r with
  | ok x => obtain ⟨n, q⟩ := x; rfl
  | error e => rfl
theorem list_tie {α : Type} {rd : Nat → RS α} {l : List Int} {st st1 : Except (Nat × Nat) Nat} {n : Int} (h : TieI (runI (u32R l) st) n st1) {xs : List α} {st2 : Except (Nat × Nat) Nat} (hn : ¬ 65536 < n) (k : TieI (runI (fun q => manyR rd n.toNat [] q) st1) xs st2) : TieI (runI (listR 65536 rd l) st) xs st2 := by
  have e : runI (listR 65536 rd l) st = runI (fun p => thenR (u32R l p) ((fun (p : Nat) (n : Int) q => if 65536 < n then (.error (p, 2) : RS (List α)) else manyR rd n.toNat [] q) p)) st := by
    cases st with
    | error e => rfl
    | ok p =>
      show listR 65536 rd l p = thenR (u32R l p) _
      unfold listR
      rw [limR_then]
      show thenR (thenR (u32R l p) _) _ = _
      cases u32R l p with
      | error e => rfl
      | ok x =>
        obtain ⟨n', q'⟩ := x
        simp only [thenR]
        by_cases hh : (65536 : Int) < n'
        · simp only [if_pos hh]
        · simp only [if_neg hh]
  rw [e]
  refine TieI.seqP h ?_
  simp only [if_neg hn]
  exact k
theorem list_bad {α : Type} {rd : Nat → RS α} {l : List Int} {st st1 : Except (Nat × Nat) Nat} {n : Int} (h : TieI (runI (u32R l) st) n st1) (xs : List α) (hn : 65536 < n) : TieI (runI (listR 65536 rd l) st) xs (failI st1 (plc st) 2) := by
  have e : runI (listR 65536 rd l) st = runI (fun p => thenR (u32R l p) ((fun (p : Nat) (n : Int) q => if 65536 < n then (.error (p, 2) : RS (List α)) else manyR rd n.toNat [] q) p)) st := by
    cases st with
    | error e => rfl
    | ok p =>
      show listR 65536 rd l p = thenR (u32R l p) _
      unfold listR
      rw [limR_then]
      show thenR (thenR (u32R l p) _) _ = _
      cases u32R l p with
      | error e => rfl
      | ok x =>
        obtain ⟨n', q'⟩ := x
        simp only [thenR]
        by_cases hh : (65536 : Int) < n'
        · simp only [if_pos hh]
        · simp only [if_neg hh]
  rw [e]
  refine TieI.seqP h ?_
  simp only [if_pos hn]
  exact TieI.fail _ _ _ _
theorem ML.start {α : Type} {rd : Nat → RS α} {l : List Int} {st st1 : Except (Nat × Nat) Nat} {n : Int} (h : TieI (runI (u32R l) st) n st1) (hn : ¬ 65536 < n) : ML (runI (listR 65536 rd l) st) rd n.toNat 0 [] st1 := by
  cases st1 with
  | ok q =>
    refine ⟨by omega, ?_⟩
    obtain ⟨p, rfl, hp⟩ := h.was
    show listR 65536 rd l p = _
    unfold listR
    rw [limR_then]
    show thenR (thenR (u32R l p) _) _ = _
    rw [hp]
    simp only [thenR, if_neg hn, Nat.sub_zero]
  | error e => exact list_tie (xs := []) (st2 := .error e) h hn rfl
theorem ML.startB {α : Type} {rd : Nat → RS α} {l : List Int} {st st1 : Except (Nat × Nat) Nat} {n : Int} (h : TieI (runI (u32R l) st) n st1) (hn : 65536 < n) : ML (runI (listR 65536 rd l) st) rd n.toNat 0 [] (failI st1 (plc st) 2) := by
  have := list_bad (rd := rd) h [] hn
  obtain ⟨x, hx⟩ := failI_bad st1 (plc st) 2
  rw [hx] at this ⊢
  exact this
theorem ML.next {α : Type} {R : RS (List α)} {rd : Nat → RS α} {N k : Nat} {acc : List α} {q : Nat} (h : ML R rd N k acc (.ok q)) (hk : k < N) {x : α} {st : Except (Nat × Nat) Nat} (t : TieI (runI rd (.ok q)) x st) : ML R rd N (k + 1) (acc ++ [x]) st := by
  obtain ⟨h1, h2⟩ := h
  rw [show N - k = (N - (k + 1)) + 1 by omega, manyR] at h2
  cases st with
  | ok q1 =>
    have t' : rd q = .ok (x, q1) := t
    rw [t'] at h2
    exact ⟨h1, h2⟩
  | error e =>
    have t' : rd q = .error e := t
    rw [t'] at h2
    exact h2
theorem ML.done {α : Type} {R : RS (List α)} {rd : Nat → RS α} {N : Nat} {acc : List α} {st : Except (Nat × Nat) Nat} (h : ML R rd N N acc st) : TieI R acc st := by
  cases st with
  | ok q => obtain ⟨h1, h2⟩ := h; rw [Nat.sub_self, manyR] at h2; exact h2
  | error e => exact h
def ic2 (n : Int) : List Value := [.int .u32 n]
theorem infoU2 : (Tryz.prog.info? 23).map (fun i => (i.zero, i.size, i.bytes)) = some (some (.int .u32 0), 1, 4) := by kernel_rfl
def RowU (B : Nat) (w : World) (v : Value) (l : List Int) : Prop := w.ownsRow B 23 1 v l.length (l.flatMap ic2)
theorem RowU.nil (B : Nat) (w : World) : RowU B w (.slice none 0 0) [] := World.ownsRow_nil _ _ _ _
theorem RowU.snoc {B : Nat} {w : World} {v : Value} {l : List Int} {a : Int} (h : w.ownsRow B 23 1 v (l.length + 1) (l.flatMap ic2 ++ ic2 a)) : RowU B w v (l ++ [a]) := by
  unfold RowU
  rw [List.length_append, List.flatMap_append]
  simpa using h
set_option maxRecDepth 100000 in
set_option maxHeartbeats 2000000 in
theorem listU_any {w : World} {b : Nat} {v : Value} {l : List Int} {st : Except (Nat × Nat) Nat} (h : DI w b v l st) :
    Calls Tryz.prog 72 #[.pointer (some ⟨b, 0, none⟩), .int .u32 65536, .func (.func 40) #[] #[]] w fun en w' => ∃ rv xs st', en = .returned rv ∧ RowU w.heap.size w' rv xs ∧ FinI b v l w w' st' ∧ TieI (runI (listR 65536 (u32R l) l) st) xs st' := by
  have H : Hid (DI w b v l st) := h
  have hb : b < w.heap.size := h.lt
  obtain ⟨e0, ho⟩ := h.st.plc
  have c1 := cell_of ho 1
  simp at c1
  have C := numU_t h
  clear h ho
  obtain ⟨R, hR⟩ : ∃ R, runI (listR 65536 (u32R l) l) st = R := ⟨_, rfl⟩
  rw [hR]
  have HR : Hid (runI (listR 65536 (u32R l) l) st = R) := hR
  clear hR
  go_enter Tryz.func72, Tryz.ntmps72
  go_wp2_with fail
  refine C.mono ?_
  rintro en w1 ⟨n, st1, rfl, hn, f1, t1⟩
  have F1 : Hid (FinI b v l w w1 st1) := f1
  have T1 : Hid (TieI (runI (u32R l) st) n st1) := t1
  clear C f1 t1
  obtain ⟨N, rfl⟩ : ∃ N : Nat, n = N := ⟨n.toNat, by omega⟩
  by_cases h3 : (65536 : Int) < (N : Int)
  · have d3 : decide ((65536 : Int) < (N : Int)) = true := by simpa using h3
    have d3' : decide (65536 < N) = true := by simp; omega
    have M0 : Hid (ML R (u32R l) N 0 [] (failI st1 (plc st) 2)) := by have := ML.startB (rd := u32R l) T1.out h3; rw [HR.out] at this; exact this
    go_wp2_with fail
    refine (ifail_any F1.out.2 (plc st) 2 (by decide)).mono ?_
    rintro en w2 ⟨rfl, t2, s2⟩
    have FX : Hid (FinI b v l w w2 (failI st1 (plc st) 2)) := ⟨F1.out.1.trans t2, s2⟩
    have hs1 : w.heap.size ≤ w2.heap.size := FX.out.1.size
    clear t2 s2 F1 c1
    go_wp2_with fail
    go_loopw [9, 23] (fun v_ n_ wr => ∃ (k : Nat) (acc : List Int) (stk : Except (Nat × Nat) Nat), n_ = .int .u32 k ∧ k ≤ N ∧ acc.length = k ∧ w.heap.size ≤ wr.heap.size ∧ Hid (RowU w.heap.size wr v_ acc) ∧ Hid (FinI b v l w wr stk) ∧ Hid (ML R (u32R l) N k acc stk)) (fun _ n_ _ => N - (intOf n_).toNat)
    case atStart => exact ⟨0, [], failI st1 (plc st) 2, rfl, by omega, rfl, hs1, RowU.nil _ _, FX, M0⟩
    case round =>
      obtain ⟨k, acc, stk, rfl, hk, hacc, hsr, WR, FR, HE⟩ := hrel
      subst hacc
      obtain ⟨aa, cc, hv⟩ := row_one WR.out
      subst hv
      by_cases hkn : acc.length < N
      · have d4 : decide ((acc.length : Int) < (N : Int)) = true := by simp; omega
        cases stk with
        | error x =>
          obtain ⟨f, e⟩ := x
          have k2 := cell_of FR.out.2.st.1 2
          simp at k2
          have de : ((e : Int) != 0) = true := by have := FR.out.2.st.2; simp; exact this
          go_wp2_with fail
          go_ret
          exact ⟨_, [], _, rfl, RowU.nil _ _, FR.out, HE.out⟩
        | ok q =>
          have k2 := cell_of FR.out.2.st.1 2
          simp at k2
          have hN2 : acc.length ≤ 65536 := by have := HE.out.1; omega
          have D := idx_t FR.out.2
          go_wp2_with fail
          refine D.mono ?_
          rintro en w2 ⟨y, st2, rfl, hy2, f2, t2⟩
          have HE3 : Hid (ML R (u32R l) N (acc.length + 1) (acc ++ [y]) st2) := HE.out.next hkn t2
          have F2 : Hid (FinI b v l w w2 st2) := ⟨FR.out.1.trans f2.1, f2.2⟩
          have W2 : Hid (RowU w.heap.size w2 (.slice aa acc.length cc) acc) := row_turn WR.out f2.1 (by intro x hx; simp at hx; subst hx; obtain ⟨a1, e1, ho⟩ := FR.out.2.obj; exact NoT.of ho (by decide))
          have hB2 : w.heap.size ≤ w2.heap.size := Nat.le_trans hsr f2.1.size
          clear D f2 t2 WR FR HE k2
          skip
          go_wp2_with (at_builtin; refine wp_app1 (v := .slice aa acc.length cc) (n := acc.length) (cs := acc.flatMap ic2) (B := w.heap.size) rfl _ _ 32 23 1 4 _ Tryz.underlying32 infoU2 rfl (by decide) (by decide) rfl b rfl rfl W2.out hB2 rfl (by simp [Value.oneCell']) (by omega) ?_; intro v3 w3 hO3 hT3 hG3)
          have T3 : Hid (Turn [b] w w3) := hT3.turn F2.out.1 (Nat.le_refl _)
          have o3 : w3.heap[b]? = w2.heap[b]? := hG3 b F2.out.2.lt (fun hh => by have := (World.ownsRow.lt W2.out b hh.symm).1; omega)
          have F3 : Hid (FinI b v l w w3 st2) := ⟨T3.out, H.out.of T3.out (F2.out.2.st.same o3)⟩
          clear o3
          go_roundw
          case rel => exact ⟨acc.length + 1, acc ++ [y], st2, by go_num, by omega, by simp, Nat.le_trans hB2 hT3.size, RowU.snoc (a := y) hO3, F3, HE3⟩
          case measure => simp [intOf]; omega
      · have d4 : decide ((acc.length : Int) < (N : Int)) = false := by simp; omega
        have hN : acc.length = N := by omega
        have HE3 : Hid (TieI R acc stk) := by have := HE.out; rw [hN] at this; exact this.done
        clear hN
        go_wp2_with fail
        go_ret
        exact ⟨_, acc, stk, rfl, WR.out, FR.out, HE3.out⟩
  · have d3 : decide ((65536 : Int) < (N : Int)) = false := by simpa using h3
    have d3' : decide (65536 < N) = false := by simp; omega
    have M0 : Hid (ML R (u32R l) N 0 [] st1) := by have := ML.start (rd := u32R l) T1.out h3; rw [HR.out] at this; exact this
    have FX : Hid (FinI b v l w w1 st1) := F1
    have hs1 : w.heap.size ≤ w1.heap.size := FX.out.1.size
    clear F1 c1
    go_wp2_with fail
    go_loopw [9, 23] (fun v_ n_ wr => ∃ (k : Nat) (acc : List Int) (stk : Except (Nat × Nat) Nat), n_ = .int .u32 k ∧ k ≤ N ∧ acc.length = k ∧ w.heap.size ≤ wr.heap.size ∧ Hid (RowU w.heap.size wr v_ acc) ∧ Hid (FinI b v l w wr stk) ∧ Hid (ML R (u32R l) N k acc stk)) (fun _ n_ _ => N - (intOf n_).toNat)
    case atStart => exact ⟨0, [], st1, rfl, by omega, rfl, hs1, RowU.nil _ _, FX, M0⟩
    case round =>
      obtain ⟨k, acc, stk, rfl, hk, hacc, hsr, WR, FR, HE⟩ := hrel
      subst hacc
      obtain ⟨aa, cc, hv⟩ := row_one WR.out
      subst hv
      by_cases hkn : acc.length < N
      · have d4 : decide ((acc.length : Int) < (N : Int)) = true := by simp; omega
        cases stk with
        | error x =>
          obtain ⟨f, e⟩ := x
          have k2 := cell_of FR.out.2.st.1 2
          simp at k2
          have de : ((e : Int) != 0) = true := by have := FR.out.2.st.2; simp; exact this
          go_wp2_with fail
          go_ret
          exact ⟨_, [], _, rfl, RowU.nil _ _, FR.out, HE.out⟩
        | ok q =>
          have k2 := cell_of FR.out.2.st.1 2
          simp at k2
          have hN2 : acc.length ≤ 65536 := by have := HE.out.1; omega
          have D := idx_t FR.out.2
          go_wp2_with fail
          refine D.mono ?_
          rintro en w2 ⟨y, st2, rfl, hy2, f2, t2⟩
          have HE3 : Hid (ML R (u32R l) N (acc.length + 1) (acc ++ [y]) st2) := HE.out.next hkn t2
          have F2 : Hid (FinI b v l w w2 st2) := ⟨FR.out.1.trans f2.1, f2.2⟩
          have W2 : Hid (RowU w.heap.size w2 (.slice aa acc.length cc) acc) := row_turn WR.out f2.1 (by intro x hx; simp at hx; subst hx; obtain ⟨a1, e1, ho⟩ := FR.out.2.obj; exact NoT.of ho (by decide))
          have hB2 : w.heap.size ≤ w2.heap.size := Nat.le_trans hsr f2.1.size
          clear D f2 t2 WR FR HE k2
          skip
          go_wp2_with (at_builtin; refine wp_app1 (v := .slice aa acc.length cc) (n := acc.length) (cs := acc.flatMap ic2) (B := w.heap.size) rfl _ _ 32 23 1 4 _ Tryz.underlying32 infoU2 rfl (by decide) (by decide) rfl b rfl rfl W2.out hB2 rfl (by simp [Value.oneCell']) (by omega) ?_; intro v3 w3 hO3 hT3 hG3)
          have T3 : Hid (Turn [b] w w3) := hT3.turn F2.out.1 (Nat.le_refl _)
          have o3 : w3.heap[b]? = w2.heap[b]? := hG3 b F2.out.2.lt (fun hh => by have := (World.ownsRow.lt W2.out b hh.symm).1; omega)
          have F3 : Hid (FinI b v l w w3 st2) := ⟨T3.out, H.out.of T3.out (F2.out.2.st.same o3)⟩
          clear o3
          go_roundw
          case rel => exact ⟨acc.length + 1, acc ++ [y], st2, by go_num, by omega, by simp, Nat.le_trans hB2 hT3.size, RowU.snoc (a := y) hO3, F3, HE3⟩
          case measure => simp [intOf]; omega
      · have d4 : decide ((acc.length : Int) < (N : Int)) = false := by simp; omega
        have hN : acc.length = N := by omega
        have HE3 : Hid (TieI R acc stk) := by have := HE.out; rw [hN] at this; exact this.done
        clear hN
        go_wp2_with fail
        go_ret
        exact ⟨_, acc, stk, rfl, WR.out, FR.out, HE3.out⟩
theorem infoC2 : (Tryz.prog.info? 86).map (fun i => (i.zero, i.size, i.bytes)) = some (some (.agg #[.int .i64 0, .int .u32 0, .int .u32 0]), 3, 16) := by kernel_rfl
def RowC (B : Nat) (w : World) (v : Value) (l : List CA) : Prop := w.ownsRow B 86 3 v l.length (l.flatMap CA.c)
theorem RowC.nil (B : Nat) (w : World) : RowC B w (.slice none 0 0) [] := World.ownsRow_nil _ _ _ _
theorem RowC.snoc {B : Nat} {w : World} {v : Value} {l : List CA} {a : CA} (h : w.ownsRow B 86 3 v (l.length + 1) (l.flatMap CA.c ++ CA.c a)) : RowC B w v (l ++ [a]) := by
  unfold RowC
  rw [List.length_append, List.flatMap_append]
  simpa using h
set_option maxRecDepth 100000 in
set_option maxHeartbeats 2000000 in
theorem listC_any {w : World} {b : Nat} {v : Value} {l : List Int} {st : Except (Nat × Nat) Nat} (h : DI w b v l st) :
    Calls Tryz.prog 70 #[.pointer (some ⟨b, 0, none⟩), .int .u32 65536, .func (.func 71) #[] #[]] w fun en w' => ∃ rv xs st', en = .returned rv ∧ RowC w.heap.size w' rv xs ∧ FinI b v l w w' st' ∧ TieI (runI (listR 65536 (clauseR l) l) st) xs st' := by
  have H : Hid (DI w b v l st) := h
  have hb : b < w.heap.size := h.lt
  obtain ⟨e0, ho⟩ := h.st.plc
  have c1 := cell_of ho 1
  simp at c1
  have C := numU_t h
  clear h ho
  obtain ⟨R, hR⟩ : ∃ R, runI (listR 65536 (clauseR l) l) st = R := ⟨_, rfl⟩
  rw [hR]
  have HR : Hid (runI (listR 65536 (clauseR l) l) st = R) := hR
  clear hR
  go_enter Tryz.func70, Tryz.ntmps70
  go_wp2_with fail
  refine C.mono ?_
  rintro en w1 ⟨n, st1, rfl, hn, f1, t1⟩
  have F1 : Hid (FinI b v l w w1 st1) := f1
  have T1 : Hid (TieI (runI (u32R l) st) n st1) := t1
  clear C f1 t1
  obtain ⟨N, rfl⟩ : ∃ N : Nat, n = N := ⟨n.toNat, by omega⟩
  by_cases h3 : (65536 : Int) < (N : Int)
  · have d3 : decide ((65536 : Int) < (N : Int)) = true := by simpa using h3
    have d3' : decide (65536 < N) = true := by simp; omega
    have M0 : Hid (ML R (clauseR l) N 0 [] (failI st1 (plc st) 2)) := by have := ML.startB (rd := clauseR l) T1.out h3; rw [HR.out] at this; exact this
    go_wp2_with fail
    refine (ifail_any F1.out.2 (plc st) 2 (by decide)).mono ?_
    rintro en w2 ⟨rfl, t2, s2⟩
    have FX : Hid (FinI b v l w w2 (failI st1 (plc st) 2)) := ⟨F1.out.1.trans t2, s2⟩
    have hs1 : w.heap.size ≤ w2.heap.size := FX.out.1.size
    clear t2 s2 F1 c1
    go_wp2_with fail
    go_loopw [9, 23] (fun v_ n_ wr => ∃ (k : Nat) (acc : List CA) (stk : Except (Nat × Nat) Nat), n_ = .int .u32 k ∧ k ≤ N ∧ acc.length = k ∧ w.heap.size ≤ wr.heap.size ∧ Hid (RowC w.heap.size wr v_ acc) ∧ Hid (FinI b v l w wr stk) ∧ Hid (ML R (clauseR l) N k acc stk)) (fun _ n_ _ => N - (intOf n_).toNat)
    case atStart => exact ⟨0, [], failI st1 (plc st) 2, rfl, by omega, rfl, hs1, RowC.nil _ _, FX, M0⟩
    case round =>
      obtain ⟨k, acc, stk, rfl, hk, hacc, hsr, WR, FR, HE⟩ := hrel
      subst hacc
      obtain ⟨aa, cc, hv⟩ := row_one WR.out
      subst hv
      by_cases hkn : acc.length < N
      · have d4 : decide ((acc.length : Int) < (N : Int)) = true := by simp; omega
        cases stk with
        | error x =>
          obtain ⟨f, e⟩ := x
          have k2 := cell_of FR.out.2.st.1 2
          simp at k2
          have de : ((e : Int) != 0) = true := by have := FR.out.2.st.2; simp; exact this
          go_wp2_with fail
          go_ret
          exact ⟨_, [], _, rfl, RowC.nil _ _, FR.out, HE.out⟩
        | ok q =>
          have k2 := cell_of FR.out.2.st.1 2
          simp at k2
          have hN2 : acc.length ≤ 65536 := by have := HE.out.1; omega
          have D := clause_any FR.out.2
          go_wp2_with fail
          refine D.mono ?_
          rintro en w2 ⟨y, st2, rfl, f2, t2⟩
          have HE3 : Hid (ML R (clauseR l) N (acc.length + 1) (acc ++ [y]) st2) := HE.out.next hkn t2
          have F2 : Hid (FinI b v l w w2 st2) := ⟨FR.out.1.trans f2.1, f2.2⟩
          have W2 : Hid (RowC w.heap.size w2 (.slice aa acc.length cc) acc) := row_turn WR.out f2.1 (by intro x hx; simp at hx; subst hx; obtain ⟨a1, e1, ho⟩ := FR.out.2.obj; exact NoT.of ho (by decide))
          have hB2 : w.heap.size ≤ w2.heap.size := Nat.le_trans hsr f2.1.size
          clear D f2 t2 WR FR HE k2
          obtain ⟨c0, c1, c2⟩ := y; unfold CA.v
          go_wp2_with (at_builtin; refine wp_app1 (v := .slice aa acc.length cc) (n := acc.length) (cs := acc.flatMap CA.c) (B := w.heap.size) rfl _ _ 34 86 3 16 _ Tryz.underlying34 infoC2 rfl (by decide) (by decide) rfl b rfl rfl W2.out hB2 rfl (by simp [Value.oneCell']) (by omega) ?_; intro v3 w3 hO3 hT3 hG3)
          have T3 : Hid (Turn [b] w w3) := hT3.turn F2.out.1 (Nat.le_refl _)
          have o3 : w3.heap[b]? = w2.heap[b]? := hG3 b F2.out.2.lt (fun hh => by have := (World.ownsRow.lt W2.out b hh.symm).1; omega)
          have F3 : Hid (FinI b v l w w3 st2) := ⟨T3.out, H.out.of T3.out (F2.out.2.st.same o3)⟩
          clear o3
          go_roundw
          case rel => exact ⟨acc.length + 1, acc ++ [(⟨c0, c1, c2⟩ : CA)], st2, by go_num, by omega, by simp, Nat.le_trans hB2 hT3.size, RowC.snoc (a := (⟨c0, c1, c2⟩ : CA)) hO3, F3, HE3⟩
          case measure => simp [intOf]; omega
      · have d4 : decide ((acc.length : Int) < (N : Int)) = false := by simp; omega
        have hN : acc.length = N := by omega
        have HE3 : Hid (TieI R acc stk) := by have := HE.out; rw [hN] at this; exact this.done
        clear hN
        go_wp2_with fail
        go_ret
        exact ⟨_, acc, stk, rfl, WR.out, FR.out, HE3.out⟩
  · have d3 : decide ((65536 : Int) < (N : Int)) = false := by simpa using h3
    have d3' : decide (65536 < N) = false := by simp; omega
    have M0 : Hid (ML R (clauseR l) N 0 [] st1) := by have := ML.start (rd := clauseR l) T1.out h3; rw [HR.out] at this; exact this
    have FX : Hid (FinI b v l w w1 st1) := F1
    have hs1 : w.heap.size ≤ w1.heap.size := FX.out.1.size
    clear F1 c1
    go_wp2_with fail
    go_loopw [9, 23] (fun v_ n_ wr => ∃ (k : Nat) (acc : List CA) (stk : Except (Nat × Nat) Nat), n_ = .int .u32 k ∧ k ≤ N ∧ acc.length = k ∧ w.heap.size ≤ wr.heap.size ∧ Hid (RowC w.heap.size wr v_ acc) ∧ Hid (FinI b v l w wr stk) ∧ Hid (ML R (clauseR l) N k acc stk)) (fun _ n_ _ => N - (intOf n_).toNat)
    case atStart => exact ⟨0, [], st1, rfl, by omega, rfl, hs1, RowC.nil _ _, FX, M0⟩
    case round =>
      obtain ⟨k, acc, stk, rfl, hk, hacc, hsr, WR, FR, HE⟩ := hrel
      subst hacc
      obtain ⟨aa, cc, hv⟩ := row_one WR.out
      subst hv
      by_cases hkn : acc.length < N
      · have d4 : decide ((acc.length : Int) < (N : Int)) = true := by simp; omega
        cases stk with
        | error x =>
          obtain ⟨f, e⟩ := x
          have k2 := cell_of FR.out.2.st.1 2
          simp at k2
          have de : ((e : Int) != 0) = true := by have := FR.out.2.st.2; simp; exact this
          go_wp2_with fail
          go_ret
          exact ⟨_, [], _, rfl, RowC.nil _ _, FR.out, HE.out⟩
        | ok q =>
          have k2 := cell_of FR.out.2.st.1 2
          simp at k2
          have hN2 : acc.length ≤ 65536 := by have := HE.out.1; omega
          have D := clause_any FR.out.2
          go_wp2_with fail
          refine D.mono ?_
          rintro en w2 ⟨y, st2, rfl, f2, t2⟩
          have HE3 : Hid (ML R (clauseR l) N (acc.length + 1) (acc ++ [y]) st2) := HE.out.next hkn t2
          have F2 : Hid (FinI b v l w w2 st2) := ⟨FR.out.1.trans f2.1, f2.2⟩
          have W2 : Hid (RowC w.heap.size w2 (.slice aa acc.length cc) acc) := row_turn WR.out f2.1 (by intro x hx; simp at hx; subst hx; obtain ⟨a1, e1, ho⟩ := FR.out.2.obj; exact NoT.of ho (by decide))
          have hB2 : w.heap.size ≤ w2.heap.size := Nat.le_trans hsr f2.1.size
          clear D f2 t2 WR FR HE k2
          obtain ⟨c0, c1, c2⟩ := y; unfold CA.v
          go_wp2_with (at_builtin; refine wp_app1 (v := .slice aa acc.length cc) (n := acc.length) (cs := acc.flatMap CA.c) (B := w.heap.size) rfl _ _ 34 86 3 16 _ Tryz.underlying34 infoC2 rfl (by decide) (by decide) rfl b rfl rfl W2.out hB2 rfl (by simp [Value.oneCell']) (by omega) ?_; intro v3 w3 hO3 hT3 hG3)
          have T3 : Hid (Turn [b] w w3) := hT3.turn F2.out.1 (Nat.le_refl _)
          have o3 : w3.heap[b]? = w2.heap[b]? := hG3 b F2.out.2.lt (fun hh => by have := (World.ownsRow.lt W2.out b hh.symm).1; omega)
          have F3 : Hid (FinI b v l w w3 st2) := ⟨T3.out, H.out.of T3.out (F2.out.2.st.same o3)⟩
          clear o3
          go_roundw
          case rel => exact ⟨acc.length + 1, acc ++ [(⟨c0, c1, c2⟩ : CA)], st2, by go_num, by omega, by simp, Nat.le_trans hB2 hT3.size, RowC.snoc (a := (⟨c0, c1, c2⟩ : CA)) hO3, F3, HE3⟩
          case measure => simp [intOf]; omega
      · have d4 : decide ((acc.length : Int) < (N : Int)) = false := by simp; omega
        have hN : acc.length = N := by omega
        have HE3 : Hid (TieI R acc stk) := by have := HE.out; rw [hN] at this; exact this.done
        clear hN
        go_wp2_with fail
        go_ret
        exact ⟨_, acc, stk, rfl, WR.out, FR.out, HE3.out⟩
end Go.Proofs.YtohapnninjdlfaaGreatDoor

namespace Go.Proofs.YtohapnninjdlfaaGreatDoor
set_option linter.unusedVariables false
set_option linter.unusedSimpArgs false

def brF (l : List Int) (p : Nat) : RS (Int × Int × Int × Int) := thenR (belowR 4 l p) fun c q => thenR (u32R l q) fun x r => thenR (heapR l r) fun a s => mapR (fun d => (c, x, a, d)) (heapR l s)
/- Null or not, by the opcode. -/
def nbn (op : Int) : Bool := op == 64277 || op == 64279
def b1P (c : Int) : Bool := decide (c % 2 = 1)
def b2P (c : Int) : Bool := decide (2 ≤ c)
/- One field read. -/
def fldR (f : Int) (i : IN) (l : List Int) (p : Nat) : RS IN :=
  if f = 0 then mapR (fun b => { i with blk := b }) (blockR l p)
  else if f = 1 then mapR (fun c => { i with catches := c }) (catchesR l p)
  else if f = 2 then mapR (fun x => { i with x := x }) (u32R l p)
  else if f = 3 then mapR (fun y => { i with y := y }) (u32R l p)
  else if f = 4 then mapR (fun b => { i with labels := b }) (labelsR l p)
  else if f = 5 then mapR (fun t => { i with types := t }) (valsR l p)
  else if f = 6 then mapR (fun m => { i with mem := m }) (memR l p)
  else if f = 7 then mapR (fun n => { i with n := n % 4294967296 }) (numR 32 true l p)
  else if f = 8 then mapR (fun n => { i with n := n }) (numR 64 true l p)
  else if f = 9 then mapR (fun n => { i with n := n }) (fixR 4 l p)
  else if f = 10 then mapR (fun n => { i with n := n }) (fixR 8 l p)
  else if f = 11 then mapR (fun h => { i with types := [⟨5, true, h⟩] }) (heapR l p)
  else if f = 12 then mapR (fun h => { i with types := [⟨5, nbn i.op, h⟩] }) (heapR l p)
  else if f = 13 then mapR (fun y => { i with x := y.2.1, types := [⟨5, b1P y.1, y.2.2.1⟩, ⟨5, b2P y.1, y.2.2.2⟩] }) (brF l p)
  else mapR (fun n => { i with n := n }) (u32R l p)
def foldF : List Int → IN → List Int → Nat → RS IN
  | [], i, _, p => .ok (i, p)
  | f :: fs, i, l, p => thenR (fldR f i l p) fun j q => foldF fs j l q
/- The fields of each form. -/
def ffs : List (List Int) := [[], [], [0], [0, 1], [2], [2, 3], [4, 2], [5], [6], [7], [8], [9], [10], [11], [12], [13], [2, 14]]
/- What stands behind the opcode, by its form. -/
def restF (op : Int) (l : List Int) (p : Nat) : RS IN := foldF (ffs.getD (formP op).toNat []) (IN0 op) l p
def insF (l : List Int) (p : Nat) : RS IN := thenR (opR l p) fun op q => restF op l q
end Go.Proofs.YtohapnninjdlfaaGreatDoor
