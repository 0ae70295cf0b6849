/-
  The reader of instructions: the fields of one number; no statement is proved here.
-/
import Derived.Test.YtohapnninjdlfaaGreatDoorInM
import Derived.Test.YtohapnninjdlfaaGreatDoorInT
import Derived.Test.YtohapnninjdlfaaGreatDoorInP
import Derived.Test.YtohapnninjdlfaaGreatDoorInO
namespace Go.Proofs.YtohapnninjdlfaaGreatDoor
set_option linter.unusedVariables false

theorem p63 {i : Nat} (h : i ≤ 8) : (2 : Int) ^ (7 * (i + 1)) ≤ 9223372036854775808 := by
  have : i = 0 ∨ i = 1 ∨ i = 2 ∨ i = 3 ∨ i = 4 ∨ i = 5 ∨ i = 6 ∨ i = 7 ∨ i = 8 := by omega
  rcases this with rfl | rfl | rfl | rfl | rfl | rfl | rfl | rfl | rfl <;> decide
theorem ws_bd {A P : Int} {sg : Bool} {k : Nat} (hP : P = 2 ^ k) (h0 : 0 ≤ A) (h1 : A < P) (h2 : P ≤ 9223372036854775808) : 0 ≤ ws A k sg ∧ ws A k sg < 18446744073709551616 := by
  unfold ws
  rw [← hP]
  split <;> omega
theorem ws_big {A : Int} {sg : Bool} (h0 : 0 ≤ A) (h1 : A < 18446744073709551616) : 0 ≤ ws A 70 sg ∧ ws A 70 sg < 18446744073709551616 := by
  unfold ws
  rw [if_neg (by omega)]
  omega
theorem add9 {X c : Int} (h0 : 0 ≤ X) (h1 : X < 9223372036854775808) : 0 ≤ addAt X c 9 ∧ addAt X c 9 < 18446744073709551616 := by
  unfold addAt
  have e63 : (2 : Int) ^ (7 * 9) = 9223372036854775808 := by decide
  rw [e63]
  omega
theorem scan_bd (m : Nat) (ok : Int → Bool) (hok : ∀ c, ok c = true → c < 128) (sg : Bool) (hm : m ≤ 9) : ∀ (l : List Int) (i : Nat) (X n k : Int), i ≤ m → 0 ≤ X → X < 2 ^ (7 * i) → scan m ok sg l i X = (n, k, 0) → 0 ≤ n ∧ n < 18446744073709551616
  | [], i, X, n, k, hi, h0, hX, h => by simp [scan] at h
  | c :: r, i, X, n, k, hi, h0, hX, h => by
    rw [scan] at h
    split at h
    · simp at h
    · rename_i h1
      split at h
      · rename_i h2
        simp only [Prod.mk.injEq] at h
        obtain ⟨rfl, _, _⟩ := h
        rcases Nat.lt_or_ge i 9 with h3 | h3
        · exact ws_bd (P := 2 ^ (7 * (i + 1))) rfl (addAt_lo i h0) (addAt_hi hX (by omega)) (p63 (by omega))
        · obtain rfl : i = 9 := by omega
          have e63 : (2 : Int) ^ (7 * 9) = 9223372036854775808 := by decide
          rw [e63] at hX
          obtain ⟨a0, a1⟩ := add9 (c := c) h0 hX
          exact ws_big a0 a1
      · rename_i h2
        rcases Nat.lt_or_ge i m with h3 | h3
        · exact scan_bd m ok hok sg hm r (i + 1) _ n k (by omega) (addAt_lo i h0) (addAt_hi hX (by omega)) h
        · obtain rfl : i = m := by omega
          exfalso
          have hk : ok c = false := by
            cases ho : ok c with
            | false => rfl
            | true => exact absurd (hok c ho) h2
          exact h1 ⟨rfl, hk⟩
theorem numR_bd {b : Nat} {sg : Bool} (hb : (b + 6) / 7 - 1 ≤ 9) {l : List Int} {p q : Nat} {n : Int} (hp : p ≤ l.length) (h : numR b sg l p = .ok (n, q)) : 0 ≤ n ∧ n < 18446744073709551616 := by
  rcases numR_ways (b := b) (sg := sg) hp with ⟨n', q', hr, h1, h2, h3⟩ | ⟨n', f, e, hr, h1, h2, h3, h4⟩
  · rw [h3] at h
    simp only [Except.ok.injEq, Prod.mk.injEq] at h
    obtain ⟨rfl, rfl⟩ := h
    unfold rd at hr
    rw [if_pos (by omega)] at hr
    simp only [Prod.mk.injEq] at hr
    obtain ⟨a1, a2, a3⟩ := hr
    obtain ⟨a, k, e, hs⟩ : ∃ n k e, scan ((b + 6) / 7 - 1) (okB (b - 7 * ((b + 6) / 7 - 1)) sg) sg (seg l ((p : Int)).toNat ((l.length : Int)).toNat) 0 0 = (n, k, e) := ⟨_, _, _, rfl⟩
    rw [hs] at a1 a3
    simp only at a1 a3
    subst a1 a3
    exact scan_bd _ _ (fun c hc => okB_lt hc) sg hb _ 0 0 _ _ (by omega) (by omega) (by decide) hs
  · rw [h4] at h; cases h
theorem fixR_bd' {k : Nat} {l : List Int} (hB : ∀ j, 0 ≤ l.getD j 0 ∧ l.getD j 0 ≤ 255) {p : Nat} (hk : k ≤ 8) : 0 ≤ gv l p k ∧ gv l p k < 18446744073709551616 := by
  obtain ⟨h0, h1⟩ := gv_bd l hB p k
  have : k = 0 ∨ k = 1 ∨ k = 2 ∨ k = 3 ∨ k = 4 ∨ k = 5 ∨ k = 6 ∨ k = 7 ∨ k = 8 := by omega
  refine ⟨h0, ?_⟩
  have hp : (2 : Int) ^ (8 * k) ≤ 18446744073709551616 := by
    rcases this with rfl | rfl | rfl | rfl | rfl | rfl | rfl | rfl | rfl <;> decide
  omega
end Go.Proofs.YtohapnninjdlfaaGreatDoor

namespace Go.Proofs.YtohapnninjdlfaaGreatDoor
open Go.RowKit
set_option linter.unusedVariables false
set_option linter.unusedSimpArgs false
set_option linter.constructorNameAsVariable false

theorem fixR_bd {k : Nat} {l : List Int} (hB : Byt l) (hk : k ≤ 8) {p q : Nat} {n : Int} (h : fixR k l p = .ok (n, q)) : 0 ≤ n ∧ n < 18446744073709551616 := by
  unfold fixR at h
  split at h
  · simp only [Except.ok.injEq, Prod.mk.injEq] at h
    obtain ⟨rfl, rfl⟩ := h
    exact fixR_bd' hB hk
  · cases h
/- An instruction under way: its block M, made behind the world w0 in which the reader stood. -/
structure SI (w0 wb : World) (b M : Nat) (v : Value) (l : List Int) (w : World) (st : Except (Nat × Nat) Nat) (es : Array Value) : Prop where
  base : ∃ st0, DI w0 b v l st0
  tn : Turn [b] w0 w
  di : DI w b v l st
  io : w.heap[M]? = some (.cells es 36 (0, 0))
  sz : es.size = 17
  hM : w0.heap.size ≤ M
  one : ∀ (j : Nat) (u : Value), es[j]? = some u → u.oneCell' = true
  tm : Turn [b, M] wb w
theorem Turn.wide {b M : Nat} {w w' : World} (h : Turn [b] w w') : Turn [b, M] w w' := ⟨h.os, h.tape, h.output, h.size, fun k hk hn => h.block k hk (fun hh => hn (by simp at hh; simp [hh]))⟩
theorem SI.ne {w0 wb : World} {b M : Nat} {v : Value} {l : List Int} {w : World} {st : Except (Nat × Nat) Nat} {es : Array Value} (h : SI w0 wb b M v l w st es) : ¬ M = b := by
  obtain ⟨s0, h0⟩ := h.base
  have := h0.lt
  have := h.hM
  omega
theorem SI.step {w0 wb : World} {b M : Nat} {v : Value} {l : List Int} {w w1 : World} {st st1 : Except (Nat × Nat) Nat} {es : Array Value} (h : SI w0 wb b M v l w st es) (f : FinI b v l w w1 st1) : SI w0 wb b M v l w1 st1 es :=
  ⟨h.base, h.tn.trans f.1, f.2, f.1.other h.io (by simp; exact h.ne), h.sz, h.hM, h.one, h.tm.trans f.1.wide⟩
theorem SI.grew {w0 wb : World} {b M : Nat} {v : Value} {l : List Int} {w w1 : World} {st : Except (Nat × Nat) Nat} {es : Array Value} (h : SI w0 wb b M v l w st es) (g : Grew w w1) : SI w0 wb b M v l w1 st es :=
  h.step ⟨g.turn _, h.di.grew g⟩
theorem one_set {es : Array Value} (h : ∀ (j : Nat) (u : Value), es[j]? = some u → u.oneCell' = true) (k : Nat) (x : Value) (hx : x.oneCell' = true) : ∀ (j : Nat) (u : Value), (es.setIfInBounds k x)[j]? = some u → u.oneCell' = true := by
  intro j u hu
  rw [Array.getElem?_setIfInBounds] at hu
  split at hu
  · split at hu
    · injection hu with hu; subst hu; exact hx
    · cases hu
  · exact h j u hu
theorem SI.set {w0 wb : World} {b M : Nat} {v : Value} {l : List Int} {w : World} {st : Except (Nat × Nat) Nat} {es : Array Value} (h : SI w0 wb b M v l w st es) (j : Nat) (x : Value) (hx : x.oneCell' = true := by rfl) : SI w0 wb b M v l (w.setCell ⟨M, j, none⟩ x) st (es.setIfInBounds j x) :=
  ⟨h.base, h.tn.set (p := ⟨M, j, none⟩) (Or.inr h.hM) x, by obtain ⟨s0, h0⟩ := h.base; exact h0.setN h.tn h.di M j h.hM x, heap_set h.io j x, by simp [h.sz], h.hM, one_set h.one j x hx, h.tm.set (p := ⟨M, j, none⟩) (Or.inl (by simp)) x⟩
theorem SI.cell {w0 wb : World} {b M : Nat} {v : Value} {l : List Int} {w : World} {st : Except (Nat × Nat) Nat} {es : Array Value} (h : SI w0 wb b M v l w st es) (j : Nat) (hj : j < 17) : ∃ u, w.cell? ⟨M, j, none⟩ = some u ∧ es[j]? = some u := by
  have hj' : j < es.size := by rw [h.sz]; exact hj
  exact ⟨es[j], by rw [cell_of h.io]; simp, by simp⟩
theorem head_keep {es : Array Value} {j : Nat} {x : Value} (hj : j ≠ 0) : (es.setIfInBounds j x)[0]? = es[0]? := by
  rw [Array.getElem?_setIfInBounds_ne hj]
/- What a field's reader does. -/
def Fld {α : Type} (w0 wb : World) (b M : Nat) (v : Value) (l : List Int) (es : Array Value) (r : RS α) (P : α → World → Array Value → Prop) (en : Ending) (w' : World) : Prop :=
  en = .returned (.tuple #[]) ∧ ∃ y st es', SI w0 wb b M v l w' st es' ∧ es'[0]? = es[0]? ∧ TieI r y st ∧ P y w' es'
set_option maxRecDepth 100000 in
set_option maxHeartbeats 2000000 in
theorem fX_any {w0 wb : World} {b M : Nat} {v : Value} {l : List Int} {w : World} {st : Except (Nat × Nat) Nat} {es : Array Value} (h : SI w0 wb b M v l w st es) :
    Calls Tryz.prog 43 #[.pointer (some ⟨b, 0, none⟩), .pointer (some ⟨M, 0, none⟩)] w (Fld w0 wb b M v l es (runI (u32R l) st) fun y w' es' => es' = es.setIfInBounds 1 (.int .u32 y)) := by
  have H : Hid (SI w0 wb b M v l w st es) := h
  have C := idx_t h.di
  clear h
  go_enter Tryz.func43, Tryz.ntmps43
  go_wp2_with fail
  refine C.mono ?_
  rintro en w1 ⟨y, st1, rfl, hy, f1, t1⟩
  obtain ⟨u, hu, _⟩ := (H.out.step f1).cell 1 (by decide)
  have hz := free_of (H.out.step f1).io 1
  have S1 : Hid (SI w0 wb b M v l w1 st1 es) := H.out.step f1
  have T1 : Hid (TieI (runI (u32R l) st) y st1) := t1
  clear C f1 t1
  go_wp2_with fail
  go_end0
  exact ⟨rfl, y, st1, _, S1.out.set 1 _, head_keep (by decide), T1.out, rfl⟩
set_option maxRecDepth 100000 in
set_option maxHeartbeats 2000000 in
theorem fY_any {w0 wb : World} {b M : Nat} {v : Value} {l : List Int} {w : World} {st : Except (Nat × Nat) Nat} {es : Array Value} (h : SI w0 wb b M v l w st es) :
    Calls Tryz.prog 44 #[.pointer (some ⟨b, 0, none⟩), .pointer (some ⟨M, 0, none⟩)] w (Fld w0 wb b M v l es (runI (u32R l) st) fun y w' es' => es' = es.setIfInBounds 2 (.int .u32 y)) := by
  have H : Hid (SI w0 wb b M v l w st es) := h
  have C := idx_t h.di
  clear h
  go_enter Tryz.func44, Tryz.ntmps44
  go_wp2_with fail
  refine C.mono ?_
  rintro en w1 ⟨y, st1, rfl, hy, f1, t1⟩
  obtain ⟨u, hu, _⟩ := (H.out.step f1).cell 2 (by decide)
  have hz := free_of (H.out.step f1).io 2
  have S1 : Hid (SI w0 wb b M v l w1 st1 es) := H.out.step f1
  have T1 : Hid (TieI (runI (u32R l) st) y st1) := t1
  clear C f1 t1
  go_wp2_with fail
  go_end0
  exact ⟨rfl, y, st1, _, S1.out.set 2 _, head_keep (by decide), T1.out, rfl⟩
set_option maxRecDepth 100000 in
set_option maxHeartbeats 2000000 in
theorem fCount_any {w0 wb : World} {b M : Nat} {v : Value} {l : List Int} {w : World} {st : Except (Nat × Nat) Nat} {es : Array Value} (h : SI w0 wb b M v l w st es) :
    Calls Tryz.prog 55 #[.pointer (some ⟨b, 0, none⟩), .pointer (some ⟨M, 0, none⟩)] w (Fld w0 wb b M v l es (runI (fun p => mapR (fun n => n) (u32R l p)) st) fun y w' es' => es' = es.setIfInBounds 3 (.int .u64 y)) := by
  have H : Hid (SI w0 wb b M v l w st es) := h
  have C := iindex_any h.di
  clear h
  go_enter Tryz.func55, Tryz.ntmps55
  go_wp2_with fail
  refine C.mono ?_
  intro en w1 ha
  obtain ⟨n, st1, rfl, f1, t1⟩ := ha.tie
  obtain ⟨u, hu, _⟩ := (H.out.step f1).cell 3 (by decide)
  have hz := free_of (H.out.step f1).io 3
  have S1 : Hid (SI w0 wb b M v l w1 st1 es) := H.out.step f1
  have T1 : Hid (TieI (runI (u32R l) st) n st1) := t1
  clear C ha f1 t1
  go_wp2_with fail
  go_end0
  rw [runI_map]
  cases st1 with
  | ok q =>
    obtain ⟨p, hp, hn⟩ := T1.out.was
    have hle : p ≤ l.length := by have := H.out.di.st; rw [hp] at this; exact this.2
    have hB := H.out.di.byt
    have E : IntKind.u64.wrap (encU n) = n := by
      obtain ⟨b0, b1⟩ := u32_bd hB hle hn
      unfold encU
      rw [IntKind.wrap_u64]
      omega
    refine ⟨rfl, n, .ok q, _, S1.out.set 3 _, head_keep (by decide), T1.out.map (fun n => n), ?_⟩
    show _ = es.setIfInBounds 3 (.int .u64 (n))
    rw [E]
  | error e =>
    refine ⟨rfl, IntKind.u64.wrap (encU n), .error e, _, S1.out.set 3 _, head_keep (by decide), ?_, rfl⟩
    have := T1.out.map (fun n => n)
    exact this
set_option maxRecDepth 100000 in
set_option maxHeartbeats 2000000 in
theorem fI32_any {w0 wb : World} {b M : Nat} {v : Value} {l : List Int} {w : World} {st : Except (Nat × Nat) Nat} {es : Array Value} (h : SI w0 wb b M v l w st es) :
    Calls Tryz.prog 48 #[.pointer (some ⟨b, 0, none⟩), .pointer (some ⟨M, 0, none⟩)] w (Fld w0 wb b M v l es (runI (fun p => mapR (fun n => n % 4294967296) (numR 32 true l p)) st) fun y w' es' => es' = es.setIfInBounds 3 (.int .u64 y)) := by
  have H : Hid (SI w0 wb b M v l w st es) := h
  have C := numII h.di
  clear h
  go_enter Tryz.func48, Tryz.ntmps48
  go_wp2_with fail
  refine C.mono ?_
  intro en w1 ha
  obtain ⟨n, st1, rfl, f1, t1⟩ := ha.tie
  obtain ⟨u, hu, _⟩ := (H.out.step f1).cell 3 (by decide)
  have hz := free_of (H.out.step f1).io 3
  have S1 : Hid (SI w0 wb b M v l w1 st1 es) := H.out.step f1
  have T1 : Hid (TieI (runI (numR 32 true l) st) n st1) := t1
  clear C ha f1 t1
  go_wp2_with fail
  go_end0
  rw [runI_map]
  cases st1 with
  | ok q =>
    obtain ⟨p, hp, hn⟩ := T1.out.was
    have hle : p ≤ l.length := by have := H.out.di.st; rw [hp] at this; exact this.2
    have hB := H.out.di.byt
    have E : encI n % 4294967296 = n % 4294967296 := by
      unfold encI wrap32
      omega
    refine ⟨rfl, n % 4294967296, .ok q, _, S1.out.set 3 _, head_keep (by decide), T1.out.map (fun n => n % 4294967296), ?_⟩
    show _ = es.setIfInBounds 3 (.int .u64 (n % 4294967296))
    rw [E]
  | error e =>
    refine ⟨rfl, encI n % 4294967296, .error e, _, S1.out.set 3 _, head_keep (by decide), ?_, rfl⟩
    have := T1.out.map (fun n => n % 4294967296)
    exact this
set_option maxRecDepth 100000 in
set_option maxHeartbeats 2000000 in
theorem fI64_any {w0 wb : World} {b M : Nat} {v : Value} {l : List Int} {w : World} {st : Except (Nat × Nat) Nat} {es : Array Value} (h : SI w0 wb b M v l w st es) :
    Calls Tryz.prog 49 #[.pointer (some ⟨b, 0, none⟩), .pointer (some ⟨M, 0, none⟩)] w (Fld w0 wb b M v l es (runI (fun p => mapR (fun n => n) (numR 64 true l p)) st) fun y w' es' => es' = es.setIfInBounds 3 (.int .u64 y)) := by
  have H : Hid (SI w0 wb b M v l w st es) := h
  have C := numLI h.di
  clear h
  go_enter Tryz.func49, Tryz.ntmps49
  go_wp2_with fail
  refine C.mono ?_
  intro en w1 ha
  obtain ⟨n, st1, rfl, f1, t1⟩ := ha.tie
  obtain ⟨u, hu, _⟩ := (H.out.step f1).cell 3 (by decide)
  have hz := free_of (H.out.step f1).io 3
  have S1 : Hid (SI w0 wb b M v l w1 st1 es) := H.out.step f1
  have T1 : Hid (TieI (runI (numR 64 true l) st) n st1) := t1
  clear C ha f1 t1
  go_wp2_with fail
  go_end0
  rw [runI_map]
  cases st1 with
  | ok q =>
    obtain ⟨p, hp, hn⟩ := T1.out.was
    have hle : p ≤ l.length := by have := H.out.di.st; rw [hp] at this; exact this.2
    have hB := H.out.di.byt
    have E : IntKind.u64.wrap (encL n) = n := by
      obtain ⟨b0, b1⟩ := numR_bd (by decide) hle hn
      unfold encL wrap64
      rw [IntKind.wrap_u64]
      omega
    refine ⟨rfl, n, .ok q, _, S1.out.set 3 _, head_keep (by decide), T1.out.map (fun n => n), ?_⟩
    show _ = es.setIfInBounds 3 (.int .u64 (n))
    rw [E]
  | error e =>
    refine ⟨rfl, IntKind.u64.wrap (encL n), .error e, _, S1.out.set 3 _, head_keep (by decide), ?_, rfl⟩
    have := T1.out.map (fun n => n)
    exact this
set_option maxRecDepth 100000 in
set_option maxHeartbeats 2000000 in
theorem fF32_any {w0 wb : World} {b M : Nat} {v : Value} {l : List Int} {w : World} {st : Except (Nat × Nat) Nat} {es : Array Value} (h : SI w0 wb b M v l w st es) :
    Calls Tryz.prog 50 #[.pointer (some ⟨b, 0, none⟩), .pointer (some ⟨M, 0, none⟩)] w (Fld w0 wb b M v l es (runI (fun p => mapR (fun n => n) (fixR 4 l p)) st) fun y w' es' => es' = es.setIfInBounds 3 (.int .u64 y)) := by
  have H : Hid (SI w0 wb b M v l w st es) := h
  have C := numFI h.di
  clear h
  go_enter Tryz.func50, Tryz.ntmps50
  go_wp2_with fail
  refine C.mono ?_
  intro en w1 ha
  obtain ⟨n, st1, rfl, f1, t1⟩ := ha.tie
  obtain ⟨u, hu, _⟩ := (H.out.step f1).cell 3 (by decide)
  have hz := free_of (H.out.step f1).io 3
  have S1 : Hid (SI w0 wb b M v l w1 st1 es) := H.out.step f1
  have T1 : Hid (TieI (runI (fixR 4 l) st) n st1) := t1
  clear C ha f1 t1
  go_wp2_with fail
  go_end0
  rw [runI_map]
  cases st1 with
  | ok q =>
    obtain ⟨p, hp, hn⟩ := T1.out.was
    have hle : p ≤ l.length := by have := H.out.di.st; rw [hp] at this; exact this.2
    have hB := H.out.di.byt
    have E : IntKind.u64.wrap (encF n) = n := by
      obtain ⟨b0, b1⟩ := fixR_bd hB (by decide) hn
      unfold encF
      rw [IntKind.wrap_u64]
      omega
    refine ⟨rfl, n, .ok q, _, S1.out.set 3 _, head_keep (by decide), T1.out.map (fun n => n), ?_⟩
    show _ = es.setIfInBounds 3 (.int .u64 (n))
    rw [E]
  | error e =>
    refine ⟨rfl, IntKind.u64.wrap (encF n), .error e, _, S1.out.set 3 _, head_keep (by decide), ?_, rfl⟩
    have := T1.out.map (fun n => n)
    exact this
set_option maxRecDepth 100000 in
set_option maxHeartbeats 2000000 in
theorem fF64_any {w0 wb : World} {b M : Nat} {v : Value} {l : List Int} {w : World} {st : Except (Nat × Nat) Nat} {es : Array Value} (h : SI w0 wb b M v l w st es) :
    Calls Tryz.prog 51 #[.pointer (some ⟨b, 0, none⟩), .pointer (some ⟨M, 0, none⟩)] w (Fld w0 wb b M v l es (runI (fun p => mapR (fun n => n) (fixR 8 l p)) st) fun y w' es' => es' = es.setIfInBounds 3 (.int .u64 y)) := by
  have H : Hid (SI w0 wb b M v l w st es) := h
  have C := numGI h.di
  clear h
  go_enter Tryz.func51, Tryz.ntmps51
  go_wp2_with fail
  refine C.mono ?_
  intro en w1 ha
  obtain ⟨n, st1, rfl, f1, t1⟩ := ha.tie
  obtain ⟨u, hu, _⟩ := (H.out.step f1).cell 3 (by decide)
  have hz := free_of (H.out.step f1).io 3
  have S1 : Hid (SI w0 wb b M v l w1 st1 es) := H.out.step f1
  have T1 : Hid (TieI (runI (fixR 8 l) st) n st1) := t1
  clear C ha f1 t1
  go_wp2_with fail
  go_end0
  rw [runI_map]
  cases st1 with
  | ok q =>
    obtain ⟨p, hp, hn⟩ := T1.out.was
    have hle : p ≤ l.length := by have := H.out.di.st; rw [hp] at this; exact this.2
    have hB := H.out.di.byt
    have E : encG n = n := by
      rfl
    refine ⟨rfl, n, .ok q, _, S1.out.set 3 _, head_keep (by decide), T1.out.map (fun n => n), ?_⟩
    show _ = es.setIfInBounds 3 (.int .u64 (n))
    rw [E]
  | error e =>
    refine ⟨rfl, encG n, .error e, _, S1.out.set 3 _, head_keep (by decide), ?_, rfl⟩
    have := T1.out.map (fun n => n)
    exact this
end Go.Proofs.YtohapnninjdlfaaGreatDoor
