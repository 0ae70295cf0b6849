/-
  The document's reading of instructions: counts, small numbers, memory arguments; no statement is proved here.
-/
import Derived.Test.YtohapnninjdlfaaGreatDoorD9c
import Derived.Test.YtohapnninjdlfaaGreatDoorInK
import Derived.Test.YtohapnninjdlfaaGreatDoorInG
namespace Go.Proofs.YtohapnninjdlfaaGreatDoor
open Go.RowKit
set_option linter.unusedVariables false
set_option linter.unusedSimpArgs false
set_option linter.constructorNameAsVariable false

theorem fix1_is {l : List Int} {p : Nat} (hp : p ≤ l.length) : fixR 1 l p = byteR l p := by
  unfold fixR byteR atR
  by_cases h : p < l.length
  · rw [if_pos (by omega), if_pos h]; simp [gv]
  · rw [if_neg (by omega), if_neg h, show l.length = p by omega]
theorem D9.e0 {w : World} {b : Nat} {v : Value} {l : List Int} {p : Nat} (h : D9 w b v l (.ok p)) : w.cell? ⟨b, 3, none⟩ = some (.int .i64 0) := by
  have := cell_of h.st.1 3
  simpa [rdg9] using this
theorem D9.e1 {w : World} {b : Nat} {v : Value} {l : List Int} {f e : Nat} (h : D9 w b v l (.error (f, e))) : w.cell? ⟨b, 3, none⟩ = some (.int .i64 (e : Int)) ∧ ((e : Int) == 0) = false := by
  obtain ⟨a, h1, h2, h3⟩ := h.st
  have := cell_of h1 3
  refine ⟨by simpa [rdg9] using this, by simp; exact h3⟩
/- A byte: what fixed of one byte answers. -/
theorem d9byte_t {w : World} {b : Nat} {v : Value} {l : List Int} {st : Except (Nat × Nat) Nat} (h : D9 w b v l st) :
    Calls Tryz.prog 29 #[.pointer (some ⟨b, 0, none⟩), .int .i64 1] w fun en w' => ∃ y st', en = .returned (.int .u64 y) ∧ (∀ q, st' = .ok q → 0 ≤ y ∧ y ≤ 255) ∧ Fin9 b v l w w' st' ∧ TieI (runI (byteR l) st) y st' := by
  have hB := h.byt
  refine (d9fix1_any h).mono ?_
  rintro en w1 ⟨y, st1, rfl, f1, t1⟩
  have e : runI (fixR 1 l) st = runI (byteR l) st := by
    cases st with
    | ok p => exact fix1_is h.st.2
    | error e => rfl
  rw [e] at t1
  refine ⟨y, st1, rfl, ?_, f1, t1⟩
  rintro q rfl
  obtain ⟨p, _, hp⟩ := t1.was
  have := byteR_bd hB hp
  omega
set_option maxRecDepth 100000 in
set_option maxHeartbeats 2000000 in
theorem d9small_any {w : World} {b : Nat} {v : Value} {l : List Int} {st : Except (Nat × Nat) Nat} (h : D9 w b v l st) :
    Calls Tryz.prog 32 #[.pointer (some ⟨b, 0, none⟩), .int .u8 3] w fun en w' => ∃ y st', en = .returned (.int .u8 y) ∧ (0 ≤ y ∧ y ≤ 255) ∧ Fin9 b v l w w' st' ∧ TieI (runI (belowR 4 l) st) y st' := by
  have H : Hid (D9 w b v l st) := h
  obtain ⟨a0, pl0, e0, ho⟩ := h.obj
  have c1 := cell_of ho 1
  simp at c1
  have C := d9byte_t h
  have E : Hid (runI (belowR 4 l) st = runI (fun p => thenR (byteR l p) ((fun (p : Nat) c q => if (4 : Int) ≤ c then (.error (p, 4) : RS Int) else .ok (c, q)) p)) st) := by
    show _ = _
    rw [runI_below]
    cases st <;> rfl
  have HP : Hid (∀ p, st = .ok p → a0 = (p : Int)) := by
    intro p hp
    subst hp
    have := h.st.1
    rw [ho] at this
    simp [rdg9] at this
    exact this.1
  clear h ho
  go_enter Tryz.func32, Tryz.ntmps32
  go_wp2_with fail
  refine C.mono ?_
  rintro en w1 ⟨y, st1, rfl, hy, f1, t1⟩
  have F1 : Hid (Fin9 b v l w w1 st1) := f1
  have T1 : Hid (TieI (runI (byteR l) st) y st1) := t1
  clear C
  cases st1 with
  | error x =>
    obtain ⟨f, e⟩ := x
    obtain ⟨k3, de⟩ := f1.2.e1
    clear f1 t1 hy
    go_wp2_with fail
    go_ret
    refine ⟨_, .error (f, e), rfl, ?_, F1.out, ?_⟩
    · first | (rw [IntKind.wrap_u8]; omega) | omega | (simp [IntKind.wrap_u8]; omega)
    rw [E.out]
    refine TieI.seqP T1.out ?_
    rfl
  | ok q =>
    obtain ⟨y0, y1⟩ := hy q rfl
    have k3 := f1.2.e0
    obtain ⟨p, hp, hb⟩ := t1.was
    subst hp
    have ha := HP.out p rfl
    subst ha
    have hw : IntKind.u8.wrap y = y := by rw [IntKind.wrap_u8]; omega
    have Y : Hid (0 ≤ y ∧ y ≤ 255) := ⟨y0, y1⟩
    clear f1 t1 hy hb
    by_cases hc : (3 : Int) < y
    · have d : decide ((3 : Int) < y) = true := by simpa using hc
      have HC : Hid ((4 : Int) ≤ y) := (by omega : (4 : Int) ≤ y)
      clear hc
      go_wp2_with fail
      refine (fail9_any F1.out.2 p 4 (by decide)).mono ?_
      rintro en w2 ⟨rfl, t2, s2⟩
      have F2 : Hid (Fin9 b v l w w2 (.error (p, 4))) := ⟨F1.out.1.trans t2, s2⟩
      clear t2 s2
      go_wp2_with fail
      go_ret
      refine ⟨y, _, rfl, Y.out, F2.out, ?_⟩
      rw [E.out]
      refine TieI.seqP T1.out ?_
      simp only [if_pos HC.out]
      rfl
    · have d : decide ((3 : Int) < y) = false := by simpa using hc
      have HC : Hid (y < 4) := (by omega : y < 4)
      clear hc
      go_wp2_with fail
      go_ret
      refine ⟨y, _, rfl, Y.out, F1.out, ?_⟩
      rw [E.out]
      refine TieI.seqP T1.out ?_
      simp only [if_neg (show ¬ (4 : Int) ≤ y by have := HC.out; omega)]
      rfl
theorem u32t_is {l : List Int} {st st1 : Except (Nat × Nat) Nat} {n : Int} (hB : Byt l) (hle : ∀ p, st = .ok p → p ≤ l.length) (h : TieI (runI (u32R l) st) n st1) : ∀ q, st1 = .ok q → 0 ≤ n ∧ n ≤ 4294967295 := by
  rintro q rfl
  obtain ⟨p, rfl, hp⟩ := h.was
  exact u32_bd hB (hle p rfl) hp
set_option maxRecDepth 100000 in
set_option maxHeartbeats 2000000 in
theorem d9few_any {w : World} {b : Nat} {v : Value} {l : List Int} {st : Except (Nat × Nat) Nat} (h : D9 w b v l st) (most : Nat) (hm : most ≤ 65536) :
    Calls Tryz.prog 25 #[.pointer (some ⟨b, 0, none⟩), .int .i64 (most : Int)] w fun en w' => ∃ n st', en = .returned (.int .i64 n) ∧ Fin9 b v l w w' st' ∧ (∀ q, st' = .ok q → 0 ≤ n ∧ n ≤ most) ∧ TieI (runI (fun p => limR p (most : Int) (numR 32 false l p)) st) n st' := by
  have H : Hid (D9 w b v l st) := h
  obtain ⟨a0, pl0, e0, ho⟩ := h.obj
  have c1 := cell_of ho 1
  simp at c1
  have C := d9u32_any h
  have hB := h.byt
  have HLE : Hid (∀ p, st = .ok p → p ≤ l.length) := fun p hp => by subst hp; exact h.st.2
  have E : Hid (runI (fun p => limR p (most : Int) (numR 32 false l p)) st = runI (fun p => thenR (u32R l p) ((fun (p : Nat) (n : Int) q => if (most : Int) < n then (.error (p, 2) : RS Int) else .ok (n, q)) p)) st) := by
    show _ = _
    cases st with
    | error e => rfl
    | ok p => exact limR_then
  have HP : Hid (∀ p, st = .ok p → a0 = (p : Int)) := by
    intro p hp
    subst hp
    have := h.st.1
    rw [ho] at this
    simp [rdg9] at this
    exact this.1
  clear h ho
  go_enter Tryz.func25, Tryz.ntmps25
  go_wp2_with fail
  refine C.mono ?_
  rintro en w1 ⟨n, st1, rfl, f1, t1⟩
  have F1 : Hid (Fin9 b v l w w1 st1) := f1
  have T1 : Hid (TieI (runI (u32R l) st) n st1) := t1
  clear C
  cases st1 with
  | error x =>
    obtain ⟨f, e⟩ := x
    obtain ⟨k3, de⟩ := f1.2.e1
    clear f1 t1
    go_wp2_with fail
    go_ret
    refine ⟨_, .error (f, e), rfl, F1.out, (fun q hq => by cases hq), ?_⟩
    rw [E.out]
    refine TieI.seqP T1.out ?_
    rfl
  | ok q =>
    obtain ⟨n0, n1⟩ := u32t_is hB HLE.out t1 q rfl
    have k3 := f1.2.e0
    obtain ⟨p, hp, hb⟩ := t1.was
    subst hp
    have ha := HP.out p rfl
    subst ha
    obtain ⟨n, rfl⟩ : ∃ m : Nat, n = m := ⟨n.toNat, by omega⟩
    have hw : IntKind.i64.wrap (n : Int) = (n : Int) := by rw [IntKind.wrap_i64]; omega
    clear f1 t1 hb
    by_cases hc : most < n
    · have d : decide ((most : Int) < (n : Int)) = true := by simp; omega
      have d2 : decide (most < n) = true := by simp; omega
      have HC : Hid ((most : Int) < (n : Int)) := (by omega : (most : Int) < (n : Int))
      clear hc
      go_wp2_with fail
      refine (fail9_any F1.out.2 p 2 (by decide)).mono ?_
      rintro en w2 ⟨rfl, t2, s2⟩
      have F2 : Hid (Fin9 b v l w w2 (.error (p, 2))) := ⟨F1.out.1.trans t2, s2⟩
      clear t2 s2
      go_wp2_with fail
      go_ret
      refine ⟨0, _, rfl, F2.out, (fun q hq => by cases hq), ?_⟩
      rw [E.out]
      refine TieI.seqP T1.out ?_
      simp only [if_pos HC.out]
      rfl
    · have d : decide ((most : Int) < (n : Int)) = false := by simp; omega
      have d2 : decide (most < n) = false := by simp; omega
      have HC : Hid (n ≤ most) := (by omega : n ≤ most)
      clear hc
      go_wp2_with fail
      go_ret
      refine ⟨n, _, rfl, F1.out, (fun _ _ => by have := HC.out; omega), ?_⟩
      rw [E.out]
      refine TieI.seqP T1.out ?_
      simp only [if_neg (show ¬ (most : Int) < (n : Int) by have := HC.out; omega)]
      rfl
end Go.Proofs.YtohapnninjdlfaaGreatDoor
