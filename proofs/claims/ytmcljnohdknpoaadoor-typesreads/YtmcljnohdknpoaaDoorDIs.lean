/-
  The document's reading: the walks of is and must; no statement is proved here.
-/
import Derived.Test.YtmcljnohdknpoaaDoorDTok
namespace Go.Proofs.YtmcljnohdknpoaaDoor
open Go.RowKit
set_option linter.unusedVariables false
set_option linter.unusedSimpArgs false

/- Where a reading stands: a place, or a fault's place. -/
def ST (w : World) (b : Nat) (s : ByteArray) : Except Nat Nat → Prop
  | .ok p => GD w b s p
  | .error f => BD w b s f
theorem ST.turn {w w' : World} {b : Nat} {s : ByteArray} {st : Except Nat Nat} {S : List Nat} (h : ST w b s st) (t : Turn S w w') (hn : b ∉ S) : ST w' b s st := by
  cases st with
  | ok p =>
    obtain ⟨q, h1, h2⟩ := h
    exact ⟨q, t.other h1 hn, h2⟩
  | error f => exact t.other (show w.heap[b]? = some (rdg s f true) from h) hn
theorem ST.grew {w w' : World} {b : Nat} {s : ByteArray} {st : Except Nat Nat} (h : ST w b s st) (t : Grew w w') : ST w' b s st := h.turn (t.turn []) (by simp)
theorem ST.set {w : World} {b : Nat} {s : ByteArray} {st : Except Nat Nat} (h : ST w b s st) {q : Addr} (hq : b ≠ q.block) (x : Value) : ST (w.setCell q x) b s st := by
  cases st with
  | ok p =>
    obtain ⟨r, h1, h2⟩ := h
    exact ⟨r, heap_other h1 hq x, h2⟩
  | error f => exact heap_other (show w.heap[b]? = some (rdg s f true) from h) hq x
theorem ST.lt {w : World} {b : Nat} {s : ByteArray} {st : Except Nat Nat} (h : ST w b s st) : b < w.heap.size := by
  cases st with
  | ok p =>
    obtain ⟨r, h1, h2⟩ := h
    exact lt_of_obj h1
  | error f => exact lt_of_obj (show w.heap[b]? = some (rdg s f true) from h)
def E0 : ByteArray := ⟨#[]⟩
def tokS (s : ByteArray) : Except Nat Nat → ByteArray
  | .ok p => tk s p
  | .error _ => E0
def isB (s x : ByteArray) : Except Nat Nat → Bool
  | .ok p => decide (tk s p = x ∧ x ≠ E0)
  | .error _ => false
def isS (s x : ByteArray) : Except Nat Nat → Except Nat Nat
  | .ok p => if tk s p = x ∧ x ≠ E0 then .ok (nx s p) else .ok p
  | .error f => .error f
def mustS (s x : ByteArray) : Except Nat Nat → Except Nat Nat
  | .ok p => if tk s p = x ∧ x ≠ E0 then .ok (nx s p) else .error p
  | .error f => .error f
theorem token_any {w : World} {b : Nat} {s : ByteArray} {st : Except Nat Nat} (h : ST w b s st) (hs : s.size ≤ 65536) :
    Calls Tryd.prog 42 #[.pointer (some ⟨b, 0, none⟩)] w fun en w' => en = .returned (.string (tokS s st)) ∧ Turn [b] w w' ∧ ST w' b s st := by
  cases st with
  | ok p =>
    obtain ⟨q, h1, h2, rfl⟩ := h
    refine (token_good b s q w h1 h2 hs).mono ?_
    rintro en w' ⟨rfl, t, h'⟩
    exact ⟨rfl, t, _, h', skp_size s q h2, skp_skp s q⟩
  | error f =>
    refine (token_bad b s f w h).mono ?_
    rintro en w' ⟨rfl, n, rfl⟩
    exact ⟨rfl, (Turn.refl _ _).drewN n, h⟩
theorem is_yes {w : World} {b : Nat} {s : ByteArray} {p : Nat} (h : GD w b s p) (hs : s.size ≤ 65536) (x : ByteArray) (hx : tk s p = x) (h0 : x ≠ E0) :
    Calls Tryd.prog 29 #[.pointer (some ⟨b, 0, none⟩), .string x] w fun en w' => en = .returned (.bool true) ∧ Turn [b] w w' ∧ GD w' b s (nx s p) := by
  have hat := h.at_
  obtain ⟨q, h1, h2, rfl⟩ := h
  have C := token_good b s q w h1 h2 hs
  rw [hx] at C
  have hz := tk_size s (skp s q) hat.1
  have hle := tend_le s (skp s q)
  rw [hx] at hz
  have hte := tend_size s (skp s q) hat.1
  have hss := same_str x
  have hne := not_empty h0
  have hps := hat.1
  clear h1 h2 hx h0
  obtain ⟨p, hp⟩ : ∃ p, p = skp s q := ⟨_, rfl⟩
  rw [← hp] at C hz hle hte hps ⊢
  clear hp hat
  have HZ : Hid (p + x.size = tend s p) := (show p + x.size = tend s p by omega)
  have hb1 : p + x.size ≤ 65536 := by omega
  have HTE : Hid (tend s p ≤ s.size) := hte
  clear hz hle hte
  go_enter Tryd.func29, Tryd.ntmps29
  go_wp2_with fail
  refine C.mono ?_
  rintro en w1 ⟨rfl, t1, h1⟩
  have T1 : Hid (Turn [b] w w1) := t1
  have H1 : Hid (w1.heap[b]? = some (rdg s p false)) := h1
  have c1 := cell_of h1 1
  have c2 := cell_of h1 2
  have z1 := free_of h1 1
  simp at c1 c2
  clear t1 h1 C
  go_wp2_with fail
  go_ret
  refine ⟨by simp, T1.out.set (p := ⟨b, 1, none⟩) (Or.inl (by simp)) _, tend s p, ?_, HTE.out, rfl⟩
  have := rdg_set1 H1.out (p + x.size)
  rw [← HZ.out]
  simpa using this
theorem is_no_at {w : World} {b : Nat} {s : ByteArray} {p q : Nat} (h1 : w.heap[b]? = some (rdg s q false)) (h2 : q ≤ s.size) (h3 : skp s q = p) (hs : s.size ≤ 65536) (x : ByteArray) (hx : ¬ (tk s p = x ∧ x ≠ E0)) :
    Calls Tryd.prog 29 #[.pointer (some ⟨b, 0, none⟩), .string x] w fun en w' => en = .returned (.bool false) ∧ Turn [b] w w' ∧ w'.heap[b]? = some (rdg s p false) := by
  subst h3
  have C := token_good b s q w h1 h2 hs
  clear h1 h2
  obtain ⟨p, hp⟩ : ∃ p, p = skp s q := ⟨_, rfl⟩
  rw [← hp] at C hx ⊢
  clear hp
  by_cases he : tk s p = x
  · have h0 : x = E0 := by
      by_cases h : x = E0
      · exact h
      · exact absurd ⟨he, h⟩ hx
    rw [he] at C
    have hss := same_str x
    have hne := is_empty x h0
    clear he h0 hx
    go_enter Tryd.func29, Tryd.ntmps29
    go_wp2_with fail
    refine C.mono ?_
    rintro en w1 ⟨rfl, t1, h1⟩
    have T1 : Hid (Turn [b] w w1) := t1
    have H1 : Hid (w1.heap[b]? = some (rdg s p false)) := h1
    have c2 := cell_of h1 2
    simp at c2
    clear t1 h1 C
    go_wp2_with fail
    go_ret
    exact ⟨by simp, T1.out, H1.out⟩
  · have hss := other_str he
    clear he hx
    generalize tk s p = y at *
    go_enter Tryd.func29, Tryd.ntmps29
    go_wp2_with fail
    refine C.mono ?_
    rintro en w1 ⟨rfl, t1, h1⟩
    have T1 : Hid (Turn [b] w w1) := t1
    have H1 : Hid (w1.heap[b]? = some (rdg s p false)) := h1
    have c2 := cell_of h1 2
    simp at c2
    clear t1 h1 C
    go_wp2_with fail
    go_ret
    exact ⟨by simp, T1.out, H1.out⟩
theorem is_no {w : World} {b : Nat} {s : ByteArray} {p : Nat} (h : GD w b s p) (hs : s.size ≤ 65536) (x : ByteArray) (hx : ¬ (tk s p = x ∧ x ≠ E0)) :
    Calls Tryd.prog 29 #[.pointer (some ⟨b, 0, none⟩), .string x] w fun en w' => en = .returned (.bool false) ∧ Turn [b] w w' ∧ GD w' b s p := by
  have hat := h.at_
  obtain ⟨q, h1, h2, h3⟩ := h
  refine (is_no_at h1 h2 h3 hs x hx).mono ?_
  rintro en w' ⟨rfl, t, h'⟩
  exact ⟨rfl, t, p, h', hat.1, skp_at hat⟩
theorem is_bad {w : World} {b : Nat} {s : ByteArray} {f : Nat} (h : BD w b s f) (x : ByteArray) :
    Calls Tryd.prog 29 #[.pointer (some ⟨b, 0, none⟩), .string x] w fun en w' => en = .returned (.bool false) ∧ Turn [b] w w' ∧ BD w' b s f := by
  have C := token_bad b s f w h
  have c2 := cell_of h 2
  simp at c2
  have HH : Hid (w.heap[b]? = some (rdg s f true)) := h
  clear h
  go_enter Tryd.func29, Tryd.ntmps29
  go_wp2_with fail
  refine C.mono ?_
  rintro en w1 ⟨rfl, n, rfl⟩
  clear C
  go_wp2_with fail
  go_ret
  exact ⟨by simp, (Turn.refl _ _).drewN n, HH.out⟩
theorem is_any {w : World} {b : Nat} {s : ByteArray} {st : Except Nat Nat} (h : ST w b s st) (hs : s.size ≤ 65536) (x : ByteArray) :
    Calls Tryd.prog 29 #[.pointer (some ⟨b, 0, none⟩), .string x] w fun en w' => en = .returned (.bool (isB s x st)) ∧ Turn [b] w w' ∧ ST w' b s (isS s x st) := by
  cases st with
  | ok p =>
    unfold isB isS
    by_cases hx : tk s p = x ∧ x ≠ E0
    · simp only [if_pos hx, decide_eq_true hx]
      exact is_yes h hs x hx.1 hx.2
    · simp only [if_neg hx, decide_eq_false hx]
      exact is_no h hs x hx
  | error f => exact is_bad h x
theorem must_of {b : Nat} (x : ByteArray) (w : World) (q : Bool) (P1 : World → Prop)
    (C : Calls Tryd.prog 29 #[.pointer (some ⟨b, 0, none⟩), .string x] w fun en w' => en = .returned (.bool q) ∧ P1 w')
    (hc : ∀ w', P1 w' → q = false → ∃ v, w'.cell? ⟨b, 2, none⟩ = some v ∧ w'.frozen? ⟨b, 2, none⟩ = false) :
    Calls Tryd.prog 28 #[.pointer (some ⟨b, 0, none⟩), .string x] w fun en w' => en = .returned (.tuple #[]) ∧ ∃ w1, P1 w1 ∧ w' = if q then w1 else w1.setCell ⟨b, 2, none⟩ (.bool true) := by
  cases q with
  | true =>
    go_enter Tryd.func28, Tryd.ntmps28
    go_wp2_with fail
    refine C.mono ?_
    rintro en w1 ⟨rfl, p1⟩
    clear C hc
    go_wp2_with fail
    go_end0
    first | exact ⟨rfl, w1, p1, rfl⟩ | exact p1 | simpa using p1
  | false =>
    go_enter Tryd.func28, Tryd.ntmps28
    go_wp2_with fail
    refine C.mono ?_
    rintro en w1 ⟨rfl, p1⟩
    obtain ⟨v, c2, z2⟩ := hc w1 p1 (by first | rfl | trivial)
    clear C hc
    go_wp2_with fail
    go_end0
    first | exact ⟨rfl, w1, p1, rfl⟩ | exact ⟨w1, p1, rfl⟩
theorem must_any {w : World} {b : Nat} {s : ByteArray} {st : Except Nat Nat} (h : ST w b s st) (hs : s.size ≤ 65536) (x : ByteArray) :
    Calls Tryd.prog 28 #[.pointer (some ⟨b, 0, none⟩), .string x] w fun en w' => en = .returned (.tuple #[]) ∧ Turn [b] w w' ∧ ST w' b s (mustS s x st) := by
  cases st with
  | ok p =>
    by_cases hx : tk s p = x ∧ x ≠ E0
    · have hm : mustS s x (.ok p) = .ok (nx s p) := by unfold mustS; simp only [if_pos hx]
      rw [hm]
      refine (must_of x w true _ (is_yes h hs x hx.1 hx.2) (fun _ _ h => by cases h)).mono ?_
      rintro en w' ⟨rfl, w1, ⟨t1, g1⟩, rfl⟩
      exact ⟨rfl, t1, g1⟩
    · have hm : mustS s x (.ok p) = .error p := by unfold mustS; simp only [if_neg hx]
      rw [hm]
      have C : Calls Tryd.prog 29 #[.pointer (some ⟨b, 0, none⟩), .string x] w fun en w' => en = .returned (.bool false) ∧ Turn [b] w w' ∧ w'.heap[b]? = some (rdg s p false) := by
        obtain ⟨q, h1, h2, h3⟩ := h
        exact is_no_at h1 h2 h3 hs x hx
      refine (must_of x w false _ C (fun w' h _ => ⟨_, by rw [cell_of h.2]; rfl, free_of h.2 2⟩)).mono ?_
      rintro en w' ⟨rfl, w1, ⟨t1, g1⟩, rfl⟩
      exact ⟨rfl, t1.set (p := ⟨b, 2, none⟩) (Or.inl (by simp)) _, rdg_set2 g1 true⟩
  | error f =>
    refine (must_of x w false _ (is_bad h x) (fun w' h _ => ⟨_, by rw [cell_of h.2]; rfl, free_of h.2 2⟩)).mono ?_
    rintro en w' ⟨rfl, w1, ⟨t1, g1⟩, rfl⟩
    exact ⟨rfl, t1.set (p := ⟨b, 2, none⟩) (Or.inl (by simp)) _, rdg_set2 g1 true⟩
end Go.Proofs.YtmcljnohdknpoaaDoor
