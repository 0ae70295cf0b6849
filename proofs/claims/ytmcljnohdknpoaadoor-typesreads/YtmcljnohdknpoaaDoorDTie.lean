/-
  The document's reading: what an answer and a state say of a plain reading; the walk of ahead; no statement is proved here.
-/
import Derived.Test.YtmcljnohdknpoaaDoorDParse
import Derived.Test.YtmcljnohdknpoaaDoorRecW
namespace Go.Proofs.YtmcljnohdknpoaaDoor
open Go.RowKit
set_option linter.unusedVariables false
set_option linter.unusedSimpArgs false
set_option linter.constructorNameAsVariable false

/- From a state, an answer and the state behind it are those of the plain reading; on a fault the answer may be any. -/
def Tied {α : Type} (f : Nat → Except Nat (α × Nat)) (st : Except Nat Nat) (x : α) (st' : Except Nat Nat) : Prop := match st with
  | .error e => st' = .error e
  | .ok p => match f p with
    | .ok (a, q) => x = a ∧ st' = .ok q
    | .error e => st' = .error e
theorem Tied.ok {α : Type} {f : Nat → Except Nat (α × Nat)} {p q : Nat} {x a : α} {st' : Except Nat Nat} (h : Tied f (.ok p) x st') (hf : f p = .ok (a, q)) : x = a ∧ st' = .ok q := by
  unfold Tied at h
  simp only [hf] at h
  exact h
theorem Tied.er {α : Type} {f : Nat → Except Nat (α × Nat)} {p e : Nat} {x : α} {st' : Except Nat Nat} (h : Tied f (.ok p) x st') (hf : f p = .error e) : st' = .error e := by
  unfold Tied at h
  simp only [hf] at h
  exact h
theorem Tied.mk {α : Type} {f : Nat → Except Nat (α × Nat)} {p q : Nat} {x : α} (hf : f p = .ok (x, q)) : Tied f (.ok p) x (.ok q) := by
  unfold Tied
  simp only [hf]
  exact ⟨trivial, trivial⟩
theorem Tied.bad {α : Type} {f : Nat → Except Nat (α × Nat)} {p e : Nat} {x : α} (hf : f p = .error e) : Tied f (.ok p) x (.error e) := by
  unfold Tied
  simp only [hf]
/- What stands behind a good state. -/
theorem Tied.from {α : Type} {f : Nat → Except Nat (α × Nat)} {st : Except Nat Nat} {x : α} {q : Nat} (h : Tied f st x (.ok q)) : ∃ p, st = .ok p ∧ f p = .ok (x, q) := by
  cases st with
  | error e => cases h
  | ok p =>
    refine ⟨p, rfl, ?_⟩
    cases hf : f p with
    | error e => cases h.er hf
    | ok y =>
      obtain ⟨a, q'⟩ := y
      obtain ⟨rfl, h2⟩ := h.ok hf
      cases h2
      rfl
theorem val_tied (s : ByteArray) (st : Except Nat Nat) : Tied (valS s) st (valV s st) (valT s st) := by
  cases st with
  | error e => rfl
  | ok p =>
    have h := val_tie s p
    unfold Tied
    simp only
    cases hv : valS s p with
    | error f => rw [hv] at h; exact h
    | ok y =>
      obtain ⟨a, q⟩ := y
      rw [hv] at h
      exact h
theorem up_tied {α : Type} {s : ByteArray} {rd : Nat → Except Nat (α × Nat)} (ha : Adv s rd) {m : List α} {q : Nat} (hq : q ≤ s.size) (hx : tk s q ≠ RP) {a : α} {st1 : Except Nat Nat} (h : Tied rd (.ok q) a st1) (x : List α) (st' : Except Nat Nat) (ht : Tied (uptoS s rd (m ++ [a])) st1 x st') : Tied (uptoS s rd m) (.ok q) x st' := by
  have e : uptoS s rd m q = match rd q with
      | .error f => .error f
      | .ok (a, q1) => uptoS s rd (m ++ [a]) q1 := by
    unfold uptoS
    rw [loopS_eq (up_adv ha) m q hq]
    unfold upStep
    rw [if_neg hx]
    cases rd q with
    | error f => rfl
    | ok y => rfl
  cases hr : rd q with
  | error f =>
    rw [hr] at e
    have := h.er hr
    subst this
    have ht' : st' = .error f := ht
    subst ht'
    exact Tied.bad e
  | ok y =>
    obtain ⟨a', q1⟩ := y
    rw [hr] at e
    obtain ⟨rfl, rfl⟩ := h.ok hr
    unfold Tied at ht ⊢
    simp only [e]
    exact ht
theorem up_end {α : Type} {s : ByteArray} {rd : Nat → Except Nat (α × Nat)} (ha : Adv s rd) (m : List α) {q : Nat} (hq : q ≤ s.size) (hx : tk s q = RP) : Tied (uptoS s rd m) (.ok q) m (.ok (nx s q)) := by
  apply Tied.mk
  unfold uptoS
  rw [loopS_eq (up_adv ha) m q hq]
  unfold upStep
  rw [if_pos hx]
/- How far a reading is from its end. -/
def mOf (s : ByteArray) (w : World) (b : Nat) : Nat := match w.heap[b]? with
  | some (.cells cs _ _) => match (cs[1]? : Option Value), (cs[2]? : Option Value) with
    | some (.int _ n), some (.bool bad) => if bad then 0 else s.size + 1 - skp s n.toNat
    | _, _ => 0
  | _ => 0
theorem mOf_ok {s : ByteArray} {w : World} {b p : Nat} (h : ST w b s (.ok p)) : mOf s w b = s.size + 1 - p := by
  obtain ⟨q, h1, h2, rfl⟩ := h
  unfold mOf
  rw [h1]
  rfl
theorem mOf_er {s : ByteArray} {w : World} {b f : Nat} (h : ST w b s (.error f)) : mOf s w b = 0 := by
  unfold mOf
  rw [show w.heap[b]? = some (rdg s f true) from h]
  rfl
theorem mOf_lt {s : ByteArray} {w w' : World} {b p : Nat} {st : Except Nat Nat} (h : ST w b s (.ok p)) (h' : ST w' b s st) (hp : ∀ q, st = .ok q → p < q) : mOf s w' b < mOf s w b := by
  have hq := h.at_.1
  rw [mOf_ok h]
  cases st with
  | error f => rw [mOf_er h']; omega
  | ok q => rw [mOf_ok h']; have := hp q rfl; omega
theorem ST.obj {w : World} {b : Nat} {s : ByteArray} {st : Except Nat Nat} (h : ST w b s st) : ∃ q, w.heap[b]? = some (rdg s q (isbad st)) := by
  cases st with
  | ok p =>
    obtain ⟨q, h1, _⟩ := h
    exact ⟨q, h1⟩
  | error f => exact ⟨f, h⟩
theorem ST.no {w : World} {b : Nat} {s : ByteArray} {st : Except Nat Nat} (h : ST w b s st) {e : TypeId} (he : 50 ≠ e) : ∀ x ∈ [b], NoT w x e := by
  intro x hx
  obtain ⟨q, h1⟩ := h.obj
  simp at hx
  subst hx
  exact NoT.of h1 he
theorem ST.tb {w w' : World} {b : Nat} {s : ByteArray} {st : Except Nat Nat} (h : ST w b s st) (he : w'.heap[b]? = w.heap[b]?) : ST w' b s st := by
  cases st with
  | ok p =>
    obtain ⟨q, h1, h2⟩ := h
    exact ⟨q, he.trans h1, h2⟩
  | error f => exact he.trans (show w.heap[b]? = some (rdg s f true) from h)
def aheadB (s x : ByteArray) (st : Except Nat Nat) : Bool := isB s LP st && isB s x (isS s LP st)
set_option maxRecDepth 100000 in
theorem ahead_any {w : World} {b : Nat} {s : ByteArray} {st : Except Nat Nat} (h : ST w b s st) (hs : s.size ≤ 65536) (x : ByteArray) :
    Calls Tryd.prog 68 #[.pointer (some ⟨b, 0, none⟩), .string x] w fun en w' => en = .returned (.bool (aheadB s x st)) ∧ Grew w w' := by
  obtain ⟨q, h1⟩ := h.obj
  have c0 := cell_of h1 0
  have c1 := cell_of h1 1
  have c2 := cell_of h1 2
  simp [rdg] at c0 c1 c2
  have S0 : Hid (ST (w.alloc (rdg s q (isbad st))) w.heap.size s st) := by
    cases st with
    | ok p =>
      obtain ⟨q', h2, h3⟩ := h
      rw [h1] at h2
      have : q = q' := by
        injection h2 with h2
        injection h2 with h2
        simp at h2
        exact Int.ofNat.inj h2.1
      subst this
      exact ⟨q, heap_alloc_last _ _, h3⟩
    | error f =>
      have h2 : w.heap[b]? = some (rdg s f true) := h
      rw [h1] at h2
      have : q = f := by
        injection h2 with h2
        injection h2 with h2
        simp at h2
        exact Int.ofNat.inj h2.1
      subst this
      exact heap_alloc_last _ _
  clear h h1
  unfold rdg at S0
  have C := is_any S0.out hs LP
  have G0 : Hid (Grew w (w.alloc (Obj.cells #[.string s, .int .i64 (q : Int), .bool (isbad st)] 50))) := (Grew.refl w).alloc _
  unfold aheadB
  go_enter Tryd.func68, Tryd.ntmps68
  go_wp2_with fail
  refine C.mono ?_
  rintro en w1 ⟨rfl, t1, s1⟩
  have G1 : Hid (Grew w w1) := t1.grew G0.out (by intro x hx; simp at hx; omega)
  have D := is_any s1 hs x
  clear C t1 s1 S0
  cases hb : isB s LP st with
  | false =>
    go_wp2_with fail
    go_ret
    exact ⟨by simp [hb], G1.out⟩
  | true =>
    go_wp2_with fail
    refine D.mono ?_
    rintro en w2 ⟨rfl, t2, s2⟩
    have G2 : Hid (Grew w w2) := t2.grew G1.out (by intro x hx; simp at hx; omega)
    clear D t2 s2
    go_wp2_with fail
    go_ret
    exact ⟨by simp [hb], G2.out⟩
end Go.Proofs.YtmcljnohdknpoaaDoor
