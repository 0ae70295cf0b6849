/-
  The closures of the program's replaced, Roll, Unroll; no statement is proved here.
-/
import Derived.Test.YtnmbniojejckpaaGreatDoorCp
import Derived.Test.YtnmbniojejckpaaGreatDoorRowM
import Derived.OrdersHeld
set_option maxRecDepth 100000
set_option maxHeartbeats 8000000
namespace Go.Proofs.YtnmbniojejckpaaGreatDoor
open Go.RowKit
set_option linter.unusedVariables false
set_option linter.unusedSimpArgs false
/- Of what lay in w only blocks of S may have turned. -/
structure TurnP (S : Nat → Prop) (w w' : World) : Prop where
  os : w'.os = w.os
  tape : w'.tape = w.tape
  output : w'.output = w.output
  size : w.heap.size ≤ w'.heap.size
  block : ∀ k, k < w.heap.size → ¬ S k → w'.heap[k]? = w.heap[k]?
theorem TurnP.refl (S : Nat → Prop) (w : World) : TurnP S w w := ⟨rfl, rfl, rfl, Nat.le_refl _, fun _ _ _ => rfl⟩
theorem TurnP.trans {S : Nat → Prop} {a b c : World} (h : TurnP S a b) (k : TurnP S b c) : TurnP S a c :=
  ⟨k.os.trans h.os, k.tape.trans h.tape, k.output.trans h.output, Nat.le_trans h.size k.size, fun i hi hn => (k.block i (Nat.lt_of_lt_of_le hi h.size) hn).trans (h.block i hi hn)⟩
theorem TurnP.mono {S S' : Nat → Prop} {w w' : World} (h : TurnP S w w') (hs : ∀ k, k < w.heap.size → S k → S' k) : TurnP S' w w' := ⟨h.os, h.tape, h.output, h.size, fun k hk hn => h.block k hk (fun hx => hn (hs k hk hx))⟩
theorem Grew.turnP {w w' : World} (h : Grew w w') (S : Nat → Prop) : TurnP S w w' := ⟨h.1.os, h.1.tape, h.1.output, h.2, fun k hk _ => h.1.block k hk⟩
theorem TurnP.grew {S : Nat → Prop} {w0 w w' : World} (h : TurnP S w w') (g : Grew w0 w) (hs : ∀ k, S k → w0.heap.size ≤ k) : Grew w0 w' :=
  ⟨⟨h.os.trans g.1.os, h.tape.trans g.1.tape, h.output.trans g.1.output, Nat.le_trans g.2 h.size, fun k hk => (h.block k (Nat.lt_of_lt_of_le hk g.2) (fun hx => by have := hs k hx; omega)).trans (g.1.block k hk)⟩, Nat.le_trans g.2 h.size⟩
theorem TurnP.other {S : Nat → Prop} {w w' : World} (h : TurnP S w w') {b : Nat} {o : Obj} (ho : w.heap[b]? = some o) (hn : ¬ S b) : w'.heap[b]? = some o := (h.block b (lt_of_obj ho) hn).trans ho
theorem TurnP.alloc {S : Nat → Prop} {w w' : World} (h : TurnP S w w') (x : Obj) : TurnP S w (w'.alloc x) := h.trans (((Grew.refl w').alloc x).turnP S)
theorem TurnP.drewN {S : Nat → Prop} {w w' : World} (h : TurnP S w w') (n : Nat) : TurnP S w (w'.drewN n) := ⟨h.os, h.tape, h.output, h.size, h.block⟩
theorem TurnP.drew {S : Nat → Prop} {w w' : World} (h : TurnP S w w') : TurnP S w w'.drew := ⟨h.os, h.tape, h.output, h.size, h.block⟩
theorem TurnP.set {S : Nat → Prop} {w w' : World} (h : TurnP S w w') {p : Addr} (hp : S p.block) (u : Value) : TurnP S w (w'.setCell p u) := by
  refine ⟨h.os, h.tape, h.output, by simpa [World.setCell] using h.size, fun k hk hn => ?_⟩
  rw [Below.heap_setCell _ _ _ _ (fun hx => hn (by rw [hx]; exact hp))]
  exact h.block k hk hn
theorem row_turnP {w w' : World} {B : Nat} {e : TypeId} {k : Nat} {v : Value} {n : Nat} {cs : List Value} {S : Nat → Prop} (h : w.ownsRow B e k v n cs) (t : TurnP S w w') (hS : ∀ g, v.ownBlock = some g → ¬ S g) : w'.ownsRow B e k v n cs := by
  obtain ⟨h1, h2 | ⟨g, cap, cur, hv, hB, hg, h3⟩⟩ := h
  · exact ⟨h1, Or.inl h2⟩
  · exact ⟨h1, Or.inr ⟨g, cap, cur, hv, hB, t.other hg (hS g (by rw [hv]; rfl)), h3⟩⟩
/- The rows of a type. -/
structure Q4 where
  s : Value
  p : Value
  r : Value
  f : Value
def Lo (hi : Nat) (v : Value) : Prop := ∀ g, v.ownBlock = some g → g < hi
def Apart (u v : Value) : Prop := ∀ g, u.ownBlock = some g → v.ownBlock ≠ some g
def SubO (lo hi : Nat) (w : World) (x : SB) (q : Q4) : Prop :=
  RowI lo w q.s x.supers ∧ RowV lo w q.p x.comp.params ∧ RowV lo w q.r x.comp.results ∧ RowF lo w q.f x.comp.fields ∧ Apart q.p q.r ∧ Lo hi q.s ∧ Lo hi q.p ∧ Lo hi q.r ∧ Lo hi q.f
theorem SubO.turnP {lo hi : Nat} {w w' : World} {x : SB} {q : Q4} {S : Nat → Prop} (h : SubO lo hi w x q) (t : TurnP S w w') (hS : ∀ g, lo ≤ g → g < hi → ¬ S g) : SubO lo hi w' x q := by
  obtain ⟨h1, h2, h3, h4, h5, h6, h7, h8, h9⟩ := h
  exact ⟨row_turnP h1 t (fun g hg => hS g (h1.lt g hg).1 (h6 g hg)), row_turnP h2 t (fun g hg => hS g (h2.lt g hg).1 (h7 g hg)), row_turnP h3 t (fun g hg => hS g (h3.lt g hg).1 (h8 g hg)), row_turnP h4 t (fun g hg => hS g (h4.lt g hg).1 (h9 g hg)), h5, h6, h7, h8, h9⟩
/- A turn in a block of another kind. -/
theorem SubO.turnK {lo hi : Nat} {w w' : World} {x : SB} {q : Q4} {S : Nat → Prop} (h : SubO lo hi w x q) (t : TurnP S w w') (hS : ∀ g, S g → NoT w g 3 ∧ NoT w g 46 ∧ NoT w g 112) : SubO lo hi w' x q := by
  obtain ⟨h1, h2, h3, h4, h5, h6, h7, h8, h9⟩ := h
  have key : ∀ {e k v n cs}, w.ownsRow lo e k v n cs → (∀ g, S g → NoT w g e) → w'.ownsRow lo e k v n cs := by
    intro e k v n cs hr hn
    obtain ⟨r1, r2 | ⟨g, cap, cur, hv, hB, hg, r3⟩⟩ := hr
    · exact ⟨r1, Or.inl r2⟩
    · exact ⟨r1, Or.inr ⟨g, cap, cur, hv, hB, t.other hg (fun hx => hn g hx _ _ hg), r3⟩⟩
  exact ⟨key h1 (fun g hg => (hS g hg).1), key h2 (fun g hg => (hS g hg).2.1), key h3 (fun g hg => (hS g hg).2.1), key h4 (fun g hg => (hS g hg).2.2), h5, h6, h7, h8, h9⟩
def Chain (w : World) : Nat → List (SB × Q4) → Nat → Prop
  | lo, [], hi => lo ≤ hi
  | lo, (x, q) :: r, hi => ∃ mid, lo ≤ mid ∧ SubO lo mid w x q ∧ Chain w mid r hi
theorem Chain.le {w : World} : ∀ {l : List (SB × Q4)} {lo hi : Nat}, Chain w lo l hi → lo ≤ hi
  | [], _, _, h => h
  | _ :: _, _, _, ⟨_, h1, _, h3⟩ => Nat.le_trans h1 h3.le
theorem Chain.snoc {w : World} : ∀ {l : List (SB × Q4)} {lo hi hi' : Nat} {x : SB} {q : Q4}, Chain w lo l hi → hi ≤ hi' → SubO hi hi' w x q → Chain w lo (l ++ [(x, q)]) hi'
  | [], lo, hi, hi', x, q, h, h1, h2 => ⟨hi', Nat.le_trans h h1, by
      obtain ⟨a1, a2, a3, a4, a5⟩ := h2
      exact ⟨row_low a1 h, row_low a2 h, row_low a3 h, row_low a4 h, a5⟩, Nat.le_refl _⟩
  | (y, p) :: l, lo, hi, hi', x, q, ⟨mid, h0, h1, h2⟩, h3, h4 => ⟨mid, h0, h1, Chain.snoc h2 h3 h4⟩
theorem Chain.turnK {w w' : World} {S : Nat → Prop} (t : TurnP S w w') (hS : ∀ g, S g → NoT w g 3 ∧ NoT w g 46 ∧ NoT w g 112) : ∀ {l : List (SB × Q4)} {lo hi : Nat}, Chain w lo l hi → Chain w' lo l hi
  | [], _, _, h => h
  | _ :: _, _, _, ⟨mid, h1, h2, h3⟩ => ⟨mid, h1, h2.turnK t hS, Chain.turnK t hS h3⟩
theorem Chain.turnP {w w' : World} {S : Nat → Prop} (t : TurnP S w w') : ∀ {l : List (SB × Q4)} {lo hi : Nat}, Chain w lo l hi → (∀ g, lo ≤ g → g < hi → ¬ S g) → Chain w' lo l hi
  | [], _, _, h, _ => h
  | _ :: _, _, _, ⟨mid, h1, h2, h3⟩, hS => ⟨mid, h1, h2.turnP t (fun g a b => hS g a (Nat.lt_of_lt_of_le b h3.le)), Chain.turnP t h3 (fun g a b => hS g (Nat.le_trans h1 a) b)⟩
theorem Chain.grew {w w' : World} {l : List (SB × Q4)} {lo hi : Nat} (h : Chain w lo l hi) (g : Grew w w') : Chain w' lo l hi := Chain.turnK (S := fun _ => False) (g.turnP _) (fun _ h => h.elim) h
/- The i-th of them; when only its blocks turn. -/
theorem Chain.at {w : World} : ∀ {l : List (SB × Q4)} {lo hi : Nat} {i : Nat} {x : SB} {q : Q4}, Chain w lo l hi → l[i]? = some (x, q) → ∃ a b, lo ≤ a ∧ b ≤ hi ∧ SubO a b w x q ∧
    ∀ (w' : World) (S : Nat → Prop) (x' : SB), TurnP S w w' → (∀ g, S g → a ≤ g ∧ g < b ∨ hi ≤ g) → SubO a b w' x' q → Chain w' lo (l.set i (x', q)) hi
  | (y, p) :: l, lo, hi, 0, x, q, ⟨mid, h0, h1, h2⟩, h => by
    simp only [List.getElem?_cons_zero, Option.some.injEq, Prod.mk.injEq] at h
    obtain ⟨rfl, rfl⟩ := h
    refine ⟨lo, mid, Nat.le_refl _, h2.le, h1, fun w' S x' t hS hx => ⟨mid, h0, hx, Chain.turnP t h2 (fun g a b hg => ?_)⟩⟩
    rcases hS g hg with h | h <;> omega
  | (y, p) :: l, lo, hi, i + 1, x, q, ⟨mid, h0, h1, h2⟩, h => by
    rw [List.getElem?_cons_succ] at h
    obtain ⟨a, b, h3, h4, h5, h6⟩ := Chain.at h2 h
    refine ⟨a, b, Nat.le_trans h0 h3, h4, h5, fun w' S x' t hS hx => ⟨mid, h0, h1.turnP t (fun g ha hb hg => ?_), h6 w' S x' t hS hx⟩⟩
    have := h2.le
    rcases hS g hg with h | h <;> omega
def f6 (y : SB × Q4) : List Value := [.bool y.1.final_, y.2.s, .int .i64 y.1.comp.kind, y.2.p, y.2.r, y.2.f]
def SubsO (B : Nat) (w : World) (v : Value) (l : List (SB × Q4)) (hi : Nat) : Prop := w.ownsRow B 108 6 v l.length (l.flatMap f6) ∧ Chain w B l hi ∧ hi ≤ w.heap.size
theorem SubsO.nil (B : Nat) (w : World) (h : B ≤ w.heap.size) : SubsO B w NILS [] w.heap.size := ⟨World.ownsRow_nil _ _ _ _, h, Nat.le_refl _⟩
theorem SubsO.grew {B : Nat} {w w' : World} {v : Value} {l : List (SB × Q4)} {hi : Nat} (h : SubsO B w v l hi) (g : Grew w w') : SubsO B w' v l hi := ⟨row_grew h.1 g, h.2.1.grew g, Nat.le_trans h.2.2 g.2⟩
/- A turn below. -/
theorem SubsO.low {B : Nat} {w w' : World} {v : Value} {l : List (SB × Q4)} {hi : Nat} {S : Nat → Prop} (h : SubsO B w v l hi) (t : TurnP S w w') (hS : ∀ g, S g → g < B) : SubsO B w' v l hi :=
  ⟨row_turnP h.1 t (fun g hg hx => by have := (h.1.lt g hg).1; have := hS g hx; omega), h.2.1.turnP t (fun g a _ hx => by have := hS g hx; omega), Nat.le_trans h.2.2 t.size⟩
theorem SubO.rd {lo hi : Nat} {w : World} {x : SB} {q : Q4} (h : SubO lo hi w x q) : SubR w x q.s q.p q.r q.f := ⟨h.1.lst, h.2.1.lst, h.2.2.1.lst, h.2.2.2.1.lst⟩
theorem Chain.all {w : World} {l : List (SB × Q4)} {lo hi : Nat} (h : Chain w lo l hi) {i : Nat} {y : SB × Q4} (hy : l[i]? = some y) : SubR w y.1 y.2.s y.2.p y.2.r y.2.f := by
  obtain ⟨a, b, _, _, h5, _⟩ := h.at (x := y.1) (q := y.2) hy
  exact h5.rd
theorem SubsO.lst {B : Nat} {w : World} {v : Value} {l : List (SB × Q4)} {hi : Nat} (h : SubsO B w v l hi) : LS w v (l.map Prod.fst) := by
  obtain ⟨h1, h2, h3⟩ := h
  obtain ⟨a, c, hv, e1, e2, hz⟩ := row_max h1
  refine ⟨a, c, by rw [List.length_map]; exact hv, by rw [List.length_map]; exact e1, e2, hz, ?_⟩
  have h0 := h1
  obtain ⟨hl, ⟨_, h4⟩ | ⟨g, cap, cur, hv', hB, hg, h4⟩⟩ := h1
  · left; rw [List.eq_nil_of_length_eq_zero h4]; rfl
  · right
    have hva := hv.symm.trans hv'
    injection hva with e3 _ _
    refine ⟨g, 0, e3, fun i x hx => ?_⟩
    rw [List.getElem?_map] at hx
    obtain ⟨y, hy, rfl⟩ := Option.map_eq_some_iff.1 hx
    have hi : i < l.length := (List.getElem?_eq_some_iff.1 hy).1
    rw [hv'] at h0
    have cl : ∀ j, j < 6 → w.cell? ⟨g, 0 + i * 6 + j, none⟩ = (f6 y)[j]? := fun j hj => by
      rw [Nat.zero_add, h0.cellAt (i * 6 + j) (by omega)]
      exact flat_at f6 6 (fun _ => rfl) l i y j hy hj
    exact ⟨_, _, _, _, h2.all hy, cl 0 (by decide), cl 1 (by decide), cl 2 (by decide), cl 3 (by decide), cl 4 (by decide), cl 5 (by decide)⟩
theorem row_tag {w : World} {B : Nat} {e : TypeId} {k : Nat} {v : Value} {n : Nat} {cs : List Value} (h : w.ownsRow B e k v n cs) {g : Nat} (hg : v.ownBlock = some g) : ∃ cur, w.heap[g]? = some (.cells cur e (0, 0)) := by
  obtain ⟨h1, ⟨h2, _⟩ | ⟨g', cap, cur, hv, hB, hgg, h3⟩⟩ := h
  · rw [h2] at hg; cases hg
  · rw [hv] at hg; cases hg; exact ⟨cur, hgg⟩
theorem Chain.low {w : World} : ∀ {l : List (SB × Q4)} {lo lo' hi : Nat}, Chain w lo l hi → lo' ≤ lo → Chain w lo' l hi
  | [], _, _, _, h, h' => Nat.le_trans h' h
  | _ :: _, _, _, _, ⟨mid, h1, ⟨a1, a2, a3, a4, a5⟩, h3⟩, h' => ⟨mid, Nat.le_trans h' h1, ⟨row_low a1 h', row_low a2 h', row_low a3 h', row_low a4 h', a5⟩, h3⟩
def CT.cp (c : CT) : CT := ⟨c.kind, c.ofK.params.map VT.cnt, c.ofK.results.map VT.cnt, c.ofK.fields.map FT.cnt⟩
def SB.cp (x : SB) : SB := ⟨x.final_, x.supers, x.comp.cp⟩
theorem ofK_rd {w : World} {x : SB} {sv pv rv fv : Value} (h : SubR w x sv pv rv fv) : LV w (KP x.comp.kind pv) x.comp.ofK.params ∧ LV w (KP x.comp.kind rv) x.comp.ofK.results ∧ LF w (KF x.comp.kind fv) x.comp.ofK.fields := by
  obtain ⟨h1, h2, h3, h4⟩ := h
  unfold KP KF CT.ofK
  by_cases k1 : x.comp.kind = 1
  · rw [if_pos k1, if_pos k1, if_pos k1, if_neg (by omega)]
    exact ⟨h2, h3, Lst.nil _ _ _⟩
  · rw [if_neg k1, if_neg k1, if_neg k1]
    by_cases k2 : x.comp.kind = 2 ∨ x.comp.kind = 3
    · rw [if_pos k2, if_pos k2]
      exact ⟨Lst.nil _ _ _, Lst.nil _ _ _, h4⟩
    · rw [if_neg k2, if_neg k2]
      exact ⟨Lst.nil _ _ _, Lst.nil _ _ _, Lst.nil _ _ _⟩
theorem ofK_sml {x : SB} (h : Sml x) : x.comp.ofK.params.length ≤ 1048576 ∧ x.comp.ofK.results.length ≤ 1048576 ∧ x.comp.ofK.fields.length ≤ 1048576 := by
  obtain ⟨h1, h2, h3, h4⟩ := h
  unfold CT.ofK
  split
  · exact ⟨h2, h3, by simp⟩
  · split
    · exact ⟨by simp, by simp, h4⟩
    · exact ⟨by simp, by simp, by simp⟩
def UNIT : Value := .tuple #[]
theorem row_same {w w' : World} {B : Nat} {e : TypeId} {k : Nat} {v : Value} {n : Nat} {cs : List Value} (h : w.ownsRow B e k v n cs) (hg : ∀ g, v.ownBlock = some g → w'.heap[g]? = w.heap[g]?) : w'.ownsRow B e k v n cs := by
  obtain ⟨h1, h2 | ⟨g, cap, cur, hv, hB, hgg, h3⟩⟩ := h
  · exact ⟨h1, Or.inl h2⟩
  · exact ⟨h1, Or.inr ⟨g, cap, cur, hv, hB, (hg g (by rw [hv]; rfl)).trans hgg, h3⟩⟩
def bobj (b : Bool) : Obj := .cells #[.bool b] 4 (0, 0)
def iobj (n : Int) : Obj := .cells #[.int .i64 n] 3 (0, 0)
/- What the closure leaves: the number is turned, and the flag is set still. -/
structure RepO (g j okb : Nat) (m : Int) (w w' : World) : Prop where
  turn : TurnP (fun k => k = g ∨ k = okb) w w'
  num : w'.heap[g]? = (w.setCell ⟨g, j, none⟩ (.int .i64 m)).heap[g]?
  ok : w'.heap[okb]? = some (bobj true)
end Go.Proofs.YtnmbniojejckpaaGreatDoor
