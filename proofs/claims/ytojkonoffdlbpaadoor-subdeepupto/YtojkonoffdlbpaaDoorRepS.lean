/-
  The program's each with the closure of replaced: a type's numbers turned; no statement is proved here.
-/
import Derived.Test.YtojkonoffdlbpaaDoorRepM
namespace Go.Proofs.YtojkonoffdlbpaaDoor
open Go.RowKit
set_option linter.unusedVariables false
set_option linter.unusedSimpArgs false

def VT.mp (σ : Int → Int) (x : VT) : VT := if x.num = 5 ∧ absB x.heap = false then x.put (σ x.heap) else x
def FT.mp (σ : Int → Int) (x : FT) : FT := ⟨x.ty.mp σ, x.mut_⟩
def CT.mp (σ : Int → Int) (c : CT) : CT := ⟨c.kind, c.params.map (VT.mp σ), c.results.map (VT.mp σ), c.fields.map (FT.mp σ)⟩
def SB.mp (σ : Int → Int) (y : SB) : SB := ⟨y.final_, y.supers.map σ, y.comp.mp σ⟩
/- A number that a type speaks of. -/
def NumV (l : List VT) (n : Int) : Prop := ∃ v ∈ l, v.num = 5 ∧ absB v.heap = false ∧ v.heap = n
def Num (y : SB) (n : Int) : Prop := n ∈ y.supers ∨ NumV y.comp.params n ∨ NumV y.comp.results n ∨ NumV (y.comp.fields.map FT.ty) n
/- A type has only lists that its kind has. -/
def Kin (c : CT) : Prop := (c.kind ≠ 1 → c.params = [] ∧ c.results = []) ∧ (c.kind ≠ 2 ∧ c.kind ≠ 3 → c.fields = [])
theorem Kin.cp (c : CT) : Kin c.cp := by
  unfold CT.cp CT.ofK Kin
  by_cases h1 : c.kind = 1
  · simp [h1]
  · by_cases h2 : c.kind = 2 ∨ c.kind = 3
    · rw [if_neg h1, if_pos h2]; simp; omega
    · rw [if_neg h1, if_neg h2]; simp
theorem kp_form {w : World} {a : Nat} {k : Int} {v : Value} {l : List VT} (h : RowV a w v l) (hk : k ≠ 1 → l = []) : ∃ pa pc, KP k v = .slice pa l.length pc ∧ l.length ≤ pc ∧ (0 < l.length → pa = some ⟨v.ownBlock.getD 0, 0, none⟩) := by
  unfold KP
  by_cases h1 : k = 1
  · rw [if_pos h1]
    obtain ⟨pa, pc, hv, h2, h3, h4⟩ := row_max h
    refine ⟨pa, pc, hv, h2, fun h0 => ?_⟩
    obtain ⟨g, c, hv', _, hb⟩ := row_at h h0
    rw [hb]
    rw [hv] at hv'
    injection hv'
  · rw [if_neg h1, hk h1]
    exact ⟨none, 0, rfl, Nat.le_refl _, fun h => by simp at h⟩
theorem kf_form {w : World} {a : Nat} {k : Int} {v : Value} {l : List FT} (h : RowF a w v l) (hk : k ≠ 2 ∧ k ≠ 3 → l = []) : ∃ pa pc, KF k v = .slice pa l.length pc ∧ l.length ≤ pc ∧ (0 < l.length → pa = some ⟨v.ownBlock.getD 0, 0, none⟩) := by
  unfold KF
  by_cases h1 : k = 2 ∨ k = 3
  · rw [if_pos h1]
    obtain ⟨pa, pc, hv, h2, h3, h4⟩ := row_max h
    refine ⟨pa, pc, hv, h2, fun h0 => ?_⟩
    obtain ⟨g, c, hv', _, hb⟩ := row_at h h0
    rw [hb]
    rw [hv] at hv'
    injection hv'
  · rw [if_neg h1, hk (by omega)]
    exact ⟨none, 0, rfl, Nat.le_refl _, fun h => by simp at h⟩
/- The cells of a row's element. -/
theorem row_cells {α : Type} {f : α → List Value} {k : Nat} (hf : ∀ a, (f a).length = k) {w : World} {lo : Nat} {e : TypeId} {v : Value} {l : List α} (h : w.ownsRow lo e k v l.length (l.flatMap f)) {i : Nat} {x : α} (hx : l[i]? = some x) :
    ∃ g c, v = .slice (some ⟨g, 0, none⟩) l.length c ∧ v.ownBlock = some g ∧ lo ≤ g ∧ (∀ j, j < k → w.cell? ⟨g, i * k + j, none⟩ = (f x)[j]?) ∧ ∀ j, w.frozen? ⟨g, j, none⟩ = false := by
  have hi := (List.getElem?_eq_some_iff.1 hx).1
  obtain ⟨g, c, hv, _, hb⟩ := row_at h (by omega)
  have hlo := (h.lt g hb).1
  rw [hv] at h
  refine ⟨g, c, hv, hb, hlo, fun j hj => ?_, fun j => World.ownsRow.frozenAt h j⟩
  have hij : i * k + j < l.length * k := by
    have : (i + 1) * k ≤ l.length * k := Nat.mul_le_mul_right k hi
    rw [Nat.succ_mul] at this
    omega
  rw [World.ownsRow.cellAt h (i * k + j) hij]
  exact flat_at f k hf l i x j hx hj
def OkS (okb a b : Nat) (q : Q4) (y : SB) (w : World) : Prop := w.heap[okb]? = some (bobj true) ∧ SubO a b w y q
theorem OkS.grew {okb a b : Nat} {q : Q4} {y : SB} {w w' : World} (h : OkS okb a b q y w) (g : Grew w w') : OkS okb a b q y w' := ⟨g.other h.1, h.2.turnP (g.turnP (fun _ => False)) (fun _ _ _ h => h)⟩
def Q4.owns (q : Q4) (k : Nat) : Prop := q.s.ownBlock = some k ∨ q.p.ownBlock = some k ∨ q.r.ownBlock = some k ∨ q.f.ownBlock = some k
theorem RepO.mono {g j okb : Nat} {q : Q4} {m : Int} {w w' : World} (r : RepO g j okb m w w') (hg : q.owns g) : TurnP (fun k => q.owns k ∨ k = okb) w w' := r.turn.mono (fun k _ h => h.elim (fun e => Or.inl (by rw [e]; exact hg)) Or.inr)
theorem SubO.owns {a b : Nat} {w : World} {y : SB} {q : Q4} (s : SubO a b w y q) {k : Nat} (h : q.owns k) : a ≤ k ∧ k < b ∧ k < w.heap.size := by
  obtain ⟨h1, h2, h3, h4, h5, h6, h7, h8, h9⟩ := s
  rcases h with h | h | h | h
  · exact ⟨(World.ownsRow.lt h1 k h).1, h6 k h, (World.ownsRow.lt h1 k h).2⟩
  · exact ⟨(World.ownsRow.lt h2 k h).1, h7 k h, (World.ownsRow.lt h2 k h).2⟩
  · exact ⟨(World.ownsRow.lt h3 k h).1, h8 k h, (World.ownsRow.lt h3 k h).2⟩
  · exact ⟨(World.ownsRow.lt h4 k h).1, h9 k h, (World.ownsRow.lt h4 k h).2⟩
theorem SubO.noT {a b : Nat} {w : World} {y : SB} {q : Q4} (s : SubO a b w y q) {k : Nat} (h : q.owns k) : NoT w k 32 := by
  obtain ⟨h1, h2, h3, h4, _⟩ := s
  rcases h with h | h | h | h
  · obtain ⟨c, hc⟩ := row_tag h1 h; exact NoT.of hc (by decide)
  · obtain ⟨c, hc⟩ := row_tag h2 h; exact NoT.of hc (by decide)
  · obtain ⟨c, hc⟩ := row_tag h3 h; exact NoT.of hc (by decide)
  · obtain ⟨c, hc⟩ := row_tag h4 h; exact NoT.of hc (by decide)
theorem mp_yes {σ : Int → Int} {x : VT} (h5 : x.num = 5) (hb : absB x.heap = false) : x.mp σ = x.put (σ x.heap) := by unfold VT.mp; rw [if_pos ⟨h5, hb⟩]
theorem mp_no {σ : Int → Int} {x : VT} (h : x.num = 5 → absB x.heap = true) : x.mp σ = x := by
  unfold VT.mp
  rw [if_neg]
  rintro ⟨h5, hb⟩
  rw [h h5] at hb
  cases hb
theorem mapTo_same {α : Type} {f : α → α} {i : Nat} {l : List α} {x : α} (h : l[i]? = some x) (hx : f x = x) : mapTo f (i + 1) l = mapTo f i l := by
  rw [mapTo_succ f h, hx]
  have := mapTo_get f h
  obtain ⟨hi, he⟩ := List.getElem?_eq_some_iff.1 this
  conv => lhs; rw [← he]
  exact List.set_getElem_self hi
end Go.Proofs.YtojkonoffdlbpaaDoor
