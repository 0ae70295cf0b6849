/-
  A number of a row turned; no statement is proved here.
-/
import Derived.Test.YtojkonoffdlbpaaDoorClo
namespace Go.Proofs.YtojkonoffdlbpaaDoor
open Go.RowKit
set_option linter.unusedVariables false
set_option linter.unusedSimpArgs false

def mapTo {α : Type} (f : α → α) (i : Nat) (l : List α) : List α := (l.take i).map f ++ l.drop i
theorem mapTo_zero {α : Type} (f : α → α) (l : List α) : mapTo f 0 l = l := by simp [mapTo]
theorem mapTo_full {α : Type} (f : α → α) (l : List α) : mapTo f l.length l = l.map f := by simp [mapTo]
theorem mapTo_len {α : Type} (f : α → α) (i : Nat) (l : List α) : (mapTo f i l).length = l.length := by
  unfold mapTo; rw [List.length_append, List.length_map, List.length_take, List.length_drop]; omega
theorem mapTo_get {α : Type} (f : α → α) {i : Nat} {l : List α} {x : α} (h : l[i]? = some x) : (mapTo f i l)[i]? = some x := by
  have hi := (List.getElem?_eq_some_iff.1 h).1
  unfold mapTo
  rw [List.getElem?_append_right (by simp; omega)]
  simp only [List.length_map, List.length_take, Nat.min_eq_left (Nat.le_of_lt hi), Nat.sub_self]
  rw [List.getElem?_drop]
  simpa using h
theorem mapTo_succ {α : Type} (f : α → α) {i : Nat} {l : List α} {x : α} (h : l[i]? = some x) : mapTo f (i + 1) l = (mapTo f i l).set i (f x) := by
  have hi := (List.getElem?_eq_some_iff.1 h).1
  unfold mapTo
  rw [List.set_append_right _ _ (by simp; omega), take_snoc h, List.map_append]
  have e : i - ((l.take i).map f).length = 0 := by simp; omega
  rw [e, List.drop_eq_getElem_cons hi, List.set_cons_zero]
  simp
theorem flat_set {α : Type} {f : α → List Value} {k : Nat} (hf : ∀ a, (f a).length = k) {x' : α} {j : Nat} {u : Value} : ∀ (l : List α) (i : Nat) (x : α), l[i]? = some x → j < k → (f x).set j u = f x' → (l.flatMap f).set (i * k + j) u = (l.set i x').flatMap f := by
  intro l
  induction l with
  | nil => intro i x h; simp at h
  | cons a l ih =>
    intro i x h hj hx
    cases i with
    | zero =>
      simp only [List.getElem?_cons_zero, Option.some.injEq] at h
      subst h
      rw [List.flatMap_cons, List.set_cons_zero, List.flatMap_cons, Nat.zero_mul, Nat.zero_add, List.set_append_left _ _ (by rw [hf]; exact hj), hx]
    | succ i =>
      rw [List.getElem?_cons_succ] at h
      rw [List.flatMap_cons, List.set_cons_succ, List.flatMap_cons, List.set_append_right _ _ (by rw [hf, Nat.succ_mul]; omega), hf, show (i + 1) * k + j - k = i * k + j by rw [Nat.succ_mul]; omega, ih i x h hj hx]
/- The row behind the closure. -/
theorem row_rep {α : Type} {f : α → List Value} {k : Nat} (hf : ∀ a, (f a).length = k) {w w' : World} {lo g c : Nat} {e : TypeId} {l : List α} {i j okb : Nat} {x x' : α} {m : Int} (h : w.ownsRow lo e k (.slice (some ⟨g, 0, none⟩) l.length c) l.length (l.flatMap f)) (hx : l[i]? = some x) (hj : j < k) (hs : (f x).set j (.int .i64 m) = f x') (r : RepO g (i * k + j) okb m w w') :
    w'.ownsRow lo e k (.slice (some ⟨g, 0, none⟩) (l.set i x').length c) (l.set i x').length ((l.set i x').flatMap f) := by
  have h1 := World.ownsRow.stored h (i * k + j) (.int .i64 m)
  rw [flat_set hf l i x hx hj hs] at h1
  rw [List.length_set]
  refine row_same h1.1 (fun g' hg => ?_)
  cases hg
  exact r.num
theorem row_at {w : World} {B : Nat} {e : TypeId} {k : Nat} {v : Value} {n : Nat} {cs : List Value} (h : w.ownsRow B e k v n cs) (hn : 0 < n) : ∃ g c, v = .slice (some ⟨g, 0, none⟩) n c ∧ n ≤ c ∧ v.ownBlock = some g := by
  obtain ⟨h1, ⟨_, h2⟩ | ⟨g, cap, cur, rfl, hB, hg, h3⟩⟩ := h
  · omega
  · exact ⟨g, cap, rfl, h3.1, rfl⟩
/- A row of another kind, or elsewhere, stays. -/
theorem row_rep_tag {w w' : World} {lo lo' g j okb : Nat} {m : Int} {e e' : TypeId} {k k' : Nat} {v v' : Value} {n n' : Nat} {cs cs' : List Value} (h : w.ownsRow lo e k v n cs) (r : RepO g j okb m w w') (hg : w.ownsRow lo' e' k' v' n' cs') (hb : v'.ownBlock = some g) (hne : e' ≠ e) (hok : w.heap[okb]? = some (bobj true)) (hnb : e ≠ 4) : w'.ownsRow lo e k v n cs := by
  refine row_turnP h r.turn (fun g' hg' hx => ?_)
  obtain ⟨cur, hcur⟩ := row_tag h hg'
  obtain ⟨cur2, hcur2⟩ := row_tag hg hb
  rcases hx with rfl | rfl
  · rw [hcur] at hcur2; injection hcur2 with q; injection q with _ q2 _; exact hne q2.symm
  · rw [hcur] at hok; injection hok with q; unfold bobj at q; injection q with _ q2 _; exact hnb q2
theorem row_rep_apart {w w' : World} {lo g j okb : Nat} {m : Int} {e : TypeId} {k : Nat} {v : Value} {n : Nat} {cs : List Value} (h : w.ownsRow lo e k v n cs) (r : RepO g j okb m w w') (hb : ∀ g', v.ownBlock = some g' → g' ≠ g) (hok : w.heap[okb]? = some (bobj true)) (hnb : e ≠ 4) : w'.ownsRow lo e k v n cs := by
  refine row_turnP h r.turn (fun g' hg' hx => ?_)
  obtain ⟨cur, hcur⟩ := row_tag h hg'
  rcases hx with rfl | rfl
  · exact hb _ hg' rfl
  · rw [hcur] at hok; injection hok with q; unfold bobj at q; injection q with _ q2 _; exact hnb q2
def VT.put (x : VT) (m : Int) : VT := ⟨x.num, x.null, m⟩
def FT.put (x : FT) (m : Int) : FT := ⟨x.ty.put m, x.mut_⟩
theorem SubO.setS {a b : Nat} {w w' : World} {x : SB} {q : Q4} {g i okb : Nat} {h m : Int} (s : SubO a b w x q) (hg : q.s.ownBlock = some g) (hx : x.supers[i]? = some h) (hok : w.heap[okb]? = some (bobj true)) (r : RepO g i okb m w w') :
    SubO a b w' ⟨x.final_, x.supers.set i m, x.comp⟩ q := by
  obtain ⟨h1, h2, h3, h4, h5, h6, h7, h8, h9⟩ := s
  obtain ⟨g', c, hv, _, hb⟩ := row_at h1 (by have := (List.getElem?_eq_some_iff.1 hx).1; omega)
  rw [hb] at hg
  cases hg
  refine ⟨?_, row_rep_tag h2 r h1 hb (by decide) hok (by decide), row_rep_tag h3 r h1 hb (by decide) hok (by decide), row_rep_tag h4 r h1 hb (by decide) hok (by decide), h5, h6, h7, h8, h9⟩
  have h1' := h1
  unfold RowI at h1' ⊢
  rw [hv] at h1'
  have := row_rep (f := ic1) (k := 1) (fun _ => rfl) h1' hx (j := 0) (by decide) (x' := m) (m := m) rfl (by rw [Nat.mul_one, Nat.add_zero]; exact r)
  rw [hv]
  rw [List.length_set] at this ⊢
  exact this
theorem SubO.setP {a b : Nat} {w w' : World} {x : SB} {q : Q4} {g i okb : Nat} {y : VT} {m : Int} (s : SubO a b w x q) (hg : q.p.ownBlock = some g) (hx : x.comp.params[i]? = some y) (hok : w.heap[okb]? = some (bobj true)) (r : RepO g (i * 3 + 2) okb m w w') :
    SubO a b w' ⟨x.final_, x.supers, ⟨x.comp.kind, x.comp.params.set i (y.put m), x.comp.results, x.comp.fields⟩⟩ q := by
  obtain ⟨h1, h2, h3, h4, h5, h6, h7, h8, h9⟩ := s
  obtain ⟨g', c, hv, _, hb⟩ := row_at h2 (by have := (List.getElem?_eq_some_iff.1 hx).1; omega)
  rw [hb] at hg
  cases hg
  refine ⟨row_rep_tag h1 r h2 hb (by decide) hok (by decide), ?_, row_rep_apart h3 r (fun g'' hg'' e => h5 _ hb (by rw [← e]; exact hg'')) hok (by decide), row_rep_tag h4 r h2 hb (by decide) hok (by decide), h5, h6, h7, h8, h9⟩
  have h1' := h2
  unfold RowV at h1' ⊢
  rw [hv] at h1'
  have := row_rep (f := VT.c) (k := 3) (fun _ => rfl) h1' hx (j := 2) (by decide) (x' := y.put m) (m := m) rfl r
  rw [hv]
  simp only [List.length_set] at this ⊢
  exact this
theorem SubO.setR {a b : Nat} {w w' : World} {x : SB} {q : Q4} {g i okb : Nat} {y : VT} {m : Int} (s : SubO a b w x q) (hg : q.r.ownBlock = some g) (hx : x.comp.results[i]? = some y) (hok : w.heap[okb]? = some (bobj true)) (r : RepO g (i * 3 + 2) okb m w w') :
    SubO a b w' ⟨x.final_, x.supers, ⟨x.comp.kind, x.comp.params, x.comp.results.set i (y.put m), x.comp.fields⟩⟩ q := by
  obtain ⟨h1, h2, h3, h4, h5, h6, h7, h8, h9⟩ := s
  obtain ⟨g', c, hv, _, hb⟩ := row_at h3 (by have := (List.getElem?_eq_some_iff.1 hx).1; omega)
  rw [hb] at hg
  cases hg
  refine ⟨row_rep_tag h1 r h3 hb (by decide) hok (by decide), row_rep_apart h2 r (fun g'' hg'' e => h5 g'' hg'' (by rw [e]; exact hb)) hok (by decide), ?_, row_rep_tag h4 r h3 hb (by decide) hok (by decide), h5, h6, h7, h8, h9⟩
  have h1' := h3
  unfold RowV at h1' ⊢
  rw [hv] at h1'
  have := row_rep (f := VT.c) (k := 3) (fun _ => rfl) h1' hx (j := 2) (by decide) (x' := y.put m) (m := m) rfl r
  rw [hv]
  simp only [List.length_set] at this ⊢
  exact this
theorem SubO.setF {a b : Nat} {w w' : World} {x : SB} {q : Q4} {g i okb : Nat} {y : FT} {m : Int} (s : SubO a b w x q) (hg : q.f.ownBlock = some g) (hx : x.comp.fields[i]? = some y) (hok : w.heap[okb]? = some (bobj true)) (r : RepO g (i * 4 + 2) okb m w w') :
    SubO a b w' ⟨x.final_, x.supers, ⟨x.comp.kind, x.comp.params, x.comp.results, x.comp.fields.set i (y.put m)⟩⟩ q := by
  obtain ⟨h1, h2, h3, h4, h5, h6, h7, h8, h9⟩ := s
  obtain ⟨g', c, hv, _, hb⟩ := row_at h4 (by have := (List.getElem?_eq_some_iff.1 hx).1; omega)
  rw [hb] at hg
  cases hg
  refine ⟨row_rep_tag h1 r h4 hb (by decide) hok (by decide), row_rep_tag h2 r h4 hb (by decide) hok (by decide), row_rep_tag h3 r h4 hb (by decide) hok (by decide), ?_, h5, h6, h7, h8, h9⟩
  have h1' := h4
  unfold RowF at h1' ⊢
  rw [hv] at h1'
  have := row_rep (f := FT.c) (k := 4) (fun _ => rfl) h1' hx (j := 2) (by decide) (x' := y.put m) (m := m) rfl r
  rw [hv]
  simp only [List.length_set] at this ⊢
  exact this
end Go.Proofs.YtojkonoffdlbpaaDoor
