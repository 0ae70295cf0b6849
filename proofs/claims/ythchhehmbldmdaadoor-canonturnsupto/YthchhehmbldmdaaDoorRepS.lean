/-
  The program's each with the closure of replaced: a type's numbers turned; no statement is proved here.
-/
import Derived.Test.YthchhehmbldmdaaDoorRepM
namespace Go.Proofs.YthchhehmbldmdaaDoor
open Go.RowKit
set_option linter.unusedVariables false
set_option linter.unusedSimpArgs false

def VT.mp (σ : Int → Int) (x : VT) : VT := if x.num = 5 ∧ absB x.heap = false then x.put (σ x.heap) else x
def FT.mp (σ : Int → Int) (x : FT) : FT := ⟨x.ty.mp σ, x.mut_⟩
def CT.mp (σ : Int → Int) (c : CT) : CT := ⟨c.kind, c.params.map (VT.mp σ), c.results.map (VT.mp σ), c.fields.map (FT.mp σ)⟩
def SB.mp (σ : Int → Int) (y : SB) : SB := ⟨y.final_, y.supers.map σ, y.comp.mp σ⟩
/- A number that a type speaks of. -/
def NumV (l : List VT) (n : Int) : Prop := ∃ v ∈ l, v.num = 5 ∧ absB v.heap = false ∧ v.heap = n
def Num (y : SB) (n : Int) : Prop := n ∈ y.supers ∨ NumV y.comp.params n ∨ NumV y.comp.results n ∨ NumV (y.comp.fields.map FT.ty) n
/- A type has only lists that its kind has. -/
def Kin (c : CT) : Prop := (c.kind ≠ 1 → c.params = [] ∧ c.results = []) ∧ (c.kind ≠ 2 ∧ c.kind ≠ 3 → c.fields = [])
theorem Kin.cp (c : CT) : Kin c.cp := by
  unfold CT.cp CT.ofK Kin
  by_cases h1 : c.kind = 1
  · simp [h1]
  · by_cases h2 : c.kind = 2 ∨ c.kind = 3
    · rw [if_neg h1, if_pos h2]; simp; omega
    · rw [if_neg h1, if_neg h2]; simp
theorem kp_form {w : World} {a : Nat} {k : Int} {v : Value} {l : List VT} (h : RowV a w v l) (hk : k ≠ 1 → l = []) : ∃ pa pc, KP k v = .slice pa l.length pc ∧ l.length ≤ pc ∧ (0 < l.length → pa = some ⟨v.ownBlock.getD 0, 0, none⟩) := by
  unfold KP
  by_cases h1 : k = 1
  · rw [if_pos h1]
    obtain ⟨pa, pc, hv, h2, h3, h4⟩ := row_max h
    refine ⟨pa, pc, hv, h2, fun h0 => ?_⟩
    obtain ⟨g, c, hv', _, hb⟩ := row_at h h0
    rw [hb]
    rw [hv] at hv'
    injection hv'
  · rw [if_neg h1, hk h1]
    exact ⟨none, 0, rfl, Nat.le_refl _, fun h => by simp at h⟩
theorem kf_form {w : World} {a : Nat} {k : Int} {v : Value} {l : List FT} (h : RowF a w v l) (hk : k ≠ 2 ∧ k ≠ 3 → l = []) : ∃ pa pc, KF k v = .slice pa l.length pc ∧ l.length ≤ pc ∧ (0 < l.length → pa = some ⟨v.ownBlock.getD 0, 0, none⟩) := by
  unfold KF
  by_cases h1 : k = 2 ∨ k = 3
  · rw [if_pos h1]
    obtain ⟨pa, pc, hv, h2, h3, h4⟩ := row_max h
    refine ⟨pa, pc, hv, h2, fun h0 => ?_⟩
    obtain ⟨g, c, hv', _, hb⟩ := row_at h h0
    rw [hb]
    rw [hv] at hv'
    injection hv'
  · rw [if_neg h1, hk (by omega)]
    exact ⟨none, 0, rfl, Nat.le_refl _, fun h => by simp at h⟩
/- The cells of a row's element. -/
theorem row_cells {α : Type} {f : α → List Value} {k : Nat} (hf : ∀ a, (f a).length = k) {w : World} {lo : Nat} {e : TypeId} {v : Value} {l : List α} (h : w.ownsRow lo e k v l.length (l.flatMap f)) {i : Nat} {x : α} (hx : l[i]? = some x) :
    ∃ g c, v = .slice (some ⟨g, 0, none⟩) l.length c ∧ v.ownBlock = some g ∧ lo ≤ g ∧ (∀ j, j < k → w.cell? ⟨g, i * k + j, none⟩ = (f x)[j]?) ∧ ∀ j, w.frozen? ⟨g, j, none⟩ = false := by
  have hi := (List.getElem?_eq_some_iff.1 hx).1
  obtain ⟨g, c, hv, _, hb⟩ := row_at h (by omega)
  have hlo := (h.lt g hb).1
  rw [hv] at h
  refine ⟨g, c, hv, hb, hlo, fun j hj => ?_, fun j => World.ownsRow.frozenAt h j⟩
  have hij : i * k + j < l.length * k := by
    have : (i + 1) * k ≤ l.length * k := Nat.mul_le_mul_right k hi
    rw [Nat.succ_mul] at this
    omega
  rw [World.ownsRow.cellAt h (i * k + j) hij]
  exact flat_at f k hf l i x j hx hj
def OkS (okb a b : Nat) (q : Q4) (y : SB) (w : World) : Prop := w.heap[okb]? = some (bobj true) ∧ SubO a b w y q
theorem OkS.grew {okb a b : Nat} {q : Q4} {y : SB} {w w' : World} (h : OkS okb a b q y w) (g : Grew w w') : OkS okb a b q y w' := ⟨g.other h.1, h.2.turnP (g.turnP (fun _ => False)) (fun _ _ _ h => h)⟩
def Q4.owns (q : Q4) (k : Nat) : Prop := q.s.ownBlock = some k ∨ q.p.ownBlock = some k ∨ q.r.ownBlock = some k ∨ q.f.ownBlock = some k
theorem RepO.mono {g j okb : Nat} {q : Q4} {m : Int} {w w' : World} (r : RepO g j okb m w w') (hg : q.owns g) : TurnP (fun k => q.owns k ∨ k = okb) w w' := r.turn.mono (fun k _ h => h.elim (fun e => Or.inl (by rw [e]; exact hg)) Or.inr)
theorem SubO.owns {a b : Nat} {w : World} {y : SB} {q : Q4} (s : SubO a b w y q) {k : Nat} (h : q.owns k) : a ≤ k ∧ k < b ∧ k < w.heap.size := by
  obtain ⟨h1, h2, h3, h4, h5, h6, h7, h8, h9⟩ := s
  rcases h with h | h | h | h
  · exact ⟨(World.ownsRow.lt h1 k h).1, h6 k h, (World.ownsRow.lt h1 k h).2⟩
  · exact ⟨(World.ownsRow.lt h2 k h).1, h7 k h, (World.ownsRow.lt h2 k h).2⟩
  · exact ⟨(World.ownsRow.lt h3 k h).1, h8 k h, (World.ownsRow.lt h3 k h).2⟩
  · exact ⟨(World.ownsRow.lt h4 k h).1, h9 k h, (World.ownsRow.lt h4 k h).2⟩
theorem SubO.noT {a b : Nat} {w : World} {y : SB} {q : Q4} (s : SubO a b w y q) {k : Nat} (h : q.owns k) : NoT w k 59 := by
  obtain ⟨h1, h2, h3, h4, _⟩ := s
  rcases h with h | h | h | h
  · obtain ⟨c, hc⟩ := row_tag h1 h; exact NoT.of hc (by decide)
  · obtain ⟨c, hc⟩ := row_tag h2 h; exact NoT.of hc (by decide)
  · obtain ⟨c, hc⟩ := row_tag h3 h; exact NoT.of hc (by decide)
  · obtain ⟨c, hc⟩ := row_tag h4 h; exact NoT.of hc (by decide)
theorem mp_yes {σ : Int → Int} {x : VT} (h5 : x.num = 5) (hb : absB x.heap = false) : x.mp σ = x.put (σ x.heap) := by unfold VT.mp; rw [if_pos ⟨h5, hb⟩]
theorem mp_no {σ : Int → Int} {x : VT} (h : x.num = 5 → absB x.heap = true) : x.mp σ = x := by
  unfold VT.mp
  rw [if_neg]
  rintro ⟨h5, hb⟩
  rw [h h5] at hb
  cases hb
theorem mapTo_same {α : Type} {f : α → α} {i : Nat} {l : List α} {x : α} (h : l[i]? = some x) (hx : f x = x) : mapTo f (i + 1) l = mapTo f i l := by
  rw [mapTo_succ f h, hx]
  have := mapTo_get f h
  obtain ⟨hi, he⟩ := List.getElem?_eq_some_iff.1 this
  conv => lhs; rw [← he]
  exact List.set_getElem_self hi
set_option maxHeartbeats 1000000 in
theorem sub_roll {w : World} {a b okb swb : Nat} {q : Q4} {y : SB} {k1 k2 : Value} (σ : Int → Int) (s : SubO a b w y q) (hk : Kin y.comp) (hm : Sml y) (hok : w.heap[okb]? = some (bobj true)) (hsw : w.cell? ⟨swb, 0, none⟩ = some (.func (.func 33) #[] #[k1, k2])) (hsb : swb < a) (hne : swb ≠ okb) (hob : okb < a ∨ b ≤ okb)
    (hswap : ∀ n, Num y n → ∀ w', TurnP (fun k => q.owns k ∨ k = okb) w w' → Calls Tryd.prog 33 #[.int .i64 n, k1, k2] w' fun e w'' => e = .returned (.tuple #[.int .i64 (σ n), .bool true]) ∧ w'' = w') :
    Calls Tryd.prog 43 #[.agg #[.bool y.final_, q.s, .int .i64 y.comp.kind, q.p, q.r, q.f], (.func (.func 46) #[] #[.pointer (some ⟨swb, 0, none⟩), .pointer (some ⟨okb, 0, none⟩)])] w fun e w' => e = .returned UNIT ∧ OkS okb a b q (y.mp σ) w' ∧ TurnP (fun k => q.owns k ∨ k = okb) w w' := by
  obtain ⟨sa, sc, hsv, hsl, _, _⟩ := row_max s.1
  have hsa : 0 < y.supers.length → sa = some ⟨q.s.ownBlock.getD 0, 0, none⟩ := fun h0 => by
    obtain ⟨g, c, hv', _, hb'⟩ := row_at s.1 h0
    rw [hb']
    rw [hsv] at hv'
    injection hv'
  obtain ⟨pa, pc, hpv, hpl, hpa⟩ := kp_form s.2.1 (fun h => (hk.1 h).1)
  obtain ⟨ra, rc, hrv, hrl, hra⟩ := kp_form s.2.2.1 (fun h => (hk.1 h).2)
  obtain ⟨fa, fc, hfv, hfl, hfa⟩ := kf_form s.2.2.2.1 hk.2
  obtain ⟨m1, m2, m3, m4⟩ := hm
  have hokl : okb < w.heap.size := lt_of_obj hok
  have xp : ∃ a n c, q.p = .slice a n c := by obtain ⟨a, c, h, _⟩ := row_max s.2.1; exact ⟨a, _, c, h⟩
  have xr : ∃ a n c, q.r = .slice a n c := by obtain ⟨a, c, h, _⟩ := row_max s.2.2.1; exact ⟨a, _, c, h⟩
  have xf : ∃ a n c, q.f = .slice a n c := by obtain ⟨a, c, h, _⟩ := row_max s.2.2.2.1; exact ⟨a, _, c, h⟩
  have hswl := lt_of_cell hsw
  have swk : ∀ w', TurnP (fun k => q.owns k ∨ k = okb) w w' → w'.cell? ⟨swb, 0, none⟩ = some (.func (.func 33) #[] #[k1, k2]) := fun w' t => by
    have hh := t.block swb hswl (fun hx => hx.elim (fun h => by have := s.owns h; omega) (fun h => hne h))
    unfold World.cell? at hsw ⊢
    rw [hh]; exact hsw
  have Q0 : SubO a b w ⟨y.final_, y.supers, y.comp⟩ q := s
  have main := each_rep (w := w) (T := TurnP (fun k => q.owns k ∨ k = okb))
    (Is := fun i w' => OkS okb a b q ⟨y.final_, mapTo σ i y.supers, y.comp⟩ w')
    (Ip := fun i w' => OkS okb a b q ⟨y.final_, y.supers.map σ, ⟨y.comp.kind, mapTo (VT.mp σ) i y.comp.params, y.comp.results, y.comp.fields⟩⟩ w')
    (Ir := fun i w' => OkS okb a b q ⟨y.final_, y.supers.map σ, ⟨y.comp.kind, y.comp.params.map (VT.mp σ), mapTo (VT.mp σ) i y.comp.results, y.comp.fields⟩⟩ w')
    (If := fun i w' => OkS okb a b q ⟨y.final_, y.supers.map σ, ⟨y.comp.kind, y.comp.params.map (VT.mp σ), y.comp.results.map (VT.mp σ), mapTo (FT.mp σ) i y.comp.fields⟩⟩ w')
    (fin := y.final_) (kind := y.comp.kind) (sb := q.s.ownBlock.getD 0) (so := 0) (pb := q.p.ownBlock.getD 0) (po := 0) (rb := q.r.ownBlock.getD 0) (ro := 0) (fb := q.f.ownBlock.getD 0) (fo := 0) (c1 := .pointer (some ⟨swb, 0, none⟩)) (c2 := .pointer (some ⟨okb, 0, none⟩))
    hpv hrv hfv xp xr xf hsa hpa hra hfa hsl hpl hrl hfl m1 m2 m3 m4
    (fun w' w'' g => g.turnP _) (fun a b c h k => h.trans k) (fun a b h => h.size) (fun w' w'' t b' hb' cs t' _ ho => t.other ho (fun hh => hh.elim (fun h => by have := (s.owns h).2.2; omega) (fun h => by omega))) ⟨hok, by rw [mapTo_zero]; exact Q0⟩ (fun i w' w'' h g => h.grew g) (fun i w' w'' h g => h.grew g)
    (fun w' h => by rw [mapTo_full] at h; rw [mapTo_zero]; exact h) (fun w' h => by rw [mapTo_full] at h; rw [mapTo_zero]; exact h) (fun w' h => by rw [mapTo_full] at h; rw [mapTo_zero]; exact h) ?_ ?_ ?_ ?_
  · rw [← hsv, mapTo_full] at main
    exact main
  · intro i hi w' ⟨ok', so'⟩ t
    have hx : y.supers[i]? = some y.supers[i] := List.getElem?_eq_getElem hi
    obtain ⟨g, c, hv, hgb, hlo, hc, hz⟩ := row_cells (f := ic1) (k := 1) (fun _ => rfl) so'.1 (mapTo_get σ hx)
    have hhi := so'.2.2.2.2.2.1 g hgb
    have hc0 := hc 0 (by decide)
    rw [Nat.mul_one, Nat.add_zero] at hc0
    rw [hgb, Option.getD_some, Nat.zero_add]
    refine (clo_roll (m := σ y.supers[i]) hc0 (hz i) (swk w' t) ok' (by omega) (fun w2 h2 => hswap _ (Or.inl (List.getElem_mem hi)) w2 (t.trans (h2.turnP _)))).mono ?_
    rintro e w2 ⟨rfl, r⟩
    refine ⟨rfl, ⟨r.ok, ?_⟩, r.mono (Or.inl hgb)⟩
    have := so'.setS hgb (mapTo_get σ hx) ok' r
    rw [← mapTo_succ σ hx] at this
    exact this
  · intro i hi w' ⟨ok', so'⟩ t
    have hx : y.comp.params[i]? = some y.comp.params[i] := List.getElem?_eq_getElem hi
    obtain ⟨g, c, hv, hgb, hlo, hc, hz⟩ := row_cells (f := VT.c) (k := 3) (fun _ => rfl) so'.2.1 (mapTo_get (VT.mp σ) hx)
    have hhi := so'.2.2.2.2.2.2.1 g hgb
    rw [hgb, Option.getD_some, Nat.zero_add]
    refine heapOf_rep (x := y.comp.params[i]) ⟨hc 0 (by decide), hc 1 (by decide), hc 2 (by decide)⟩ _ (fun h5 hb5 => ?_) (fun hn => ?_)
    · refine (clo_roll (m := σ y.comp.params[i].heap) (hc 2 (by decide)) (hz _) (swk w' t) ok' (by omega) (fun w2 h2 => hswap _ (Or.inr (Or.inl ⟨_, List.getElem_mem hi, h5, hb5, rfl⟩)) w2 (t.trans (h2.turnP _)))).mono ?_
      rintro e w2 ⟨rfl, r⟩
      refine ⟨rfl, ⟨r.ok, ?_⟩, r.mono (Or.inr (Or.inl hgb))⟩
      have := so'.setP hgb (mapTo_get (VT.mp σ) hx) ok' r
      rw [mapTo_succ (VT.mp σ) hx, mp_yes h5 hb5]
      exact this
    · refine ⟨⟨ok', ?_⟩, TurnP.refl _ _⟩
      rw [mapTo_same hx (mp_no hn)]
      exact so'
  · intro i hi w' ⟨ok', so'⟩ t
    have hx : y.comp.results[i]? = some y.comp.results[i] := List.getElem?_eq_getElem hi
    obtain ⟨g, c, hv, hgb, hlo, hc, hz⟩ := row_cells (f := VT.c) (k := 3) (fun _ => rfl) so'.2.2.1 (mapTo_get (VT.mp σ) hx)
    have hhi := so'.2.2.2.2.2.2.2.1 g hgb
    rw [hgb, Option.getD_some, Nat.zero_add]
    refine heapOf_rep (x := y.comp.results[i]) ⟨hc 0 (by decide), hc 1 (by decide), hc 2 (by decide)⟩ _ (fun h5 hb5 => ?_) (fun hn => ?_)
    · refine (clo_roll (m := σ y.comp.results[i].heap) (hc 2 (by decide)) (hz _) (swk w' t) ok' (by omega) (fun w2 h2 => hswap _ (Or.inr (Or.inr (Or.inl ⟨_, List.getElem_mem hi, h5, hb5, rfl⟩))) w2 (t.trans (h2.turnP _)))).mono ?_
      rintro e w2 ⟨rfl, r⟩
      refine ⟨rfl, ⟨r.ok, ?_⟩, r.mono (Or.inr (Or.inr (Or.inl hgb)))⟩
      have := so'.setR hgb (mapTo_get (VT.mp σ) hx) ok' r
      rw [mapTo_succ (VT.mp σ) hx, mp_yes h5 hb5]
      exact this
    · refine ⟨⟨ok', ?_⟩, TurnP.refl _ _⟩
      rw [mapTo_same hx (mp_no hn)]
      exact so'
  · intro i hi w' ⟨ok', so'⟩ t
    have hx : y.comp.fields[i]? = some y.comp.fields[i] := List.getElem?_eq_getElem hi
    obtain ⟨g, c, hv, hgb, hlo, hc, hz⟩ := row_cells (f := FT.c) (k := 4) (fun _ => rfl) so'.2.2.2.1 (mapTo_get (FT.mp σ) hx)
    have hhi := so'.2.2.2.2.2.2.2.2 g hgb
    rw [hgb, Option.getD_some, Nat.zero_add]
    refine heapOf_rep (x := y.comp.fields[i].ty) ⟨hc 0 (by decide), hc 1 (by decide), hc 2 (by decide)⟩ _ (fun h5 hb5 => ?_) (fun hn => ?_)
    · refine (clo_roll (m := σ y.comp.fields[i].ty.heap) (hc 2 (by decide)) (hz _) (swk w' t) ok' (by omega) (fun w2 h2 => hswap _ (Or.inr (Or.inr (Or.inr ⟨_, List.mem_map.2 ⟨_, List.getElem_mem hi, rfl⟩, h5, hb5, rfl⟩))) w2 (t.trans (h2.turnP _)))).mono ?_
      rintro e w2 ⟨rfl, r⟩
      refine ⟨rfl, ⟨r.ok, ?_⟩, r.mono (Or.inr (Or.inr (Or.inr hgb)))⟩
      have := so'.setF hgb (mapTo_get (FT.mp σ) hx) ok' r
      rw [mapTo_succ (FT.mp σ) hx, (by unfold FT.mp FT.put; rw [mp_yes h5 hb5] : y.comp.fields[i].mp σ = y.comp.fields[i].put (σ y.comp.fields[i].ty.heap))]
      exact this
    · refine ⟨⟨ok', ?_⟩, TurnP.refl _ _⟩
      rw [mapTo_same hx ((by unfold FT.mp; rw [mp_no hn] : y.comp.fields[i].mp σ = y.comp.fields[i]))]
      exact so'
set_option maxHeartbeats 1000000 in
theorem sub_unroll {w : World} {a b okb swb : Nat} {q : Q4} {y : SB} {k1 k2 : Value} (σ : Int → Int) (s : SubO a b w y q) (hk : Kin y.comp) (hm : Sml y) (hok : w.heap[okb]? = some (bobj true)) (hsw : w.cell? ⟨swb, 0, none⟩ = some (.func (.func 34) #[] #[k1, k2])) (hsb : swb < a) (hne : swb ≠ okb) (hob : okb < a ∨ b ≤ okb)
    (hswap : ∀ n, Num y n → ∀ w', TurnP (fun k => q.owns k ∨ k = okb) w w' → Calls Tryd.prog 34 #[.int .i64 n, k1, k2] w' fun e w'' => e = .returned (.tuple #[.int .i64 (σ n), .bool true]) ∧ w'' = w') :
    Calls Tryd.prog 43 #[.agg #[.bool y.final_, q.s, .int .i64 y.comp.kind, q.p, q.r, q.f], (.func (.func 46) #[] #[.pointer (some ⟨swb, 0, none⟩), .pointer (some ⟨okb, 0, none⟩)])] w fun e w' => e = .returned UNIT ∧ OkS okb a b q (y.mp σ) w' ∧ TurnP (fun k => q.owns k ∨ k = okb) w w' := by
  obtain ⟨sa, sc, hsv, hsl, _, _⟩ := row_max s.1
  have hsa : 0 < y.supers.length → sa = some ⟨q.s.ownBlock.getD 0, 0, none⟩ := fun h0 => by
    obtain ⟨g, c, hv', _, hb'⟩ := row_at s.1 h0
    rw [hb']
    rw [hsv] at hv'
    injection hv'
  obtain ⟨pa, pc, hpv, hpl, hpa⟩ := kp_form s.2.1 (fun h => (hk.1 h).1)
  obtain ⟨ra, rc, hrv, hrl, hra⟩ := kp_form s.2.2.1 (fun h => (hk.1 h).2)
  obtain ⟨fa, fc, hfv, hfl, hfa⟩ := kf_form s.2.2.2.1 hk.2
  obtain ⟨m1, m2, m3, m4⟩ := hm
  have hokl : okb < w.heap.size := lt_of_obj hok
  have xp : ∃ a n c, q.p = .slice a n c := by obtain ⟨a, c, h, _⟩ := row_max s.2.1; exact ⟨a, _, c, h⟩
  have xr : ∃ a n c, q.r = .slice a n c := by obtain ⟨a, c, h, _⟩ := row_max s.2.2.1; exact ⟨a, _, c, h⟩
  have xf : ∃ a n c, q.f = .slice a n c := by obtain ⟨a, c, h, _⟩ := row_max s.2.2.2.1; exact ⟨a, _, c, h⟩
  have hswl := lt_of_cell hsw
  have swk : ∀ w', TurnP (fun k => q.owns k ∨ k = okb) w w' → w'.cell? ⟨swb, 0, none⟩ = some (.func (.func 34) #[] #[k1, k2]) := fun w' t => by
    have hh := t.block swb hswl (fun hx => hx.elim (fun h => by have := s.owns h; omega) (fun h => hne h))
    unfold World.cell? at hsw ⊢
    rw [hh]; exact hsw
  have Q0 : SubO a b w ⟨y.final_, y.supers, y.comp⟩ q := s
  have main := each_rep (w := w) (T := TurnP (fun k => q.owns k ∨ k = okb))
    (Is := fun i w' => OkS okb a b q ⟨y.final_, mapTo σ i y.supers, y.comp⟩ w')
    (Ip := fun i w' => OkS okb a b q ⟨y.final_, y.supers.map σ, ⟨y.comp.kind, mapTo (VT.mp σ) i y.comp.params, y.comp.results, y.comp.fields⟩⟩ w')
    (Ir := fun i w' => OkS okb a b q ⟨y.final_, y.supers.map σ, ⟨y.comp.kind, y.comp.params.map (VT.mp σ), mapTo (VT.mp σ) i y.comp.results, y.comp.fields⟩⟩ w')
    (If := fun i w' => OkS okb a b q ⟨y.final_, y.supers.map σ, ⟨y.comp.kind, y.comp.params.map (VT.mp σ), y.comp.results.map (VT.mp σ), mapTo (FT.mp σ) i y.comp.fields⟩⟩ w')
    (fin := y.final_) (kind := y.comp.kind) (sb := q.s.ownBlock.getD 0) (so := 0) (pb := q.p.ownBlock.getD 0) (po := 0) (rb := q.r.ownBlock.getD 0) (ro := 0) (fb := q.f.ownBlock.getD 0) (fo := 0) (c1 := .pointer (some ⟨swb, 0, none⟩)) (c2 := .pointer (some ⟨okb, 0, none⟩))
    hpv hrv hfv xp xr xf hsa hpa hra hfa hsl hpl hrl hfl m1 m2 m3 m4
    (fun w' w'' g => g.turnP _) (fun a b c h k => h.trans k) (fun a b h => h.size) (fun w' w'' t b' hb' cs t' _ ho => t.other ho (fun hh => hh.elim (fun h => by have := (s.owns h).2.2; omega) (fun h => by omega))) ⟨hok, by rw [mapTo_zero]; exact Q0⟩ (fun i w' w'' h g => h.grew g) (fun i w' w'' h g => h.grew g)
    (fun w' h => by rw [mapTo_full] at h; rw [mapTo_zero]; exact h) (fun w' h => by rw [mapTo_full] at h; rw [mapTo_zero]; exact h) (fun w' h => by rw [mapTo_full] at h; rw [mapTo_zero]; exact h) ?_ ?_ ?_ ?_
  · rw [← hsv, mapTo_full] at main
    exact main
  · intro i hi w' ⟨ok', so'⟩ t
    have hx : y.supers[i]? = some y.supers[i] := List.getElem?_eq_getElem hi
    obtain ⟨g, c, hv, hgb, hlo, hc, hz⟩ := row_cells (f := ic1) (k := 1) (fun _ => rfl) so'.1 (mapTo_get σ hx)
    have hhi := so'.2.2.2.2.2.1 g hgb
    have hc0 := hc 0 (by decide)
    rw [Nat.mul_one, Nat.add_zero] at hc0
    rw [hgb, Option.getD_some, Nat.zero_add]
    refine (clo_unroll (m := σ y.supers[i]) hc0 (hz i) (swk w' t) ok' (by omega) (fun w2 h2 => hswap _ (Or.inl (List.getElem_mem hi)) w2 (t.trans (h2.turnP _)))).mono ?_
    rintro e w2 ⟨rfl, r⟩
    refine ⟨rfl, ⟨r.ok, ?_⟩, r.mono (Or.inl hgb)⟩
    have := so'.setS hgb (mapTo_get σ hx) ok' r
    rw [← mapTo_succ σ hx] at this
    exact this
  · intro i hi w' ⟨ok', so'⟩ t
    have hx : y.comp.params[i]? = some y.comp.params[i] := List.getElem?_eq_getElem hi
    obtain ⟨g, c, hv, hgb, hlo, hc, hz⟩ := row_cells (f := VT.c) (k := 3) (fun _ => rfl) so'.2.1 (mapTo_get (VT.mp σ) hx)
    have hhi := so'.2.2.2.2.2.2.1 g hgb
    rw [hgb, Option.getD_some, Nat.zero_add]
    refine heapOf_rep (x := y.comp.params[i]) ⟨hc 0 (by decide), hc 1 (by decide), hc 2 (by decide)⟩ _ (fun h5 hb5 => ?_) (fun hn => ?_)
    · refine (clo_unroll (m := σ y.comp.params[i].heap) (hc 2 (by decide)) (hz _) (swk w' t) ok' (by omega) (fun w2 h2 => hswap _ (Or.inr (Or.inl ⟨_, List.getElem_mem hi, h5, hb5, rfl⟩)) w2 (t.trans (h2.turnP _)))).mono ?_
      rintro e w2 ⟨rfl, r⟩
      refine ⟨rfl, ⟨r.ok, ?_⟩, r.mono (Or.inr (Or.inl hgb))⟩
      have := so'.setP hgb (mapTo_get (VT.mp σ) hx) ok' r
      rw [mapTo_succ (VT.mp σ) hx, mp_yes h5 hb5]
      exact this
    · refine ⟨⟨ok', ?_⟩, TurnP.refl _ _⟩
      rw [mapTo_same hx (mp_no hn)]
      exact so'
  · intro i hi w' ⟨ok', so'⟩ t
    have hx : y.comp.results[i]? = some y.comp.results[i] := List.getElem?_eq_getElem hi
    obtain ⟨g, c, hv, hgb, hlo, hc, hz⟩ := row_cells (f := VT.c) (k := 3) (fun _ => rfl) so'.2.2.1 (mapTo_get (VT.mp σ) hx)
    have hhi := so'.2.2.2.2.2.2.2.1 g hgb
    rw [hgb, Option.getD_some, Nat.zero_add]
    refine heapOf_rep (x := y.comp.results[i]) ⟨hc 0 (by decide), hc 1 (by decide), hc 2 (by decide)⟩ _ (fun h5 hb5 => ?_) (fun hn => ?_)
    · refine (clo_unroll (m := σ y.comp.results[i].heap) (hc 2 (by decide)) (hz _) (swk w' t) ok' (by omega) (fun w2 h2 => hswap _ (Or.inr (Or.inr (Or.inl ⟨_, List.getElem_mem hi, h5, hb5, rfl⟩))) w2 (t.trans (h2.turnP _)))).mono ?_
      rintro e w2 ⟨rfl, r⟩
      refine ⟨rfl, ⟨r.ok, ?_⟩, r.mono (Or.inr (Or.inr (Or.inl hgb)))⟩
      have := so'.setR hgb (mapTo_get (VT.mp σ) hx) ok' r
      rw [mapTo_succ (VT.mp σ) hx, mp_yes h5 hb5]
      exact this
    · refine ⟨⟨ok', ?_⟩, TurnP.refl _ _⟩
      rw [mapTo_same hx (mp_no hn)]
      exact so'
  · intro i hi w' ⟨ok', so'⟩ t
    have hx : y.comp.fields[i]? = some y.comp.fields[i] := List.getElem?_eq_getElem hi
    obtain ⟨g, c, hv, hgb, hlo, hc, hz⟩ := row_cells (f := FT.c) (k := 4) (fun _ => rfl) so'.2.2.2.1 (mapTo_get (FT.mp σ) hx)
    have hhi := so'.2.2.2.2.2.2.2.2 g hgb
    rw [hgb, Option.getD_some, Nat.zero_add]
    refine heapOf_rep (x := y.comp.fields[i].ty) ⟨hc 0 (by decide), hc 1 (by decide), hc 2 (by decide)⟩ _ (fun h5 hb5 => ?_) (fun hn => ?_)
    · refine (clo_unroll (m := σ y.comp.fields[i].ty.heap) (hc 2 (by decide)) (hz _) (swk w' t) ok' (by omega) (fun w2 h2 => hswap _ (Or.inr (Or.inr (Or.inr ⟨_, List.mem_map.2 ⟨_, List.getElem_mem hi, rfl⟩, h5, hb5, rfl⟩))) w2 (t.trans (h2.turnP _)))).mono ?_
      rintro e w2 ⟨rfl, r⟩
      refine ⟨rfl, ⟨r.ok, ?_⟩, r.mono (Or.inr (Or.inr (Or.inr hgb)))⟩
      have := so'.setF hgb (mapTo_get (FT.mp σ) hx) ok' r
      rw [mapTo_succ (FT.mp σ) hx, (by unfold FT.mp FT.put; rw [mp_yes h5 hb5] : y.comp.fields[i].mp σ = y.comp.fields[i].put (σ y.comp.fields[i].ty.heap))]
      exact this
    · refine ⟨⟨ok', ?_⟩, TurnP.refl _ _⟩
      rw [mapTo_same hx ((by unfold FT.mp; rw [mp_no hn] : y.comp.fields[i].mp σ = y.comp.fields[i]))]
      exact so'
end Go.Proofs.YthchhehmbldmdaaDoor
