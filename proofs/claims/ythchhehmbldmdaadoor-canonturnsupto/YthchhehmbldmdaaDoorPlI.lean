/-
  The draft's place is one that Number may be handed; no statement is proved here.
-/
import Derived.Test.YthchhehmbldmdaaDoorPlcN
namespace Go.Proofs.YthchhehmbldmdaaDoor
open Go.RowKit
set_option linter.unusedVariables false
set_option linter.unusedSimpArgs false

abbrev Tab (w : World) : Prop := Lib.TabIs Tryd.prog w "internal/strconv.uint64pow10" .u64 Lib.pow10Tab
theorem Tab.grew {w w' : World} (h : Tab w) (g : Grew w w') : Tab w' := Lib.tabBelow_of_tabIs h w' g.1
theorem placerD {db kb nk : Nat} {w0 : World} (ht : Tab w0) : Placer db w0 (InvD db kb nk) GoodD stepD where
  lt := fun W s F x h hx => h.1 x hx
  keep := fun W W' s F h hk => h.keep hk
  good := fun s k c m n s' h ho hk hs => good_step h ho hk hs
  call := by
    intro W s F u m k c B hI hg hG hk hc hS hF hB hm hr htx
    have hI0 := hI
    obtain ⟨hl, fb, gv, G, h1, h2, h3, h4, h5, h6, h7, f1, f2, f3, f4, f5⟩ := hI
    have hu : ∃ a cc, u = .slice a m.length cc := by obtain ⟨a, cc, h, _⟩ := row_max hS.1; exact ⟨a, cc, h⟩
    have hgv : ∃ a n cc, gv = .slice a n cc := by obtain ⟨a, cc, h, _⟩ := row_max h5; exact ⟨a, _, cc, h⟩
    have ct : ∀ w', Grew W w' → Calls Tryd.prog 57 #[.agg #[u, .bool false]] w' fun en w'' => ∃ s : ByteArray, en = .returned (.string s) ∧ s.data.toList = txt (m.map Prod.fst) ∧ Grew w' w'' := fun w' g =>
      txt_any ((hS.grew g).lst) (by rw [List.length_map]; exact hm) (fun x hx => by
        obtain ⟨y, hy, rfl⟩ := List.mem_map.1 hx
        exact hr y hy) (ht.grew (hg.trans g)) htx
    have quiet : ∀ (v : Value) (w' : World), Grew W w' → TurnP F W w' ∧ InvD db kb nk w' s F := fun v w' g => ⟨g.turnP F, hI0.keep (fun x hx => g.1.block x (hl x hx))⟩
    cases e0 : s.f0 (txt (m.map Prod.fst)) with
    | some v =>
      refine (place_known h1 h2 h3 e0 htx hu hgv ct).mono ?_
      rintro en w' ⟨rfl, g⟩
      obtain ⟨t, i⟩ := quiet UNIT w' g
      have es : stepD s (m.map Prod.fst) = some (v, s) := by unfold stepD; rw [e0]
      refine ⟨t, F, fun x hx => Or.inl hx, fun h => ?_, fun n s' h => ?_⟩
      · rw [es] at h; cases h
      · rw [es] at h
        simp only [Option.some.injEq, Prod.mk.injEq] at h
        obtain ⟨rfl, rfl⟩ := h
        exact ⟨rfl, i⟩
    | none =>
      cases e1 : s.f1 (txt (m.map Prod.fst)) with
      | some v =>
        refine (place_fresh h1 h2 h3 e0 e1 htx hu hgv ct).mono ?_
        rintro en w' ⟨rfl, g⟩
        obtain ⟨t, i⟩ := quiet UNIT w' g
        have es : stepD s (m.map Prod.fst) = some (v, s) := by unfold stepD; rw [e0]; simp only; rw [e1]
        refine ⟨t, F, fun x hx => Or.inl hx, fun h => ?_, fun n s' h => ?_⟩
        · rw [es] at h; cases h
        · rw [es] at h
          simp only [Option.some.injEq, Prod.mk.injEq] at h
          obtain ⟨rfl, rfl⟩ := h
          exact ⟨rfl, i⟩
      | none =>
        have hc0 := hG.c0
        have hc1 := hG.c1
        by_cases hno : s.most - s.count < (m.length : Int)
        · refine (place_no h1 h2 h3 e0 e1 hc0 (by omega) hG.m0 hG.m1 hm hno htx hu hgv ct).mono ?_
          rintro en w' ⟨rfl, g⟩
          obtain ⟨t, i⟩ := quiet UNIT w' g
          have es : stepD s (m.map Prod.fst) = none := by unfold stepD; rw [e0]; simp only; rw [e1]; simp only; rw [if_pos (by rw [List.length_map]; exact hno)]
          refine ⟨t, F, fun x hx => Or.inl hx, fun h => ⟨rfl, i⟩, fun n s' h => ?_⟩
          rw [es] at h; cases h
        · have hgl := hG.gl
          have hGl : G.length = s.groups.length := by rw [← h6, List.length_map]
          refine (place_new h1 h2 h3 e0 e1 hc0 (by omega) hG.m0 hG.m1 hm (by omega) h4 (by omega) h5 (by omega) htx hu ct).mono ?_
          rintro en w' ⟨gv', rfl, d', m', r', t', l'⟩
          have hsz := t'.size
          have hex : stepD s (m.map Prod.fst) = some (s.count, ⟨s.f0, putF s.f1 (txt (m.map Prod.fst)) s.count, s.groups ++ [m.map Prod.fst], s.count + (m.length : Int), s.most, s.base⟩) := by
            unfold stepD; rw [e0]; simp only; rw [e1]; simp only; rw [if_neg (by rw [List.length_map]; exact hno), List.length_map]
          have chg : ∀ x, (x = db ∨ x = fb ∨ gv.ownBlock = some x) → F x := fun x hx => by
            rcases hx with rfl | rfl | hx
            · exact f1
            · exact f3
            · exact f4 x hx
          have tF : TurnP F W w' := t'.mono (fun x _ hx => chg x hx)
          refine ⟨tF, fun x => (F x ∨ B ≤ x) ∧ x < w'.heap.size, fun x hx => hx.1, fun h => ?_, fun n s' h => ?_⟩
          · rw [hex] at h; cases h
          rw [hex] at h
          simp only [Option.some.injEq, Prod.mk.injEq] at h
          obtain ⟨rfl, rfl⟩ := h
          have up : ∀ x, F x → (F x ∨ B ≤ x) ∧ x < w'.heap.size := fun x hx => ⟨Or.inl hx, by have := hl x hx; omega⟩
          /- The rows of the groups lie in none of the blocks that have turned. -/
          have ksub : ∀ (y : SB × Q4) (b : Nat), SubT b W y.1 y.2 → SubT b w' y.1 y.2 := fun y b hy => by
            have key : ∀ {e kk v n ds}, W.ownsRow b e kk v n ds → e ≠ 38 → e ≠ 76 → w'.ownsRow b e kk v n ds := by
              intro e kk v n ds hrw ne1 ne2
              refine row_turnP hrw t' (fun g hgo hx => ?_)
              obtain ⟨cur, hcur⟩ := row_tag hrw hgo
              rcases hx with rfl | rfl | hx
              · rw [h1] at hcur
                unfold dobj at hcur
                injection hcur with q
                injection q with _ q _
                exact ne2 q.symm
              · obtain ⟨es, ck, he⟩ := h3.obj
                rw [he] at hcur
                cases hcur
              · obtain ⟨cur', hcur'⟩ := row_tag h5 hx
                rw [hcur'] at hcur
                injection hcur with q
                injection q with _ q _
                exact ne1 q.symm
            exact ⟨key hy.1 (by decide) (by decide), key hy.2.1 (by decide) (by decide), key hy.2.2.1 (by decide) (by decide), key hy.2.2.2 (by decide) (by decide)⟩
          have ksubs : ∀ (v : Value) (l : List (SB × Q4)) (b : Nat), SubsT b W v l → SubsT b w' v l := fun v l b hv => by
            refine ⟨row_turnP hv.1 t' (fun g hgo hx => ?_), fun y hy => ksub y b (hv.2 y hy)⟩
            obtain ⟨cur, hcur⟩ := row_tag hv.1 hgo
            rcases hx with rfl | rfl | hx
            · rw [h1] at hcur
              unfold dobj at hcur
              injection hcur with q
              injection q with _ q _
              revert q; decide
            · obtain ⟨es, ck, he⟩ := h3.obj
              rw [he] at hcur
              cases hcur
            · obtain ⟨cur', hcur'⟩ := row_tag h5 hx
              rw [hcur'] at hcur
              injection hcur with q
              injection q with _ q _
              revert q; decide
          have k0 : MapF w' kb nk s.f0 := h2.same (t'.block kb h2.lt (fun hx => by
            obtain ⟨es, ck, he⟩ := h2.obj
            rcases hx with rfl | hx | hx
            · rw [h1] at he; cases he
            · exact h4 hx
            · obtain ⟨cur, hcur⟩ := row_tag h5 hx
              rw [hcur] at he; cases he))
          refine ⟨rfl, fun x hx => hx.2, fb, gv', G ++ [(u, m)], d', k0, ?_, h4, ?_, ?_, ?_, up _ f1, up _ f2, up _ f3, ?_, ?_⟩
          · rw [List.length_append]; rw [hGl] at *; simpa using m'
          · rw [List.length_append, List.flatMap_append]
            simpa [g2] using r'
          · rw [List.map_append, h6]; rfl
          · intro g hgm
            rcases List.mem_append.1 hgm with h | h
            · exact ksubs _ _ _ (h7 g h)
            · rw [List.mem_singleton] at h
              subst h
              have := ksubs _ _ _ hS
              exact ⟨row_low this.1 (Nat.zero_le _), fun y hy => (this.2 y hy).low (Nat.zero_le _)⟩
          · intro g hgo
            refine ⟨?_, (r'.lt g hgo).2⟩
            rcases l' with h | ⟨g', h, hg'⟩
            · rw [h] at hgo; exact Or.inl (f4 g hgo)
            · rw [h] at hgo; injection hgo with hgo; subst hgo; exact Or.inr (by omega)
          · intro g hgm
            rcases List.mem_append.1 hgm with h | h
            · exact (f5 g h).mono up
            · rw [List.mem_singleton] at h
              subst h
              have hin := subs_in hS
              have hlt : ∀ v g, (∃ e kk n ds, W.ownsRow B e kk v n ds) → v.ownBlock = some g → g < w'.heap.size := fun v g ⟨e, kk, n, ds, hr⟩ hgo => by have := (hr.lt g hgo).2; omega
              refine ⟨fun g hgo => ⟨Or.inr (hin.1 g hgo), hlt _ g ⟨_, _, _, _, hS.1⟩ hgo⟩, fun y hy => ⟨fun g hgo => ⟨Or.inr ((hin.2 y hy).1 g hgo), hlt _ g ⟨_, _, _, _, (hS.2 y hy).1⟩ hgo⟩, fun g hgo => ⟨Or.inr ((hin.2 y hy).2.1 g hgo), hlt _ g ⟨_, _, _, _, (hS.2 y hy).2.1⟩ hgo⟩, fun g hgo => ⟨Or.inr ((hin.2 y hy).2.2.1 g hgo), hlt _ g ⟨_, _, _, _, (hS.2 y hy).2.2.1⟩ hgo⟩, fun g hgo => ⟨Or.inr ((hin.2 y hy).2.2.2 g hgo), hlt _ g ⟨_, _, _, _, (hS.2 y hy).2.2.2⟩ hgo⟩⟩⟩
end Go.Proofs.YthchhehmbldmdaaDoor
