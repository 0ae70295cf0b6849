/-
  Appends to a row of the call's own: which blocks stay; the document's PutName with a row of its own; no statement is proved here.
-/
import Derived.Test.YtclamdpbdafmcaaSpoil
import Derived.Test.YtclamdpbdafmcaaHeadC
import Derived.Test.YtclamdpbdafmcaaFault
namespace Go.Proofs.Ytclamdpbdafmcaa
open Go.RowKit
set_option linter.unusedVariables false

theorem app_whereS {B : Nat} {w w' : World} {v v' : Value} {l r : List Int} {ty : TypeId} {ad : Addr} {cp : Nat} (hh : OwB B w v l) (hv : v.ownBlock ≠ none) (hc : ∀ (j : Nat) (u : Value), (U8 r)[j]? = some u → w.cell? (ad.add j) = some u) (hlen : l.length + r.length ≤ 70368744177664)
    (hr : (Builtin.append_ #[22, 22] ty #[v, .slice (some ad) r.length cp]).run Try.prog w = .ok v' w') : v'.ownBlock = v.ownBlock ∨ v'.ownBlock = some w.heap.size := by
  obtain ⟨i0, hi0, hz0, hz1, hz2⟩ := info_parts Try.info5
  have hl8 : (U8 r).length = r.length := by simp [U8]
  obtain ⟨hl, ⟨rfl, h0⟩ | ⟨g, cap, cur, rfl, hbg, hg, hnc, hcm, hcs, htake⟩⟩ := id hh
  · exact absurd rfl hv
  · by_cases hroom : l.length + r.length ≤ cap
    · have h := run_append_room (P := Try.prog) w 22 ty 5 i0 Try.underlying22 hi0 g l.length cap cur hg ad r.length cp (U8 r) (by rw [hz1]; simp [U8]) hc (by simp [U8, Value.oneCell']) hroom (by rw [hz1, hcs]; simp; omega)
      rw [h] at hr
      injection hr with h1 h2
      left; rw [← h1]; rfl
    · have h := run_append_grow (P := Try.prog) w 22 ty 5 i0 (.int .u8 0) Try.underlying22 hi0 hz0 ⟨g, 0, none⟩ l.length cap (U8 l) (by rw [hz1]; simpa using hl) (World.ownsRow.cells hh rfl) ad r.length cp (U8 r) (by rw [hz1]; simp [U8]) hc (by omega) (by omega) (by rw [hz2]; exact growslice_fits (by omega) (by omega))
      rw [h] at hr
      injection hr with h1 h2
      right; rw [← h1]; rfl
theorem wp_appSo {w0 w : World} {ops : Array Oper} {rest : List Oper} {o : Oper} {a : Act} {Q : Exit → Act → World → Prop} (hgd : o.guard = none) (s x : Operand)
    (ho : o.op = .call { callee := .builtin .append, args := #[s, x], argTypes := #[22, 22] }) {B : Nat} {v u : Value} {l r : List Int} {S : List Nat}
    (hs : a.eval s = v) (hx : a.eval x = u) (hh : OwB B w v l) (hv : v.ownBlock ≠ none) (hB : B ≤ w.heap.size) (ht : Turn S w0 w) (hi : InS S w0 v) (hR : Reads w u r) (hlen : l.length + r.length ≤ 70368744177664)
    (h : ∀ v' w', OwB B w' v' (l ++ r) → Turn S w0 w' → InS S w0 v' → v'.ownBlock ≠ none → B ≤ w'.heap.size → wpList Try.prog ops Q rest (a.put o.dst v') w') :
    wpList Try.prog ops Q (o :: rest) a w := by
  obtain ⟨i0, hi0, hz0, hz1, hz2⟩ := info_parts Try.info5
  have hown : w.ownsRow B 5 1 v l.length (U8 l) := hh
  have main : ∀ (ad : Addr) (c : Nat), u = .slice (some ad) r.length c → (∀ (j : Nat) (z : Value), (U8 r)[j]? = some z → w.cell? (ad.add j) = some z) → wpList Try.prog ops Q (o :: rest) a w := by
    intro ad c hu hn
    refine wpList_plain hgd fun K hK => ?_
    obtain ⟨v', w', hr, h2, h3, h4⟩ := run_append_own (P := Try.prog) w B 22 o.type 5 i0 (.int .u8 0) 1 1 Try.underlying22 hi0 hz0 hz1 hz2 rfl (by decide) v l.length (U8 l) hown ad r.length c (U8 r) (by simp [U8]) hn (by simp [U8, Value.oneCell']) (by unfold maxLen; omega) (by omega) hB
    have hwh := app_whereS (l := l) (r := r) hh hv hn hlen hr
    have hT : Turn S w0 w' := has_turn (B := B) (v' := v) (l := l) (c := 0) ht hi h3
    have hsz := ht.size
    unfold Oper.wp execOp
    simp only [ho, resolve, invoke, builtin, Sem.run_bind, Sem.run_pure, Result.andThen_ok, List.map_toArray, List.map_cons, List.map_nil, hs, hx.trans hu, hr]
    refine hK _ _ (h v' w' ?_ hT ?_ ?_ (by have := h3.size; omega))
    · unfold OwB; rw [List.length_append, show U8 (l ++ r) = U8 l ++ U8 r from by simp [U8]]; exact h2
    · intro k hk
      rcases hwh with e | e
      · exact hi k (by rw [← e]; exact hk)
      · rw [e] at hk
        simp at hk
        right; omega
    · rcases hwh with e | e <;> rw [e]
      · exact hv
      · simp
  obtain ⟨ad, cap, hu, _, _, hn, hr⟩ := hR
  rcases hr with rfl | ⟨b, off, rfl, hc⟩
  · cases ad with
    | none =>
      have hc0 := hn rfl
      subst hc0
      have hrun := run_append_owned_none (P := Try.prog) (w := w) B 22 o.type 5 i0 1 Try.underlying22 hi0 v l.length (U8 l) hown
      refine wpList_plain hgd fun K hK => ?_
      unfold Oper.wp execOp
      simp only [ho, resolve, invoke, builtin, Sem.run_bind, Sem.run_pure, Result.andThen_ok, List.map_toArray, List.map_cons, List.map_nil, hs, hx.trans hu, List.length_nil, hrun]
      exact hK _ _ (h v w (by rw [List.append_nil]; exact hh) ht hi hv hB)
    | some ad => exact main ad cap hu (fun j z hz => by simp [U8] at hz)
  · refine main _ cap hu (fun j z hz => ?_)
    obtain ⟨hj, hz⟩ := List.getElem?_eq_some_iff.1 hz
    have hj' : j < r.length := by simpa [U8] using hj
    have := hc j hj'
    have e : (Addr.add ⟨b, off, none⟩ j) = ⟨b, off + j, none⟩ := by simp [Addr.add]
    rw [e, this, ← hz]
    simp [U8, List.getD, hj']
set_option maxRecDepth 100000 in
theorem refPutName_own (l : List Int) (w : World) (hb : Byt l) (hlen : l.length ≤ 140737488351232) (h0 : nf l = 0) :
    Calls Try.prog 16 #[.string (strOfNums l)] w fun en w' => ∃ v, en = .returned (.tuple #[v, .int .i64 0]) ∧ Has w.heap.size w w' v (nb l) := by
  have hsz := strOfNums_size l
  have hpl := PU_len l.length
  have hl : ¬ 65536 < l.length := by intro hl; unfold nf at h0; rw [if_pos hl] at h0; exact absurd h0 (by decide)
  obtain ⟨i, g, hu⟩ : ∃ i g, U l = (i, g) := ⟨_, _, rfl⟩
  have hg : g = true := by
    unfold nf at h0
    rw [if_neg hl, hu] at h0
    cases g
    · exact absurd (show (21 : Int) = 0 from h0) (by decide)
    · rfl
  subst hg
  obtain ⟨a1, c1, w1, hcv, hr1, hg1⟩ := bytes_of l hb hlen w
  have c := refU_any _ l w1 hr1 hb hlen
  rw [hu] at c
  have cp := fun w => refPutU_any (l.length : Int) w (by omega) (by omega)
  have HB : Hid (Byt l) := hb
  unfold nb
  clear h0 hb hu hr1
  obtain ⟨s, hs⟩ : ∃ s, s = strOfNums l := ⟨_, rfl⟩
  rw [← hs] at hsz hcv ⊢
  have HE : Hid (s = strOfNums l) := hs
  clear hs
  go_enter Try.func16, Try.ntmps16
  go_wp2_with fail
  refine c.mono ?_
  rintro en w2 ⟨rfl, hg2⟩
  clear c
  go_wp2_with fail
  refine (cp _).mono ?_
  rintro en w3 ⟨v3, rfl, hh⟩
  clear cp
  go_wp2_with (at_builtin; refine wp_appStr rfl _ _ rfl rfl (congrArg Value.string HE.out) hh HB.out (by omega) ?_; intro v' w4 hh4)
  go_ret2
  exact ⟨_, rfl, hh4.up (hg1.trans hg2).1 (hg1.trans hg2).2⟩
end Go.Proofs.Ytclamdpbdafmcaa
