/-
  Rows of types; the walks of the reader's sub at any text, and of the function that reads a type of a group; no statement is proved here.
-/
import Derived.Test.YtmcljnohdknpoaaDoorSubY
import Derived.Test.YtmcljnohdknpoaaDoorSubZ
namespace Go.Proofs.YtmcljnohdknpoaaDoor
open Go.RowKit
set_option linter.unusedVariables false
set_option linter.unusedSimpArgs false
set_option linter.constructorNameAsVariable false

theorem sub_any {w : World} {b : Nat} {s : ByteArray} {p : Nat} (h : RD w b s p) (hs : s.size ≤ 65536) (he : Env w) (hb8 : 8 ≤ b) :
    Calls Tryd.prog 48 #[.pointer (some ⟨b, 0, none⟩)] w (AnsB b s w (subS s p)) := by
  unfold subS
  by_cases h1 : tk s p = WSUB
  · rw [if_pos h1]
    by_cases h2 : tk s (nx s p) = WFINAL
    · rw [if_pos h2]
      exact sub_final h hs he hb8 h1 h2
    · rw [if_neg h2]
      exact sub_plain h hs he hb8 h1 h2
  · rw [if_neg h1]
    exact sub_comp h hs he hb8 h1
theorem SubC.turn {B : Nat} {w w' : World} {cs : List Value} {x : SB} {S : List Nat} (h : SubC B w cs x) (t : Turn S w w') (h1 : ∀ y ∈ S, NoT w y 3) (h2 : ∀ y ∈ S, NoT w y 23) (h3 : ∀ y ∈ S, NoT w y 94) : SubC B w' cs x := by
  obtain ⟨sv, pv, rv, fv, e, a1, a2, a3, a4⟩ := h
  exact ⟨sv, pv, rv, fv, e, a1.turn t h1, a2.turn t h2, a3.turn t h2, a4.turn t h3⟩
theorem SubC.rd {B : Nat} {w w' : World} {cs : List Value} {x : SB} {b : Nat} {s : ByteArray} {p : Nat} (h : SubC B w cs x) (t : Turn [b] w w') (r : RD w b s p) : SubC B w' cs x := h.turn t r.noI r.noV r.noF
theorem SubC.grew {B : Nat} {w w' : World} {cs : List Value} {x : SB} (h : SubC B w cs x) (g : Grew w w') : SubC B w' cs x := h.turn (g.turn []) (by simp) (by simp) (by simp)
theorem SubC.low {B B' : Nat} {w : World} {cs : List Value} {x : SB} (h : SubC B w cs x) (hb : B' ≤ B) : SubC B' w cs x := by
  obtain ⟨sv, pv, rv, fv, e, a1, a2, a3, a4⟩ := h
  exact ⟨sv, pv, rv, fv, e, a1.low hb, a2.low hb, a3.low hb, a4.low hb⟩
theorem SubC.set {B : Nat} {w : World} {cs : List Value} {x : SB} (h : SubC B w cs x) {q : Addr} {ds : Array Value} {t : TypeId} {fz : Nat × Nat} (hq : w.heap[q.block]? = some (.cells ds t fz)) (h1 : t ≠ 3) (h2 : t ≠ 23) (h3 : t ≠ 94) (u : Value) : SubC B (w.setCell q u) cs x := by
  obtain ⟨sv, pv, rv, fv, e, a1, a2, a3, a4⟩ := h
  exact ⟨sv, pv, rv, fv, e, row_set a1 (NoT.of hq h1) u, row_set a2 (NoT.of hq h2) u, row_set a3 (NoT.of hq h2) u, row_set a4 (NoT.of hq h3) u⟩
/- A row that lies in another block than one of types stays. -/
theorem row_keep {w w' : World} {B B' : Nat} {e : TypeId} {k : Nat} {u v : Value} {n m : Nat} {cs ds : List Value} (h : w.ownsRow B e k u n cs) (hv : w.ownsRow B' 62 6 v m ds) (hne : 62 ≠ e) (hG : ∀ x < w.heap.size, some x ≠ v.ownBlock → w'.heap[x]? = w.heap[x]?) : w'.ownsRow B e k u n cs := by
  obtain ⟨h1, h2 | ⟨g, cap, cur, hu, hB, hg, h3⟩⟩ := h
  · exact ⟨h1, Or.inl h2⟩
  · refine ⟨h1, Or.inr ⟨g, cap, cur, hu, hB, (hG g (lt_of_obj hg) (fun hx => ?_)).trans hg, h3⟩⟩
    obtain ⟨_, ⟨rfl, _⟩ | ⟨g', cap', cur', rfl, _, hg', _⟩⟩ := hv
    · cases hx
    · have : g = g' := by simpa [Value.ownBlock] using hx
      subst this
      rw [hg] at hg'
      injection hg' with hg'
      injection hg' with _ h2 _
      exact hne h2.symm
theorem SubC.keep {B B' : Nat} {w w' : World} {cs ds : List Value} {x : SB} {v : Value} {m : Nat} (h : SubC B w cs x) (hv : w.ownsRow B' 62 6 v m ds) (hG : ∀ x < w.heap.size, some x ≠ v.ownBlock → w'.heap[x]? = w.heap[x]?) : SubC B w' cs x := by
  obtain ⟨sv, pv, rv, fv, e, a1, a2, a3, a4⟩ := h
  exact ⟨sv, pv, rv, fv, e, row_keep a1 hv (by decide) hG, row_keep a2 hv (by decide) hG, row_keep a3 hv (by decide) hG, row_keep a4 hv (by decide) hG⟩
/- The slice holds these types. -/
def SubsQ (B : Nat) (w : World) (v : Value) (l : List SB) : Prop := ∃ cs, w.ownsRow B 62 6 v l.length cs ∧ ∀ i x, l[i]? = some x → SubC B w ((cs.drop (i * 6)).take 6) x
theorem SubsQ.nil (B : Nat) (w : World) : SubsQ B w (.slice none 0 0) [] := ⟨[], World.ownsRow_nil _ _ _ _, fun i x h => by simp at h⟩
theorem SubsQ.one {B : Nat} {w : World} {v : Value} {l : List SB} (h : SubsQ B w v l) : ∃ a c, v = .slice a l.length c := by
  obtain ⟨cs, h, _⟩ := h
  exact row_one h
theorem SubsQ.turn {B : Nat} {w w' : World} {v : Value} {l : List SB} {S : List Nat} (h : SubsQ B w v l) (t : Turn S w w') (h0 : ∀ y ∈ S, NoT w y 62) (h1 : ∀ y ∈ S, NoT w y 3) (h2 : ∀ y ∈ S, NoT w y 23) (h3 : ∀ y ∈ S, NoT w y 94) : SubsQ B w' v l := by
  obtain ⟨cs, a, b⟩ := h
  exact ⟨cs, row_turn a t h0, fun i x hx => (b i x hx).turn t h1 h2 h3⟩
theorem RD.noS {w : World} {b : Nat} {s : ByteArray} {p : Nat} (h : RD w b s p) : ∀ x ∈ [b], NoT w x 62 := by intro x hx; simp at hx; subst hx; exact NoT.of h.1 (by decide)
theorem SubsQ.rd {B : Nat} {w w' : World} {v : Value} {l : List SB} {b : Nat} {s : ByteArray} {p : Nat} (h : SubsQ B w v l) (t : Turn [b] w w') (r : RD w b s p) : SubsQ B w' v l := h.turn t r.noS r.noI r.noV r.noF
theorem SubsQ.grew {B : Nat} {w w' : World} {v : Value} {l : List SB} (h : SubsQ B w v l) (g : Grew w w') : SubsQ B w' v l := h.turn (g.turn []) (by simp) (by simp) (by simp) (by simp)
theorem SubsQ.low {B B' : Nat} {w : World} {v : Value} {l : List SB} (h : SubsQ B w v l) (hb : B' ≤ B) : SubsQ B' w v l := by
  obtain ⟨cs, a, b⟩ := h
  exact ⟨cs, row_low a hb, fun i x hx => (b i x hx).low hb⟩
theorem SubsQ.set {B : Nat} {w : World} {v : Value} {l : List SB} (h : SubsQ B w v l) {q : Addr} {ds : Array Value} {t : TypeId} {fz : Nat × Nat} (hq : w.heap[q.block]? = some (.cells ds t fz)) (h0 : t ≠ 62) (h1 : t ≠ 3) (h2 : t ≠ 23) (h3 : t ≠ 94) (u : Value) : SubsQ B (w.setCell q u) v l := by
  obtain ⟨cs, a, b⟩ := h
  exact ⟨cs, row_set a (NoT.of hq h0) u, fun i x hx => (b i x hx).set hq h1 h2 h3 u⟩
theorem SubsQ.snoc {B : Nat} {w w' : World} {v v' : Value} {l : List SB} {cs : List Value} {new : List Value} {x : SB} (h : w.ownsRow B 62 6 v l.length cs) (he : ∀ i x, l[i]? = some x → SubC B w ((cs.drop (i * 6)).take 6) x) (hx : SubC B w new x) (hn : new.length = 6)
    (h' : w'.ownsRow B 62 6 v' (l.length + 1) (cs ++ new)) (hG : ∀ x < w.heap.size, some x ≠ v.ownBlock → w'.heap[x]? = w.heap[x]?) : SubsQ B w' v' (l ++ [x]) := by
  refine ⟨cs ++ new, by rw [List.length_append]; exact h', fun i y hy => ?_⟩
  have hl : cs.length = l.length * 6 := h.1
  rcases Nat.lt_or_ge i l.length with hi | hi
  · rw [List.getElem?_append_left hi] at hy
    have e : ((cs ++ new).drop (i * 6)).take 6 = (cs.drop (i * 6)).take 6 := by
      rw [List.drop_append_of_le_length (by omega), List.take_append_of_le_length (by rw [List.length_drop]; omega)]
    rw [e]
    exact (he i y hy).keep h hG
  · rw [List.getElem?_append_right hi] at hy
    have hi0 : i - l.length = 0 := by
      rcases Nat.eq_zero_or_pos (i - l.length) with h0 | h0
      · exact h0
      · rw [List.getElem?_eq_none (by simp; omega)] at hy; cases hy
    rw [hi0] at hy
    simp only [List.getElem?_cons_zero, Option.some.injEq] at hy
    subst hy
    have hil : i = l.length := by omega
    subst hil
    have e : ((cs ++ new).drop (l.length * 6)).take 6 = new := by
      rw [← hl, List.drop_left, List.take_of_length_le (by omega)]
    rw [e]
    exact hx.keep h hG
/- The box of the reader's pointer. -/
def bxo (b : Nat) : Obj := .cells #[.pointer (some ⟨b, 0, none⟩)] 47 (0, 0)
set_option maxRecDepth 100000 in
set_option maxHeartbeats 1000000 in
theorem mem_any {w : World} {b bx : Nat} {s : ByteArray} {p : Nat} (h : RD w b s p) (hs : s.size ≤ 65536) (he : Env w) (hb8 : 8 ≤ b) (hx : w.heap[bx]? = some (bxo b)) :
    Calls Tryd.prog 50 #[.pointer (some ⟨bx, 0, none⟩)] w (AnsB b s w (memS s p)) := by
  have hb : b < w.heap.size := lt_of_obj h.1
  have hbx : bx < w.heap.size := lt_of_obj hx
  have hne : bx ≠ b := by
    rintro rfl
    rw [h.1] at hx
    injection hx with hx
    injection hx with _ h2 _
    exact absurd h2 (by decide)
  have HE : Hid (Env w) := he
  have R0 : Hid (RD (w.alloc (.cells #[.bool false, .slice none 0 0, .int .i64 0, .slice none 0 0, .slice none 0 0, .slice none 0 0] 62)) b s p) := h.grew ((Grew.refl w).alloc _)
  have T0 : Hid (Turn [b] w (w.alloc (.cells #[.bool false, .slice none 0 0, .int .i64 0, .slice none 0 0, .slice none 0 0, .slice none 0 0] 62))) := (Turn.refl [b] w).alloc _
  have N0 : Hid ((w.alloc (.cells #[.bool false, .slice none 0 0, .int .i64 0, .slice none 0 0, .slice none 0 0, .slice none 0 0] 62)).heap[w.heap.size]? = some (sobj false NILS 0 NILS NILS NILS)) := heap_alloc_last _ _
  have x0 := heap_alloc hx (.cells #[.bool false, .slice none 0 0, .int .i64 0, .slice none 0 0, .slice none 0 0, .slice none 0 0] 62)
  have X0 : Hid ((w.alloc (.cells #[.bool false, .slice none 0 0, .int .i64 0, .slice none 0 0, .slice none 0 0, .slice none 0 0] 62)).heap[bx]? = some (bxo b)) := x0
  have xc := cell_of x0 0
  simp [bxo] at xc
  obtain ⟨R, hR⟩ : ∃ R, R = memS s p := ⟨_, rfl⟩
  rw [← hR]
  have HR : Hid (R = memS s p) := hR
  clear h he hx hR x0
  by_cases h1 : tk s p = LP
  · have C := take_yes R0.out hs LP h1
    have HS : Hid (R = subS s (nx s p)) := by rw [HR.out]; unfold memS; rw [if_pos h1]; exact rfl
    clear HR h1
    go_enter Tryd.func50, Tryd.ntmps50
    go_wp2_with fail
    refine C.mono ?_
    rintro en w1 ⟨rfl, t1, r1⟩
    have T1 : Hid (Turn [b] w w1) := T0.out.trans t1
    have N1 : Hid (w1.heap[w.heap.size]? = some (sobj false NILS 0 NILS NILS NILS)) := t1.other N0.out (by simp; omega)
    have x1 := t1.other X0.out (by simp; omega)
    have xc1 := cell_of x1 0
    simp [bxo] at xc1
    have V := sub_any r1 hs (HE.out.of_turn T1.out hb8) hb8
    have hz1 := T1.out.size
    rw [← HS.out] at V
    clear C t1 r1 T0 N0 R0 HS X0 xc x1
    go_wp2_with fail
    refine V.mono ?_
    intro en w2 A2
    clear V
    cases R with
    | error f =>
      obtain ⟨rfl, t2⟩ := A2
      go_wp2_with fail
      exact ⟨rfl, rfl, T1.out.trans t2⟩
    | ok x =>
      obtain ⟨y, q⟩ := x
      obtain ⟨cs, rfl, ⟨sv, pv, rv, fv, rfl, WI, WP, WR, WF⟩, t2, r2⟩ := A2
      have T2 : Hid (Turn [b] w w2) := T1.out.trans t2
      have R2 : Hid (RD w2 b s q) := r2
      have n2 := t2.other N1.out (by simp; omega)
      have N2 : Hid (w2.heap[w.heap.size]? = some (sobj false NILS 0 NILS NILS NILS)) := n2
      obtain ⟨ia, icc, hiv⟩ := row_one WI
      obtain ⟨pa, pc, hpv⟩ := row_one WP
      obtain ⟨ra, rc, hrv⟩ := row_one WR
      obtain ⟨fa, fc, hfv⟩ := row_one WF
      subst hiv
      subst hpv
      subst hrv
      subst hfv
      have I2 : Hid (RowI w.heap.size w2 (.slice ia y.supers.length icc) y.supers) := WI.low hz1
      have P2 : Hid (RowV w.heap.size w2 (.slice pa y.comp.params.length pc) y.comp.params) := WP.low hz1
      have Q2 : Hid (RowV w.heap.size w2 (.slice ra y.comp.results.length rc) y.comp.results) := WR.low hz1
      have F2 : Hid (RowF w.heap.size w2 (.slice fa y.comp.fields.length fc) y.comp.fields) := WF.low hz1
      have c0 := cell_of n2 0
      have c1 := cell_of n2 1
      have c2 := cell_of n2 2
      have c3 := cell_of n2 3
      have c4 := cell_of n2 4
      have c5 := cell_of n2 5
      have z0 := free_of n2 0
      have z1 := free_of n2 1
      have z2 := free_of n2 2
      have z3 := free_of n2 3
      have z4 := free_of n2 4
      have z5 := free_of n2 5
      simp [NILS] at c0 c1 c2 c3 c4 c5
      clear t2 r2 n2 WI WP WR WF
      go_wp2_with fail
      refine bodyPost_ret (v := .agg #[.bool y.final_, .slice ia y.supers.length icc, .int .i64 y.comp.kind, .slice pa y.comp.params.length pc, .slice ra y.comp.results.length rc, .slice fa y.comp.fields.length fc]) (by simp [results, Tryd.results50, go_sem, c0, c1, c2, c3, c4, c5]) rfl ?_
      exact ⟨[.bool y.final_, .slice ia y.supers.length icc, .int .i64 y.comp.kind, .slice pa y.comp.params.length pc, .slice ra y.comp.results.length rc, .slice fa y.comp.fields.length fc], rfl, sub_end (x := y) N2.out (Nat.le_refl _) (B := w.heap.size) (Nat.le_refl _) I2.out P2.out Q2.out F2.out T2.out R2.out (by omega)⟩
  · have C := take_no R0.out LP h1
    have HS : Hid (R = .error p) := by rw [HR.out]; unfold memS; rw [if_neg h1]; exact rfl
    clear HR h1
    go_enter Tryd.func50, Tryd.ntmps50
    go_wp2_with fail
    refine C.mono ?_
    rintro en w1 ⟨rfl, h1'⟩
    obtain rfl := h1'.symm
    go_wp2_with fail
    exact ⟨rfl, by rw [HS.out]; exact ⟨rfl, T0.out⟩⟩
end Go.Proofs.YtmcljnohdknpoaaDoor
