/-
  Names and kinds, written by the document and by the program; no statement is proved here.
-/
import Derived.Test.YtfnfbioenngjoaaDoorDwD
import Derived.Test.YtfnfbioenngjoaaDoorN2P
namespace Go.Proofs.YtfnfbioenngjoaaDoor
open Go.RowKit
set_option linter.unusedVariables false
set_option linter.unusedSimpArgs false
set_option linter.constructorNameAsVariable false

def nameW (s : List Int) : Except Nat (List Int) := if nf s = 0 then .ok (nb s) else .error (nf s).toNat
theorem nf_ways (s : List Int) : nf s = 0 ∨ nf s = 2 ∨ nf s = 21 := by
  unfold nf
  split
  · omega
  · split <;> omega
theorem nb_len {s : List Int} (h : nf s = 0) : (nb s).length ≤ 65547 := by
  unfold nf at h
  split at h
  · omega
  · have := PU_len s.length
    unfold nb
    rw [List.length_append]
    omega
theorem pn_len (s : List Int) : (pn s).length ≤ 65547 := by
  unfold pn
  split
  · exact nb_len (by assumption)
  · simp
set_option maxRecDepth 100000 in
set_option maxHeartbeats 1000000 in
theorem name2 {b B : Nat} {w : World} {l : List Int} (h : WS b B w l) (s : List Int) (hB : Byt s) (hs : s.length ≤ 140737488351232) (hl : l.length ≤ 17592186040000) :
    Calls Tryd.prog 33 #[.pointer (some ⟨b, 0, none⟩), .string (strOfNums s)] w (W2 b B w l (nameW s)) := by
  have H : Hid (WS b B w l) := h
  have hb : b < w.heap.size := h.blt
  have C := putName_any s w hB hs
  clear h
  unfold nameW
  generalize hst : strOfNums s = str at *
  clear hst
  by_cases h0 : nf s = 0
  · rw [if_pos h0]
    have hp : pn s = nb s := by unfold pn; rw [if_pos h0]
    have hbd := nb_len h0
    rw [h0, hp] at C
    clear hp h0
    generalize nb s = r at *
    go_enter Tryd.func33, Tryd.ntmps33
    go_wp2_with fail
    refine C.mono ?_
    rintro en w1 ⟨v, rfl, r1, g1⟩
    obtain ⟨va, vc, hv⟩ := r1.len
    subst hv
    have S1 : Hid (WS b B w1 l) := H.out.grew g1
    have T1 : Hid (WT b B w w1) := WT.of_grew g1
    have R1 : Hid (Reads w1 (.slice va r.length vc) r) := r1
    clear C g1 r1
    go_wp2_with fail
    refine (W2.okc (put2 S1.out R1.out (by omega)) rfl).mono ?_
    rintro en w2 ⟨rfl, t2, s2⟩
    have T2 : Hid (WT b B w w2) := T1.out.trans t2
    have S2 : Hid (WS b B w2 (l ++ r)) := s2
    clear t2 s2
    go_wp2_with fail
    go_end0
    exact ⟨rfl, T2.out, S2.out⟩
  · rw [if_neg h0]
    obtain ⟨k, hk, hk0⟩ : ∃ k : Nat, nf s = k ∧ k ≠ 0 := by
      rcases nf_ways s with h | h | h
      · exact absurd h h0
      · exact ⟨2, h, by decide⟩
      · exact ⟨21, h, by decide⟩
    rw [hk] at C ⊢
    have he : ((k : Int) != 0) = true := by simp; omega
    rw [Int.toNat_natCast]
    clear h0 hk
    generalize pn s = r at *
    go_enter Tryd.func33, Tryd.ntmps33
    go_wp2_with fail
    refine C.mono ?_
    rintro en w1 ⟨v, rfl, r1, g1⟩
    obtain ⟨va, vc, hv⟩ := r1.len
    subst hv
    have T1 : Hid (WT b B w w1) := WT.of_grew g1
    obtain ⟨o, h1, h2⟩ := (H.out.grew g1).ex
    obtain ⟨a, c, rfl⟩ := row_one h2
    have c0 := cell_of h1 0
    simp at c0
    clear C g1 r1 h1 h2
    go_wp2_with fail
    refine (giveUp_any _ _ _).mono ?_
    rintro en w9 ⟨rfl, h9⟩
    obtain rfl := h9.symm
    go_wp2_with fail
    exact ⟨rfl, ⟨_, rfl⟩, T1.out⟩
set_option maxRecDepth 100000 in
theorem must_t {b B : Nat} {w : World} {st : Except Nat (List Int)} {N : Nat} (h : DW b B w st N) (ok : Bool) (k : Nat) (hk : k ≠ 0) :
    Calls Tryd.prog 17 #[.pointer (some ⟨b, 0, none⟩), .bool ok, .int .i64 (k : Int)] w (fun en w' => DA b B w (thenW st (needW ok k)) N en w' ∧ Turn [b] w w') := by
  have H : Hid (DW b B w st N) := h
  obtain ⟨o, e, l, h1, h2, h3, h4⟩ := h.ex
  have hb : b < w.heap.size := h.blt
  clear h
  cases ok with
  | true =>
    clear h1 h2 h3 h4
    go_enter Tryd.func17, Tryd.ntmps17
    go_wp2_with fail
    go_end0
    exact ⟨⟨rfl, WT.refl _ _ _, by rw [show thenW st (needW true k) = st from thenW_nil st]; exact H.out⟩, Turn.refl _ _⟩
  | false =>
    have c1 := cell_of h1 1
    have z1 := free_of h1 1
    simp at c1
    have O : Hid (w.heap[b]? = some (dob o e)) := h1
    have R : Hid (w.ownsRow B 5 1 o l.length (U8 l)) := h2
    have S : Hid (StE st l e) := h4
    clear h1 h2 h4
    by_cases he : e = 0
    · subst he
      go_enter Tryd.func17, Tryd.ntmps17
      go_wp2_with fail
      go_end0
      have t := WT.setb (b := b) (B := B) w 1 (.int .i64 (k : Int))
      refine ⟨⟨rfl, t, ⟨o, (k : Int), l, by rw [heap_set O.out]; rfl, row_set R.out (NoT.of O.out (by decide)) _, h3, ?_⟩, H.out.lt, Nat.le_trans H.out.le t.size⟩, (Turn.refl [b] w).set (p := ⟨b, 1, none⟩) (Or.inl (by simp)) _⟩
      have s := S.out
      cases st with
      | ok m => exact ⟨rfl, hk⟩
      | error k' => exact absurd (by have := s.1; omega) s.2
    · have d : (e == 0) = false := by simpa using he
      go_enter Tryd.func17, Tryd.ntmps17
      go_wp2_with fail
      go_end0
      refine ⟨⟨rfl, WT.refl _ _ _, ?_⟩, Turn.refl _ _⟩
      have s := S.out
      cases st with
      | ok m => exact absurd s.2 he
      | error k' => exact H.out
set_option maxRecDepth 100000 in
theorem must_yes {b B : Nat} {w : World} {st : Except Nat (List Int)} {N : Nat} (h : DW b B w st N) (k : Int) :
    Calls Tryd.prog 17 #[.pointer (some ⟨b, 0, none⟩), .bool true, .int .i64 k] w (fun en w' => DA b B w st N en w' ∧ Turn [b] w w') := by
  have H : Hid (DW b B w st N) := h
  clear h
  go_enter Tryd.func17, Tryd.ntmps17
  go_wp2_with fail
  go_end0
  exact ⟨⟨rfl, WT.refl _ _ _, H.out⟩, Turn.refl _ _⟩
set_option maxRecDepth 100000 in
set_option maxHeartbeats 1000000 in
theorem dwName_any {b B : Nat} {w : World} {st : Except Nat (List Int)} {N : Nat} (h : DW b B w st N) (s : List Int) (hB : Byt s) (hs : s.length ≤ 140737488351232) (hN : N ≤ 17592186040000) :
    Calls Tryd.prog 16 #[.pointer (some ⟨b, 0, none⟩), .string (strOfNums s)] w (DA b B w (thenW st (nameW s)) (N + 65547)) := by
  have H : Hid (DW b B w st N) := h
  have hb : b < w.heap.size := h.blt
  have C := refPutName_any s w hB hs
  clear h
  obtain ⟨st1, hM, hE⟩ : ∃ st1, Hid (∀ W, DW b B W st N → Calls Tryd.prog 17 #[.pointer (some ⟨b, 0, none⟩), .bool (nf s == 0), .int .i64 (nf s)] W (fun en w' => DA b B W st1 N en w' ∧ Turn [b] W w')) ∧ Hid (thenW st1 (.ok (pn s)) = thenW st (nameW s)) := by
    unfold nameW pn
    rcases nf_ways s with h | h | h
    · exact ⟨st, fun W u => by rw [h]; exact must_yes u 0, by rw [if_pos h, if_pos h]; rfl⟩
    · exact ⟨thenW st (.error 2), fun W u => by rw [h]; exact must_t u false 2 (by decide), by rw [if_neg (by omega), if_neg (by omega), thenW_err, h]; rfl⟩
    · exact ⟨thenW st (.error 21), fun W u => by rw [h]; exact must_t u false 21 (by decide), by rw [if_neg (by omega), if_neg (by omega), thenW_err, h]; rfl⟩
  have hbd := pn_len s
  generalize hst : strOfNums s = str at *
  clear hst
  generalize nf s = f at *
  generalize pn s = r at *
  generalize thenW st (nameW s) = st2 at *
  go_enter Tryd.func16, Tryd.ntmps16
  go_wp2_with fail
  refine C.mono ?_
  rintro en w1 ⟨v, rfl, r1, g1⟩
  obtain ⟨va, vc, hv⟩ := r1.len
  subst hv
  have S1 : Hid (DW b B w1 st N) := H.out.grew g1
  have T1 : Hid (WT b B w w1) := WT.of_grew g1
  have R1 : Hid (Reads w1 (.slice va r.length vc) r) := r1
  clear C g1 r1
  go_wp2_with fail
  refine (hM.out w1 S1.out).mono ?_
  rintro en w2 ⟨⟨rfl, t2, s2⟩, u2⟩
  have T2 : Hid (WT b B w w2) := T1.out.trans t2
  have S2 : Hid (DW b B w2 st1 N) := s2
  have R2 : Hid (Reads w2 (.slice va r.length vc) r) := R1.out.turn u2 (by
    intro x hx
    simp at hx
    subst hx
    obtain ⟨o, e, l, h1, h2, _, _⟩ := S1.out.ex
    obtain ⟨oa, oc, rfl⟩ := row_one h2
    intro j m
    rw [cell_of h1]
    rcases j with _ | _ | j <;> simp)
  clear t2 s2 u2 hM
  obtain ⟨o0, e0, l0, h10, h20, h30, h40⟩ := S2.out.ex
  obtain ⟨oa0, oc0, rfl⟩ := row_one h20
  have c00 := cell_of h10 0
  simp at c00
  have R0 : Hid (w2.ownsRow B 5 1 (.slice oa0 l0.length oc0) l0.length (U8 l0)) := h20
  have O0 : Hid (w2.heap[b]? = some (dob (.slice oa0 l0.length oc0) e0)) := h10
  have E0 : Hid (StE st1 l0 e0) := h40
  have hlb0 : b < B := S2.out.lt
  have hBl0 : B ≤ w2.heap.size := S2.out.le
  clear h10 h20 h40
  go_wp2_with (
    at_builtin
    refine wp_appG (w := w2) (v := .slice oa0 l0.length oc0) (u := .slice va r.length vc) (r := r) rfl _ _ rfl rfl rfl R0.out hBl0 R2.out (by omega) ?_
    intro v1 x1 ho1 hg1
    obtain ⟨a1, cc1, hv1⟩ := row_one ho1
    rw [List.length_append] at hv1
    subst hv1
    have A1 := dw_app (b := b) (B := B) (w := w2) (st := st1) (N := N) (r := r) O0.out R0.out h30 E0.out hlb0 hBl0 ho1 hg1
    have q1 := cell_of A1.1 0
    have z1 := free_of A1.1 0
    simp at q1
    have HA1 : Hid (WT b B w2 (x1.setCell ⟨b, 0, none⟩ (.slice a1 (l0.length + r.length) cc1)) ∧ DW b B (x1.setCell ⟨b, 0, none⟩ (.slice a1 (l0.length + r.length) cc1)) (thenW st1 (.ok r)) (N + r.length)) := A1.2
    clear A1 hg1 ho1 )
  go_end0
  exact ⟨rfl, T2.out.trans HA1.out.1, by rw [← hE.out]; exact HA1.out.2.mono (by omega)⟩
end Go.Proofs.YtfnfbioenngjoaaDoor
