/-
  The walk of the reader's comp; no statement is proved here.
-/
import Derived.Test.YtmcljnohdknpoaaDoorFunX
namespace Go.Proofs.YtmcljnohdknpoaaDoor
open Go.RowKit
set_option linter.unusedVariables false
set_option linter.unusedSimpArgs false
set_option linter.constructorNameAsVariable false

theorem rowF_one (B : Nat) (w : World) (hB : B ≤ w.heap.size) (f : FT) : RowF B (w.alloc (.cells #[.int .i64 f.ty.num, .bool f.ty.null, .int .i64 f.ty.heap, .bool f.mut_] 94)) (.slice (some ⟨w.heap.size, 0, none⟩) 1 1) [f] :=
  ⟨rfl, Or.inr ⟨w.heap.size, 1, _, rfl, hB, heap_alloc_last _ _, Nat.le_refl _, by decide, rfl, rfl⟩⟩
theorem RowF.low {B B' : Nat} {w : World} {v : Value} {l : List FT} (h : RowF B w v l) (hb : B' ≤ B) : RowF B' w v l := row_low h hb
theorem RowV.low {B B' : Nat} {w : World} {v : Value} {l : List VT} (h : RowV B w v l) (hb : B' ≤ B) : RowV B' w v l := row_low h hb
set_option maxRecDepth 100000 in
set_option maxHeartbeats 2000000 in
theorem comp_any {w : World} {b : Nat} {s : ByteArray} {p : Nat} (h : RD w b s p) (hs : s.size ≤ 65536) (he : Env w) (hb8 : 8 ≤ b) :
    Calls Tryd.prog 66 #[.pointer (some ⟨b, 0, none⟩)] w (AnsC b s w (compS s p)) := by
  have hb : b < w.heap.size := lt_of_obj h.1
  have HE : Hid (Env w) := he
  obtain ⟨R, hR⟩ : ∃ R, R = compS s p := ⟨_, rfl⟩
  rw [← hR]
  have HR : Hid (R = compS s p) := hR
  have hps : p ≤ s.size := h.2.1
  have hmf : ∀ (fn : Fn) (first cap : Array Value) (w : World), (Instr.makeFunc fn first cap).run Tryd.prog w = .ok (.func fn first cap) w := fun _ _ _ _ => rfl
  have R0 : Hid (RD (w.alloc (.cells #[.int .i64 0, .slice none 0 0, .slice none 0 0, .slice none 0 0] 60)) b s p) := h.grew ((Grew.refl w).alloc _)
  have T0 : Hid (Turn [b] w (w.alloc (.cells #[.int .i64 0, .slice none 0 0, .slice none 0 0, .slice none 0 0] 60))) := (Turn.refl [b] w).alloc _
  have N0 : Hid ((w.alloc (.cells #[.int .i64 0, .slice none 0 0, .slice none 0 0, .slice none 0 0] 60)).heap[w.heap.size]? = some (cobj 0 NILS NILS NILS)) := heap_alloc_last _ _
  clear hR h he
  by_cases h1 : tk s p = WFUNC
  · have C := skip_yes R0.out hs WFUNC h1
    have HS : Hid (R = loopS s (funStep s) ⟨false, [], []⟩ (nx s p)) := by rw [HR.out]; unfold compS; rw [if_pos h1]; exact rfl
    clear HR h1
    go_enter Tryd.func66, Tryd.ntmps66
    go_wp2_with fail
    refine C.mono ?_
    rintro en w1 ⟨rfl, t1, r1⟩
    have T1 : Hid (Turn [b] w w1) := T0.out.trans t1
    have N1 : Hid (w1.heap[w.heap.size]? = some (cobj 0 NILS NILS NILS)) := t1.other N0.out (by simp; omega)
    have V := function_any r1 hs (HE.out.of_turn T1.out hb8) hb8
    have hz1 := T1.out.size
    rw [← HS.out] at V
    clear C t1 r1 T0 N0 R0 HS
    go_wp2_with fail
    refine V.mono ?_
    intro en w2 A2
    clear V
    cases R with
    | error f =>
      obtain ⟨rfl, t2⟩ := A2
      go_wp2_with fail
      exact ⟨rfl, rfl, T1.out.trans t2⟩
    | ok x =>
      obtain ⟨c, q⟩ := x
      obtain ⟨v, rfl, ⟨pv, rv, fv, rfl, WP, WR, WF⟩, t2, r2⟩ := A2
      have T2 : Hid (Turn [b] w w2) := T1.out.trans t2
      have R2 : Hid (RD w2 b s q) := r2
      have n2 := t2.other N1.out (by simp; omega)
      have N2 : Hid (w2.heap[w.heap.size]? = some (cobj 0 NILS NILS NILS)) := n2
      obtain ⟨pa, pc, hpv⟩ := row_one WP
      obtain ⟨ra, rc, hrv⟩ := row_one WR
      obtain ⟨fa, fc, hfv⟩ := row_one WF
      subst hpv
      subst hrv
      subst hfv
      have P2 : Hid (RowV w1.heap.size w2 _ c.params) := WP
      have Q2 : Hid (RowV w1.heap.size w2 _ c.results) := WR
      have F2 : Hid (RowF w1.heap.size w2 _ c.fields) := WF
      have c0 := cell_of n2 0
      have c1 := cell_of n2 1
      have c2 := cell_of n2 2
      have c3 := cell_of n2 3
      have z0 := free_of n2 0
      have z1 := free_of n2 1
      have z2 := free_of n2 2
      have z3 := free_of n2 3
      simp [NILS] at c0 c1 c2 c3
      clear t2 r2 n2 WP WR WF
      go_wp2_with fail
      refine bodyPost_ret (v := .agg #[.int .i64 c.kind, .slice pa c.params.length pc, .slice ra c.results.length rc, .slice fa c.fields.length fc]) (by simp [results, Tryd.results66, go_sem, c0, c1, c2, c3]) rfl ?_
      exact ⟨_, rfl, comp_end N2.out (Nat.le_refl _) (B := w1.heap.size) hz1 P2.out Q2.out F2.out T2.out R2.out⟩
  · have C := skip_no R0.out WFUNC h1
    by_cases h2 : tk s p = WSTRUCT
    · have D := skip_yes R0.out hs WSTRUCT h2
      have HS : Hid (R = loopS s (strStep s) [] (nx s p)) := by rw [HR.out]; unfold compS; rw [if_neg h1, if_pos h2]; exact rfl
      clear HR h1 h2
      go_enter Tryd.func66, Tryd.ntmps66
      go_wp2_with fail
      refine C.mono ?_
      rintro en w1 ⟨rfl, h1'⟩
      obtain rfl := h1'.symm
      clear C
      go_wp2_with fail
      refine D.mono ?_
      rintro en w1 ⟨rfl, t1, r1⟩
      have T1 : Hid (Turn [b] w w1) := T0.out.trans t1
      have N1 : Hid (w1.heap[w.heap.size]? = some (cobj 0 NILS NILS NILS)) := t1.other N0.out (by simp; omega)
      have R1 : Hid (RD w1 b s (nx s p)) := r1
      have hz1 := T1.out.size
      have hlt1 : w.heap.size < w1.heap.size := lt_of_obj N1.out
      clear D t1 r1 T0 N0 R0
      go_wp2_with fail
      generalize hW : w1.alloc (.cells #[.int .i64 2, .slice none 0 0, .slice none 0 0, .slice none 0 0] 60) = W
      have hWs : W.heap.size = w1.heap.size + 1 := by rw [← hW]; simp
      have g0 : Grew w1 W := by rw [← hW]; exact (Grew.refl w1).alloc _
      have T0 : Hid (Turn [b] w W) := T1.out.trans (g0.turn _)
      have N0 : Hid (W.heap[w.heap.size]? = some (cobj 0 NILS NILS NILS)) := (g0.turn []).other N1.out (by simp)
      have M0 : Hid (W.heap[w1.heap.size]? = some (cobj 2 NILS NILS NILS)) := by rw [← hW]; exact heap_alloc_last _ _
      have R0 : Hid (RD W b s (nx s p)) := R1.out.grew g0
      clear hW g0 T1 N1 R1
      obtain ⟨M, hM⟩ : ∃ M, M = w1.heap.size := ⟨_, rfl⟩
      rw [← hM] at hz1 hlt1 hWs M0 ⊢
      clear hM
      go_loopw [] (fun w' => ∃ (q : Nat) (fs : List FT) (fv : Value), Hid (RD w' b s q) ∧ Hid (w'.heap[M]? = some (cobj 2 NILS NILS fv)) ∧ Hid (w'.heap[w.heap.size]? = some (cobj 0 NILS NILS NILS)) ∧ Hid (RowF (M + 1) w' fv fs) ∧ M + 1 ≤ w'.heap.size ∧ fs.length ≤ q ∧ Hid (Turn [b] w w') ∧ Hid (R = loopS s (strStep s) fs q)) (fun w' => s.size - atOf w' b)
      case atStart => exact ⟨nx s p, [], NILS, R0, M0, N0, RowF.nil _ _, by omega, Nat.zero_le _, T0, HS⟩
      case round =>
        obtain ⟨q, fs, fv, R0, M0, N0, P0, hBr, hfl, T0, HE1⟩ := hrel
        obtain ⟨w0, hw0⟩ : ∃ w0, w0 = wr := ⟨_, rfl⟩
        rw [← hw0] at R0 M0 N0 P0 hBr T0 ⊢
        clear hw0
        have hqs : q ≤ s.size := R0.out.2.1
        have HE2 := HE1.out
        rw [loopS_eq (str_adv s) _ q hqs] at HE2
        obtain ⟨fa, fc, hfv⟩ := row_one P0.out
        subst hfv
        have MEA : Hid (atOf w0 b = q) := atOf_rdr R0.out.1
        by_cases h1 : tk s q = LP
        · have e1 := nx_of hqs h1 (by decide)
          have C := skip_yes R0.out hs LP h1
          by_cases h2 : tk s (nx s q) = WFIELD
          · have e2 := nx_of e1.2 h2 (by decide)
            have hst : strStep s fs q = match uptoS s (fieldS s) fs (nx s (nx s q)) with
              | .error f => .error f
              | .ok (l, q) => .ok (.inl (l, q)) := by unfold strStep; rw [if_pos h1, if_pos h2]; rfl
            rw [hst] at HE2
            clear HE1 hst h1
            go_wp2_with fail
            refine C.mono ?_
            rintro en w1 ⟨rfl, t1, r1⟩
            have T1 : Hid (Turn [b] w w1) := T0.out.trans t1
            have R1 : Hid (RD w1 b s (nx s q)) := r1
            have M1 : Hid (w1.heap[M]? = some (cobj 2 NILS NILS (.slice fa fs.length fc))) := t1.other M0.out (by simp; omega)
            have N1 : Hid (w1.heap[w.heap.size]? = some (cobj 0 NILS NILS NILS)) := t1.other N0.out (by simp; omega)
            have P1 : Hid (RowF (M + 1) w1 (.slice fa fs.length fc) fs) := P0.out.turn t1 R0.out.noF
            have hz1 := t1.size
            clear t1 r1 T0 M0 N0 P0
            clear C R0
            have D := take_yes R1.out hs WFIELD h2
            go_wp2_with fail
            refine D.mono ?_
            rintro en w2 ⟨rfl, t2, r2⟩
            have T2 : Hid (Turn [b] w w2) := T1.out.trans t2
            have R2 : Hid (RD w2 b s (nx s (nx s q))) := r2
            have M2 : Hid (w2.heap[M]? = some (cobj 2 NILS NILS (.slice fa fs.length fc))) := t2.other M1.out (by simp; omega)
            have N2 : Hid (w2.heap[w.heap.size]? = some (cobj 0 NILS NILS NILS)) := t2.other N1.out (by simp; omega)
            have P2 : Hid (RowF (M + 1) w2 (.slice fa fs.length fc) fs) := P1.out.turn t2 R1.out.noF
            have hz2 := t2.size
            clear t2 r2 T1 M1 N1 P1
            clear D R1
            have m3 := cell_of M2.out 3
            simp at m3
            have U := upToF R2.out hs _ fs P2.out (by omega) (by omega) (by omega) (fun w => Env w) (HE.out.of_turn T2.out hb8) (fun _ _ h t => h.tb t hb8 (by omega)) (fun w1 p1 h1 h2 => field_any h1 hs h2 hb8)
            obtain ⟨r, hr⟩ : ∃ r, r = uptoS s (fieldS s) fs (nx s (nx s q)) := ⟨_, rfl⟩
            have hadv : ∀ l q', r = .ok (l, q') → nx s (nx s q) < q' ∧ q' ≤ s.size := fun l q' hh => upto_field s fs _ l q' e2.2 (by rw [← hr]; exact hh)
            rw [← hr] at U HE2
            clear hr
            go_wp2_with fail
            refine U.mono ?_
            intro en w3 A3
            clear U
            cases r with
            | error f =>
              obtain ⟨rfl, t3⟩ := A3
              have HE3 : Hid (R = .error f) := HE2
              clear HE2
              go_wp2_with fail
              exact ⟨rfl, by rw [HE3.out]; exact ⟨rfl, t3.turn T2.out (by omega)⟩⟩
            | ok x =>
              obtain ⟨l, q3⟩ := x
              have hq3 := hadv l q3 rfl
              obtain ⟨v3, rfl, W3, t3, r3, hl3⟩ := A3
              have HE3 : Hid (R = loopS s (strStep s) l q3) := HE2
              have R3 : Hid (RD w3 b s q3) := r3
              have mm := t3.other M2.out (by omega) (by omega)
              have nn := t3.other N2.out (by omega) (by omega)
              have T3 : Hid (Turn [b] w w3) := t3.turn T2.out (by omega)
              have P3 : Hid (RowF (M + 1) w3 v3 l) := W3
              have hsz3 := t3.size
              obtain ⟨a3, c3, hv3⟩ := row_one W3
              subst hv3
              have mm3 := cell_of mm 3
              have zz3 := free_of mm 3
              simp at mm3
              have M3 : Hid (w3.heap[M]? = some (cobj 2 NILS NILS (.slice fa fs.length fc))) := mm
              have N3 : Hid (w3.heap[w.heap.size]? = some (cobj 0 NILS NILS NILS)) := nn
              clear HE2 W3 t3 r3 mm nn m3 M2 N2 T2 P2
              go_wp2_with fail
              go_roundw
              case rel =>
                exact ⟨q3, l, .slice a3 l.length c3, R3.out.set (q := ⟨M, 3, none⟩) (by simp; omega) _, cobj_set3 M3.out _, heap_other N3.out (by simp; omega) _, P3.out.set (q := ⟨M, 3, none⟩) M3.out _, by simp; omega, hl3, T3.out.set (p := ⟨M, 3, none⟩) (Or.inr (by simp; omega)) _, HE3⟩
              case measure =>
                rw [MEA.out, atOf_rdr (R3.out.set (q := ⟨M, 3, none⟩) (by simp; omega) _).1]
                omega
          · have hst : strStep s fs q = .error (nx s q) := by unfold strStep; rw [if_pos h1, if_neg h2]
            rw [hst] at HE2
            have HE3 : Hid (R = .error (nx s q)) := HE2
            clear HE1 HE2 hst h1
            go_wp2_with fail
            refine C.mono ?_
            rintro en w1 ⟨rfl, t1, r1⟩
            have T1 : Hid (Turn [b] w w1) := T0.out.trans t1
            have D := take_no r1 WFIELD h2
            clear C t1 r1
            go_wp2_with fail
            refine D.mono ?_
            rintro en w2 ⟨rfl, h2'⟩
            obtain rfl := h2'.symm
            go_wp2_with fail
            exact ⟨rfl, by rw [HE3.out]; exact ⟨rfl, T1.out⟩⟩
        · have C := skip_no R0.out LP h1
          have hst : strStep s fs q = if tk s q = RP then .ok (.inr (⟨2, [], [], fs⟩, nx s q)) else .error q := by unfold strStep; rw [if_neg h1]
          rw [hst] at HE2
          clear HE1 hst
          go_wp2_with fail
          refine C.mono ?_
          rintro en w1 ⟨rfl, h1'⟩
          obtain rfl := h1'.symm
          clear C
          by_cases h3 : tk s q = RP
          · rw [if_pos h3] at HE2
            have HE3 : Hid (R = .ok (⟨2, [], [], fs⟩, nx s q)) := HE2
            have D := take_yes R0.out hs RP h3
            clear HE2
            go_wp2_with fail
            refine D.mono ?_
            rintro en w1 ⟨rfl, t1, r1⟩
            have T1 : Hid (Turn [b] w w1) := T0.out.trans t1
            have R1 : Hid (RD w1 b s (nx s q)) := r1
            have M1 : Hid (w1.heap[M]? = some (cobj 2 NILS NILS (.slice fa fs.length fc))) := t1.other M0.out (by simp; omega)
            have N1 : Hid (w1.heap[w.heap.size]? = some (cobj 0 NILS NILS NILS)) := t1.other N0.out (by simp; omega)
            have P1 : Hid (RowF (M + 1) w1 (.slice fa fs.length fc) fs) := P0.out.turn t1 R0.out.noF
            have hz1 := t1.size
            clear t1 r1 T0 M0 N0 P0
            have mm0 := cell_of M1.out 0
            have mm1 := cell_of M1.out 1
            have mm2 := cell_of M1.out 2
            have mm3 := cell_of M1.out 3
            have c0 := cell_of N1.out 0
            have c1 := cell_of N1.out 1
            have c2 := cell_of N1.out 2
            have c3 := cell_of N1.out 3
            have z0 := free_of N1.out 0
            have z1 := free_of N1.out 1
            have z2 := free_of N1.out 2
            have z3 := free_of N1.out 3
            simp [NILS] at mm0 mm1 mm2 mm3 c0 c1 c2 c3
            clear D
            go_wp2_with fail
            refine bodyPost_ret (v := .agg #[.int .i64 2, .slice none 0 0, .slice none 0 0, .slice fa fs.length fc]) (by simp [results, Tryd.results66, go_sem, c0, c1, c2, c3]) rfl ?_
            rw [HE3.out]
            exact ⟨_, rfl, comp_end (c := ⟨2, [], [], fs⟩) N1.out (Nat.le_refl _) (B := M + 1) (by omega) (RowV.nil _ _) (RowV.nil _ _) P1.out T1.out R1.out⟩
          · rw [if_neg h3] at HE2
            have HE3 : Hid (R = .error q) := HE2
            have D := take_no R0.out RP h3
            clear HE2
            go_wp2_with fail
            refine D.mono ?_
            rintro en w2 ⟨rfl, h2'⟩
            obtain rfl := h2'.symm
            go_wp2_with fail
            exact ⟨rfl, by rw [HE3.out]; exact ⟨rfl, T0.out⟩⟩
    · have D := skip_no R0.out WSTRUCT h2
      by_cases h3 : tk s p = WARRAY
      · have F := take_yes R0.out hs WARRAY h3
        have HS : Hid (R = closeS s (fun f => (⟨3, [], [], [f]⟩ : CT)) (fieldS s (nx s p))) := by rw [HR.out]; unfold compS; rw [if_neg h1, if_neg h2, if_pos h3]; exact rfl
        clear HR h1 h2 h3
        go_enter Tryd.func66, Tryd.ntmps66
        go_wp2_with fail
        refine C.mono ?_
        rintro en w1 ⟨rfl, h1'⟩
        obtain rfl := h1'.symm
        clear C
        go_wp2_with fail
        refine D.mono ?_
        rintro en w1 ⟨rfl, h1'⟩
        obtain rfl := h1'.symm
        clear D
        go_wp2_with fail
        refine F.mono ?_
        rintro en w1 ⟨rfl, t1, r1⟩
        have T1 : Hid (Turn [b] w w1) := T0.out.trans t1
        have N1 : Hid (w1.heap[w.heap.size]? = some (cobj 0 NILS NILS NILS)) := t1.other N0.out (by simp; omega)
        have V := field_any r1 hs (HE.out.of_turn T1.out hb8) hb8
        have hz1 := T1.out.size
        clear F t1 r1 T0 N0 R0
        go_wp2_with fail
        refine V.mono ?_
        intro en w2 A2
        clear V
        cases hv : fieldS s (nx s p) with
        | error f =>
          rw [hv] at A2 HS
          obtain ⟨rfl, t2⟩ := A2
          have HS' : Hid (R = .error f) := HS.out
          clear HS hv
          go_wp2_with fail
          exact ⟨rfl, by rw [HS'.out]; exact ⟨rfl, T1.out.trans t2⟩⟩
        | ok x =>
          obtain ⟨f, q⟩ := x
          rw [hv] at A2 HS
          obtain ⟨rfl, t2, r2⟩ := A2
          have HS' : Hid (R = if tk s q = RP then .ok ((⟨3, [], [], [f]⟩ : CT), nx s q) else .error q) := HS.out
          have T2 : Hid (Turn [b] w w2) := T1.out.trans t2
          have N2 : Hid (w2.heap[w.heap.size]? = some (cobj 0 NILS NILS NILS)) := t2.other N1.out (by simp; omega)
          have R2 : Hid (RD w2 b s q) := r2
          have hlt2 : w.heap.size < w2.heap.size := lt_of_obj N2.out
          clear HS hv t2 r2 T1 N1
          unfold FT.v
          go_wp2_with fail
          generalize hw3 : w2.alloc (.cells #[.int .i64 f.ty.num, .bool f.ty.null, .int .i64 f.ty.heap, .bool f.mut_] 94) = w3
          have hw3s : w3.heap.size = w2.heap.size + 1 := by rw [← hw3]; simp
          have g3 : Grew w2 w3 := by rw [← hw3]; exact (Grew.refl w2).alloc _
          have P3 : Hid (RowF w.heap.size w3 (.slice (some ⟨w2.heap.size, 0, none⟩) 1 1) [f]) := by rw [← hw3]; exact rowF_one _ _ (by omega) f
          generalize hw4 : w3.alloc (.cells #[.int .i64 3, .slice none 0 0, .slice none 0 0, .slice (some ⟨w2.heap.size, 0, none⟩) 1 1] 60) = w4
          have g4 : Grew w3 w4 := by rw [← hw4]; exact (Grew.refl w3).alloc _
          have M4 : Hid (w4.heap[w2.heap.size + 1]? = some (cobj 3 NILS NILS (.slice (some ⟨w2.heap.size, 0, none⟩) 1 1))) := by rw [← hw4, ← hw3s]; exact heap_alloc_last _ _
          have T4 : Hid (Turn [b] w w4) := T2.out.trans ((g3.trans g4).turn _)
          have N4 : Hid (w4.heap[w.heap.size]? = some (cobj 0 NILS NILS NILS)) := ((g3.trans g4).turn []).other N2.out (by simp)
          have R4 : Hid (RD w4 b s q) := R2.out.grew (g3.trans g4)
          have P4 : Hid (RowF w.heap.size w4 (.slice (some ⟨w2.heap.size, 0, none⟩) 1 1) [f]) := P3.out.turn (g4.turn []) (by simp)
          clear hw4 hw3 g3 g4 T2 N2 R2 P3
          by_cases hq : tk s q = RP
          · rw [if_pos hq] at HS'
            refine (take_yes R4.out hs RP hq).mono ?_
            rintro en w6 ⟨rfl, t6, r6⟩
            have T6 : Hid (Turn [b] w w6) := T4.out.trans t6
            have R6 : Hid (RD w6 b s (nx s q)) := r6
            have P6 : Hid (RowF w.heap.size w6 (.slice (some ⟨w2.heap.size, 0, none⟩) 1 1) [f]) := P4.out.turn t6 R4.out.noF
            have hM6 := t6.other M4.out (by simp; omega)
            have hN6 := t6.other N4.out (by simp; omega)
            have N6 : Hid (w6.heap[w.heap.size]? = some (cobj 0 NILS NILS NILS)) := hN6
            have mm0 := cell_of hM6 0
            have mm1 := cell_of hM6 1
            have mm2 := cell_of hM6 2
            have mm3 := cell_of hM6 3
            have c0 := cell_of hN6 0
            have c1 := cell_of hN6 1
            have c2 := cell_of hN6 2
            have c3 := cell_of hN6 3
            have z0 := free_of hN6 0
            have z1 := free_of hN6 1
            have z2 := free_of hN6 2
            have z3 := free_of hN6 3
            simp [NILS] at mm0 mm1 mm2 mm3 c0 c1 c2 c3
            clear t6 r6 hM6 hN6
            go_wp2_with fail
            refine bodyPost_ret (v := .agg #[.int .i64 3, .slice none 0 0, .slice none 0 0, .slice (some ⟨w2.heap.size, 0, none⟩) 1 1]) (by simp [results, Tryd.results66, go_sem, c0, c1, c2, c3]) rfl ?_
            rw [HS'.out]
            exact ⟨_, rfl, comp_end (c := ⟨3, [], [], [f]⟩) N6.out (Nat.le_refl _) (B := w.heap.size) (Nat.le_refl _) (RowV.nil _ _) (RowV.nil _ _) P6.out T6.out R6.out⟩
          · rw [if_neg hq] at HS'
            refine (take_no R4.out RP hq).mono ?_
            rintro en w6 ⟨rfl, h6⟩
            obtain rfl := h6.symm
            go_wp2_with fail
            exact ⟨rfl, by rw [HS'.out]; exact ⟨rfl, T4.out⟩⟩
      · have F := take_no R0.out WARRAY h3
        have HS : Hid (R = .error p) := by rw [HR.out]; unfold compS; rw [if_neg h1, if_neg h2, if_neg h3]; exact rfl
        clear HR h1 h2 h3
        go_enter Tryd.func66, Tryd.ntmps66
        go_wp2_with fail
        refine C.mono ?_
        rintro en w1 ⟨rfl, h1'⟩
        obtain rfl := h1'.symm
        clear C
        go_wp2_with fail
        refine D.mono ?_
        rintro en w1 ⟨rfl, h1'⟩
        obtain rfl := h1'.symm
        clear D
        go_wp2_with fail
        refine F.mono ?_
        rintro en w1 ⟨rfl, h1'⟩
        obtain rfl := h1'.symm
        go_wp2_with fail
        exact ⟨rfl, by rw [HS.out]; exact ⟨rfl, T0.out⟩⟩
end Go.Proofs.YtmcljnohdknpoaaDoor
