/-
  The walk of the reader's function; no statement is proved here.
-/
import Derived.Test.YtmcljnohdknpoaaDoorFunW
namespace Go.Proofs.YtmcljnohdknpoaaDoor
open Go.RowKit
set_option linter.unusedVariables false
set_option linter.unusedSimpArgs false
set_option linter.constructorNameAsVariable false

set_option maxRecDepth 100000 in
set_option maxHeartbeats 2000000 in
theorem function_any {w : World} {b : Nat} {s : ByteArray} {p : Nat} (h : RD w b s p) (hs : s.size ≤ 65536) (he : Env w) (hb8 : 8 ≤ b) :
    Calls Tryd.prog 80 #[.pointer (some ⟨b, 0, none⟩)] w (AnsC b s w (loopS s (funStep s) ⟨false, [], []⟩ p)) := by
  have hb : b < w.heap.size := lt_of_obj h.1
  have HE : Hid (Env w) := he
  obtain ⟨R, hR⟩ : ∃ R, R = loopS s (funStep s) ⟨false, [], []⟩ p := ⟨_, rfl⟩
  rw [← hR]
  have HR : Hid (R = loopS s (funStep s) ⟨false, [], []⟩ p) := hR
  have H0 : Hid (RD w b s p) := h
  have hmf : ∀ (fn : Fn) (first cap : Array Value) (w : World), (Instr.makeFunc fn first cap).run Tryd.prog w = .ok (.func fn first cap) w := fun _ _ _ _ => rfl
  clear hR h he
  go_enter Tryd.func80, Tryd.ntmps80
  go_wp2
  generalize hW : ((w.alloc (.cells #[.int .i64 0, .slice none 0 0, .slice none 0 0, .slice none 0 0] 60)).alloc (.cells #[.int .i64 1, .slice none 0 0, .slice none 0 0, .slice none 0 0] 60)) = W
  have hWs : W.heap.size = w.heap.size + 2 := by rw [← hW]; simp
  have g0 : Grew w W := by rw [← hW]; exact ((Grew.refl w).alloc _).alloc _
  have T0 : Hid (Turn [b] w W) := g0.turn _
  have N0 : Hid (W.heap[w.heap.size]? = some (cobj 0 NILS NILS NILS)) := by rw [← hW]; exact heap_alloc (heap_alloc_last _ _) _
  have M0 : Hid (W.heap[w.heap.size + 1]? = some (cobj 1 NILS NILS NILS)) := by
    have h1 : (w.alloc (.cells #[.int .i64 0, .slice none 0 0, .slice none 0 0, .slice none 0 0] 60)).heap.size = w.heap.size + 1 := by simp
    rw [← hW, ← h1]
    exact heap_alloc_last _ _
  have R0 : Hid (RD W b s p) := H0.out.grew g0
  clear hW H0 g0
  go_loopw [4] (fun r_ w' => ∃ (q : Nat) (st : FnSt) (pv rv : Value) (B1 : Nat), r_ = .bool st.res ∧ Hid (RD w' b s q) ∧ Hid (w'.heap[w.heap.size + 1]? = some (cobj 1 pv rv NILS)) ∧ Hid (w'.heap[w.heap.size]? = some (cobj 0 NILS NILS NILS)) ∧ Hid (RowV (w.heap.size + 2) w' pv st.ps) ∧ Hid (RowV B1 w' rv st.rs) ∧ Hid (∀ g, pv.ownBlock = some g → g < B1) ∧ Hid (st.res = false → rv = NILS ∧ st.rs = []) ∧ w.heap.size + 2 ≤ B1 ∧ B1 ≤ w'.heap.size ∧ st.ps.length ≤ q ∧ st.rs.length ≤ q ∧ Hid (Turn [b] w w') ∧ Hid (R = loopS s (funStep s) st q)) (fun _ w' => s.size - atOf w' b)
  case atStart => exact ⟨p, ⟨false, [], []⟩, NILS, NILS, w.heap.size + 2, rfl, R0, M0, N0, RowV.nil _ _, RowV.nil _ _, (show ∀ g, NILS.ownBlock = some g → g < w.heap.size + 2 by intro g hg; cases hg), (show false = false → NILS = NILS ∧ ([] : List VT) = [] from fun _ => ⟨rfl, rfl⟩), Nat.le_refl _, by omega, Nat.zero_le _, Nat.zero_le _, T0, HR⟩
  case round =>
    obtain ⟨q, ⟨res, ps, rs⟩, pv, rv, B1, rfl, R0, M0, N0, P0, Q0, HL, HRES, hB1, hBr, hps, hrs, T0, HE1⟩ := hrel
    obtain ⟨w0, hw0⟩ : ∃ w0, w0 = wr := ⟨_, rfl⟩
    rw [← hw0] at R0 M0 N0 P0 Q0 hBr T0 ⊢
    clear hw0
    simp only at P0 Q0 HL HRES hps hrs HE1
    have hqs : q ≤ s.size := R0.out.2.1
    have HE2 := HE1.out
    rw [loopS_eq (fun_adv s) _ q hqs] at HE2
    obtain ⟨pa, pc, hpv⟩ := row_one P0.out
    obtain ⟨ra, rc, hrv⟩ := row_one Q0.out
    subst hpv
    subst hrv
    have MEA : Hid (atOf w0 b = q) := atOf_rdr R0.out.1
    by_cases h1 : tk s q = LP
    · have e1 := nx_of hqs h1 (by decide)
      have C := skip_yes R0.out hs LP h1
      by_cases h2 : res = false ∧ tk s (nx s q) = WPARAM
      · obtain ⟨rfl, h2⟩ := h2
        have e2 := nx_of e1.2 h2 (by decide)
        have hst : funStep s ⟨false, ps, rs⟩ q = match uptoS s (valS s) ps (nx s (nx s q)) with
          | .error f => .error f
          | .ok (l, q) => .ok (.inl (⟨false, l, rs⟩, q)) := by unfold funStep; rw [if_pos h1, if_pos ⟨rfl, h2⟩]; rfl
        rw [hst] at HE2
        obtain ⟨hn1, hn2⟩ := HRES.out rfl
        clear HE1 hst h1 HRES
        go_wp2_with fail
        refine C.mono ?_
        rintro en w1 ⟨rfl, t1, r1⟩
        have T1 : Hid (Turn [b] w w1) := T0.out.trans t1
        have R1 : Hid (RD w1 b s (nx s q)) := r1
        have M1 : Hid (w1.heap[w.heap.size + 1]? = some (cobj 1 (.slice pa ps.length pc) (.slice ra rs.length rc) NILS)) := t1.other M0.out (by simp; omega)
        have N1 : Hid (w1.heap[w.heap.size]? = some (cobj 0 NILS NILS NILS)) := t1.other N0.out (by simp; omega)
        have P1 : Hid (RowV (w.heap.size + 2) w1 (.slice pa ps.length pc) ps) := P0.out.turn t1 R0.out.noV
        have Q1 : Hid (RowV B1 w1 (.slice ra rs.length rc) rs) := Q0.out.turn t1 R0.out.noV
        have hz1 := t1.size
        clear t1 r1 T0 M0 N0 P0 Q0
        clear C R0
        have D := skip_yes R1.out hs WPARAM h2
        go_wp2_with fail
        refine D.mono ?_
        rintro en w2 ⟨rfl, t2, r2⟩
        have T2 : Hid (Turn [b] w w2) := T1.out.trans t2
        have R2 : Hid (RD w2 b s (nx s (nx s q))) := r2
        have M2 : Hid (w2.heap[w.heap.size + 1]? = some (cobj 1 (.slice pa ps.length pc) (.slice ra rs.length rc) NILS)) := t2.other M1.out (by simp; omega)
        have N2 : Hid (w2.heap[w.heap.size]? = some (cobj 0 NILS NILS NILS)) := t2.other N1.out (by simp; omega)
        have P2 : Hid (RowV (w.heap.size + 2) w2 (.slice pa ps.length pc) ps) := P1.out.turn t2 R1.out.noV
        have Q2 : Hid (RowV B1 w2 (.slice ra rs.length rc) rs) := Q1.out.turn t2 R1.out.noV
        have hz2 := t2.size
        clear t2 r2 T1 M1 N1 P1 Q1
        clear D R1
        have m1 := cell_of M2.out 1
        have z1 := free_of M2.out 1
        simp at m1
        have U := upToV R2.out hs _ ps P2.out (by omega) (by omega) (by omega) (fun w => Env w) (HE.out.of_turn T2.out hb8) (fun _ _ h t => h.tb t hb8 (by omega)) (fun w1 p1 h1 h2 => val_any h1 hs h2 hb8)
        obtain ⟨r, hr⟩ : ∃ r, r = uptoS s (valS s) ps (nx s (nx s q)) := ⟨_, rfl⟩
        have hadv : ∀ l q', r = .ok (l, q') → nx s (nx s q) < q' ∧ q' ≤ s.size := fun l q' hh => upto_val s ps _ l q' e2.2 (by rw [← hr]; exact hh)
        rw [← hr] at U HE2
        clear hr
        go_wp2_with fail
        refine U.mono ?_
        intro en w3 A3
        clear U
        cases r with
        | error f =>
          obtain ⟨rfl, t3⟩ := A3
          have HE3 : Hid (R = .error f) := HE2
          clear HE2
          go_wp2_with fail
          exact ⟨rfl, by rw [HE3.out]; exact ⟨rfl, t3.turn T2.out (by omega)⟩⟩
        | ok x =>
          obtain ⟨l, q3⟩ := x
          have hq3 := hadv l q3 rfl
          obtain ⟨v3, rfl, W3, t3, r3, hl3⟩ := A3
          have HE3 : Hid (R = loopS s (funStep s) ⟨false, l, rs⟩ q3) := HE2
          have R3 : Hid (RD w3 b s q3) := r3
          have m3 := t3.other M2.out (by omega) (by omega)
          have n3 := t3.other N2.out (by omega) (by omega)
          have T3 : Hid (Turn [b] w w3) := t3.turn T2.out (by omega)
          have P3 : Hid (RowV (w.heap.size + 2) w3 v3 l) := W3
          have hsz3 := t3.size
          obtain ⟨a3, c3, hv3⟩ := row_one W3
          subst hv3
          have mm1 := cell_of m3 1
          have zz1 := free_of m3 1
          simp at mm1
          have M3 : Hid (w3.heap[w.heap.size + 1]? = some (cobj 1 (.slice pa ps.length pc) (.slice ra rs.length rc) NILS)) := m3
          have N3 : Hid (w3.heap[w.heap.size]? = some (cobj 0 NILS NILS NILS)) := n3
          clear HE2 W3 t3 r3 m3 n3 m1 z1 M2 N2 T2 P2 Q2
          go_wp2_with fail
          go_roundw
          case rel =>
            refine ⟨q3, ⟨false, l, rs⟩, .slice a3 l.length c3, .slice ra rs.length rc, w3.heap.size, rfl, R3.out.set (q := ⟨w.heap.size + 1, 1, none⟩) (by simp; omega) _, cobj_set1 M3.out _, heap_other N3.out (by simp) _, P3.out.set (q := ⟨w.heap.size + 1, 1, none⟩) M3.out _, ?_, (show ∀ g, (Value.slice a3 l.length c3).ownBlock = some g → g < w3.heap.size from row_lt P3.out), (show false = false → (Value.slice ra rs.length rc) = NILS ∧ rs = [] from fun _ => ⟨hn1, hn2⟩), by omega, by simp, hl3, by simp [hn2], T3.out.set (p := ⟨w.heap.size + 1, 1, none⟩) (Or.inr (by simp)) _, HE3⟩
            rw [hn1, hn2]
            exact RowV.nil _ _
          case measure =>
            rw [MEA.out, atOf_rdr (R3.out.set (q := ⟨w.heap.size + 1, 1, none⟩) (by simp; omega) _).1]
            omega
      · have hst : funStep s ⟨res, ps, rs⟩ q = if tk s (nx s q) = WRESULT then match uptoS s (valS s) rs (nx s (nx s q)) with
          | .error f => .error f
          | .ok (l, q) => .ok (.inl (⟨true, ps, l⟩, q)) else .error (nx s q) := by unfold funStep; rw [if_pos h1, if_neg h2]; rfl
        rw [hst] at HE2
        clear HE1 hst h1
        go_wp2_with fail
        refine C.mono ?_
        rintro en w1 ⟨rfl, t1, r1⟩
        have T1 : Hid (Turn [b] w w1) := T0.out.trans t1
        have R1 : Hid (RD w1 b s (nx s q)) := r1
        have M1 : Hid (w1.heap[w.heap.size + 1]? = some (cobj 1 (.slice pa ps.length pc) (.slice ra rs.length rc) NILS)) := t1.other M0.out (by simp; omega)
        have N1 : Hid (w1.heap[w.heap.size]? = some (cobj 0 NILS NILS NILS)) := t1.other N0.out (by simp; omega)
        have P1 : Hid (RowV (w.heap.size + 2) w1 (.slice pa ps.length pc) ps) := P0.out.turn t1 R0.out.noV
        have Q1 : Hid (RowV B1 w1 (.slice ra rs.length rc) rs) := Q0.out.turn t1 R0.out.noV
        have hz1 := t1.size
        clear t1 r1 T0 M0 N0 P0 Q0
        clear C R0
        have fin : ∀ w2 : World, w2 = w1 → True := fun _ _ => trivial
        clear fin
        have hor : res = true ∨ res = false ∧ tk s (nx s q) ≠ WPARAM := by
          cases res with
          | true => exact Or.inl rfl
          | false => exact Or.inr ⟨rfl, fun h => h2 ⟨rfl, h⟩⟩
        clear h2
        by_cases h3 : tk s (nx s q) = WRESULT
        · rw [if_pos h3] at HE2
          have e2 := nx_of e1.2 h3 (by decide)
          have D := take_yes R1.out hs WRESULT h3
          -- from which base on the results lie
          obtain ⟨B2, hB2a, hB2b, hB2c, Q1b⟩ : ∃ B2, w.heap.size + 2 ≤ B2 ∧ B2 ≤ w1.heap.size ∧ (∀ g, (Value.slice pa ps.length pc).ownBlock = some g → g < B2) ∧ Hid (RowV B2 w1 (.slice ra rs.length rc) rs) := by
            rcases hor with rfl | ⟨rfl, _⟩
            · exact ⟨B1, hB1, by omega, HL.out, Q1⟩
            · obtain ⟨hn1, hn2⟩ := HRES.out rfl
              refine ⟨w1.heap.size, by omega, Nat.le_refl _, row_lt P1.out, ?_⟩
              rw [hn1, hn2]
              exact RowV.nil _ _
          have HB2c : Hid (∀ g, (Value.slice pa ps.length pc).ownBlock = some g → g < B2) := hB2c
          clear HL hB2c Q1 HRES
          have Q1 : Hid (RowV B2 w1 (.slice ra rs.length rc) rs) := Q1b
          clear Q1b
          have kk : ∀ (K : Hid (res = true ∨ res = false ∧ tk s (nx s q) ≠ WPARAM)), True := fun _ => trivial
          clear kk
          have S0 : res = false → Calls Tryd.prog 38 #[.pointer (some ⟨b, 0, none⟩), .string WPARAM] w1 fun en w' => en = .returned (.bool false) ∧ w' = w1 := fun hf => skip_no R1.out WPARAM (by rcases hor with h | h; rw [h] at hf; cases hf; exact h.2)
          clear hor
          rcases res with _ | _
          · have S1 := S0 rfl
            clear S0
            go_wp2_with fail
            refine S1.mono ?_
            rintro en w1' ⟨rfl, h1'⟩
            obtain rfl := h1'.symm
            clear S1
            go_wp2_with fail
            refine D.mono ?_
            rintro en w2 ⟨rfl, t2, r2⟩
            have T2 : Hid (Turn [b] w w2) := T1.out.trans t2
            have R2 : Hid (RD w2 b s (nx s (nx s q))) := r2
            have M2 : Hid (w2.heap[w.heap.size + 1]? = some (cobj 1 (.slice pa ps.length pc) (.slice ra rs.length rc) NILS)) := t2.other M1.out (by simp; omega)
            have N2 : Hid (w2.heap[w.heap.size]? = some (cobj 0 NILS NILS NILS)) := t2.other N1.out (by simp; omega)
            have P2 : Hid (RowV (w.heap.size + 2) w2 (.slice pa ps.length pc) ps) := P1.out.turn t2 R1.out.noV
            have Q2 : Hid (RowV B2 w2 (.slice ra rs.length rc) rs) := Q1.out.turn t2 R1.out.noV
            have hz2 := t2.size
            clear t2 r2 T1 M1 N1 P1 Q1
            clear D
            have m2 := cell_of M2.out 2
            have z2 := free_of M2.out 2
            simp at m2
            have U := upToV R2.out hs _ rs Q2.out (by omega) (by omega) (by omega) (fun w => Env w) (HE.out.of_turn T2.out hb8) (fun _ _ h t => h.tb t hb8 (by omega)) (fun w1 p1 h1 h2 => val_any h1 hs h2 hb8)
            obtain ⟨r, hr⟩ : ∃ r, r = uptoS s (valS s) rs (nx s (nx s q)) := ⟨_, rfl⟩
            have hadv : ∀ l q', r = .ok (l, q') → nx s (nx s q) < q' ∧ q' ≤ s.size := fun l q' hh => upto_val s rs _ l q' e2.2 (by rw [← hr]; exact hh)
            rw [← hr] at U HE2
            clear hr
            go_wp2_with fail
            refine U.mono ?_
            intro en w3 A3
            clear U
            cases r with
            | error f =>
              obtain ⟨rfl, t3⟩ := A3
              have HE3 : Hid (R = .error f) := HE2
              clear HE2
              go_wp2_with fail
              exact ⟨rfl, by rw [HE3.out]; exact ⟨rfl, (t3.low hB2a).turn T2.out (by omega)⟩⟩
            | ok x =>
              obtain ⟨l, q3⟩ := x
              have hq3 := hadv l q3 rfl
              obtain ⟨v3, rfl, W3, t3, r3, hl3⟩ := A3
              have HE3 : Hid (R = loopS s (funStep s) ⟨true, ps, l⟩ q3) := HE2
              have R3 : Hid (RD w3 b s q3) := r3
              have m3 := t3.other M2.out (by omega) (by omega)
              have n3 := t3.other N2.out (by omega) (by omega)
              have T3 : Hid (Turn [b] w w3) := (t3.low hB2a).turn T2.out (by omega)
              have P3 : Hid (RowV (w.heap.size + 2) w3 (.slice pa ps.length pc) ps) := row_tb P2.out t3 (R2.out.noV b (by simp)) HB2c.out
              have Q3 : Hid (RowV B2 w3 v3 l) := W3
              have hsz3 := t3.size
              obtain ⟨a3, c3, hv3⟩ := row_one W3
              subst hv3
              have mm2 := cell_of m3 2
              have zz2 := free_of m3 2
              simp at mm2
              have M3 : Hid (w3.heap[w.heap.size + 1]? = some (cobj 1 (.slice pa ps.length pc) (.slice ra rs.length rc) NILS)) := m3
              have N3 : Hid (w3.heap[w.heap.size]? = some (cobj 0 NILS NILS NILS)) := n3
              clear HE2 W3 t3 r3 m3 n3 m2 z2 M2 N2 T2 P2 Q2
              go_wp2_with fail
              go_roundw
              case rel =>
                exact ⟨q3, ⟨true, ps, l⟩, .slice pa ps.length pc, .slice a3 l.length c3, B2, rfl, R3.out.set (q := ⟨w.heap.size + 1, 2, none⟩) (by simp; omega) _, cobj_set2 M3.out _, heap_other N3.out (by simp) _, P3.out.set (q := ⟨w.heap.size + 1, 2, none⟩) M3.out _, Q3.out.set (q := ⟨w.heap.size + 1, 2, none⟩) M3.out _, HB2c, (show true = false → _ from fun h => by cases h), hB2a, by simp; omega, by simp only; omega, hl3, T3.out.set (p := ⟨w.heap.size + 1, 2, none⟩) (Or.inr (by simp)) _, HE3⟩
              case measure =>
                rw [MEA.out, atOf_rdr (R3.out.set (q := ⟨w.heap.size + 1, 2, none⟩) (by simp; omega) _).1]
                omega
          · clear S0
            go_wp2_with fail
            refine D.mono ?_
            rintro en w2 ⟨rfl, t2, r2⟩
            have T2 : Hid (Turn [b] w w2) := T1.out.trans t2
            have R2 : Hid (RD w2 b s (nx s (nx s q))) := r2
            have M2 : Hid (w2.heap[w.heap.size + 1]? = some (cobj 1 (.slice pa ps.length pc) (.slice ra rs.length rc) NILS)) := t2.other M1.out (by simp; omega)
            have N2 : Hid (w2.heap[w.heap.size]? = some (cobj 0 NILS NILS NILS)) := t2.other N1.out (by simp; omega)
            have P2 : Hid (RowV (w.heap.size + 2) w2 (.slice pa ps.length pc) ps) := P1.out.turn t2 R1.out.noV
            have Q2 : Hid (RowV B2 w2 (.slice ra rs.length rc) rs) := Q1.out.turn t2 R1.out.noV
            have hz2 := t2.size
            clear t2 r2 T1 M1 N1 P1 Q1
            clear D
            have m2 := cell_of M2.out 2
            have z2 := free_of M2.out 2
            simp at m2
            have U := upToV R2.out hs _ rs Q2.out (by omega) (by omega) (by omega) (fun w => Env w) (HE.out.of_turn T2.out hb8) (fun _ _ h t => h.tb t hb8 (by omega)) (fun w1 p1 h1 h2 => val_any h1 hs h2 hb8)
            obtain ⟨r, hr⟩ : ∃ r, r = uptoS s (valS s) rs (nx s (nx s q)) := ⟨_, rfl⟩
            have hadv : ∀ l q', r = .ok (l, q') → nx s (nx s q) < q' ∧ q' ≤ s.size := fun l q' hh => upto_val s rs _ l q' e2.2 (by rw [← hr]; exact hh)
            rw [← hr] at U HE2
            clear hr
            go_wp2_with fail
            refine U.mono ?_
            intro en w3 A3
            clear U
            cases r with
            | error f =>
              obtain ⟨rfl, t3⟩ := A3
              have HE3 : Hid (R = .error f) := HE2
              clear HE2
              go_wp2_with fail
              exact ⟨rfl, by rw [HE3.out]; exact ⟨rfl, (t3.low hB2a).turn T2.out (by omega)⟩⟩
            | ok x =>
              obtain ⟨l, q3⟩ := x
              have hq3 := hadv l q3 rfl
              obtain ⟨v3, rfl, W3, t3, r3, hl3⟩ := A3
              have HE3 : Hid (R = loopS s (funStep s) ⟨true, ps, l⟩ q3) := HE2
              have R3 : Hid (RD w3 b s q3) := r3
              have m3 := t3.other M2.out (by omega) (by omega)
              have n3 := t3.other N2.out (by omega) (by omega)
              have T3 : Hid (Turn [b] w w3) := (t3.low hB2a).turn T2.out (by omega)
              have P3 : Hid (RowV (w.heap.size + 2) w3 (.slice pa ps.length pc) ps) := row_tb P2.out t3 (R2.out.noV b (by simp)) HB2c.out
              have Q3 : Hid (RowV B2 w3 v3 l) := W3
              have hsz3 := t3.size
              obtain ⟨a3, c3, hv3⟩ := row_one W3
              subst hv3
              have mm2 := cell_of m3 2
              have zz2 := free_of m3 2
              simp at mm2
              have M3 : Hid (w3.heap[w.heap.size + 1]? = some (cobj 1 (.slice pa ps.length pc) (.slice ra rs.length rc) NILS)) := m3
              have N3 : Hid (w3.heap[w.heap.size]? = some (cobj 0 NILS NILS NILS)) := n3
              clear HE2 W3 t3 r3 m3 n3 m2 z2 M2 N2 T2 P2 Q2
              go_wp2_with fail
              go_roundw
              case rel =>
                exact ⟨q3, ⟨true, ps, l⟩, .slice pa ps.length pc, .slice a3 l.length c3, B2, rfl, R3.out.set (q := ⟨w.heap.size + 1, 2, none⟩) (by simp; omega) _, cobj_set2 M3.out _, heap_other N3.out (by simp) _, P3.out.set (q := ⟨w.heap.size + 1, 2, none⟩) M3.out _, Q3.out.set (q := ⟨w.heap.size + 1, 2, none⟩) M3.out _, HB2c, (show true = false → _ from fun h => by cases h), hB2a, by simp; omega, by simp only; omega, hl3, T3.out.set (p := ⟨w.heap.size + 1, 2, none⟩) (Or.inr (by simp)) _, HE3⟩
              case measure =>
                rw [MEA.out, atOf_rdr (R3.out.set (q := ⟨w.heap.size + 1, 2, none⟩) (by simp; omega) _).1]
                omega
        · rw [if_neg h3] at HE2
          have HE3 : Hid (R = .error (nx s q)) := HE2
          have D := take_no R1.out WRESULT h3
          clear HE2
          rcases hor with rfl | ⟨rfl, hp⟩
          · go_wp2_with fail
            refine D.mono ?_
            rintro en w2 ⟨rfl, h2'⟩
            obtain rfl := h2'.symm
            go_wp2_with fail
            exact ⟨rfl, by rw [HE3.out]; exact ⟨rfl, T1.out⟩⟩
          · have S1 := skip_no R1.out WPARAM hp
            go_wp2_with fail
            refine S1.mono ?_
            rintro en w1' ⟨rfl, h1'⟩
            obtain rfl := h1'.symm
            clear S1
            go_wp2_with fail
            refine D.mono ?_
            rintro en w2 ⟨rfl, h2'⟩
            obtain rfl := h2'.symm
            go_wp2_with fail
            exact ⟨rfl, by rw [HE3.out]; exact ⟨rfl, T1.out⟩⟩
    · have C := skip_no R0.out LP h1
      have hst : funStep s ⟨res, ps, rs⟩ q = if tk s q = RP then .ok (.inr (⟨1, ps, rs, []⟩, nx s q)) else .error q := by unfold funStep; rw [if_neg h1]
      rw [hst] at HE2
      clear HE1 hst
      go_wp2_with fail
      refine C.mono ?_
      rintro en w1 ⟨rfl, h1'⟩
      obtain rfl := h1'.symm
      clear C
      by_cases h3 : tk s q = RP
      · rw [if_pos h3] at HE2
        have HE3 : Hid (R = .ok (⟨1, ps, rs, []⟩, nx s q)) := HE2
        have D := take_yes R0.out hs RP h3
        clear HE2
        go_wp2_with fail
        refine D.mono ?_
        rintro en w1 ⟨rfl, t1, r1⟩
        have T1 : Hid (Turn [b] w w1) := T0.out.trans t1
        have R1 : Hid (RD w1 b s (nx s q)) := r1
        have M1 : Hid (w1.heap[w.heap.size + 1]? = some (cobj 1 (.slice pa ps.length pc) (.slice ra rs.length rc) NILS)) := t1.other M0.out (by simp; omega)
        have N1 : Hid (w1.heap[w.heap.size]? = some (cobj 0 NILS NILS NILS)) := t1.other N0.out (by simp; omega)
        have P1 : Hid (RowV (w.heap.size + 2) w1 (.slice pa ps.length pc) ps) := P0.out.turn t1 R0.out.noV
        have Q1 : Hid (RowV B1 w1 (.slice ra rs.length rc) rs) := Q0.out.turn t1 R0.out.noV
        have hz1 := t1.size
        clear t1 r1 T0 M0 N0 P0 Q0
        have mm0 := cell_of M1.out 0
        have mm1 := cell_of M1.out 1
        have mm2 := cell_of M1.out 2
        have mm3 := cell_of M1.out 3
        have c0 := cell_of N1.out 0
        have c1 := cell_of N1.out 1
        have c2 := cell_of N1.out 2
        have c3 := cell_of N1.out 3
        have z0 := free_of N1.out 0
        have z1 := free_of N1.out 1
        have z2 := free_of N1.out 2
        have z3 := free_of N1.out 3
        simp [NILS] at mm0 mm1 mm2 mm3 c0 c1 c2 c3
        clear D
        go_wp2_with fail
        refine bodyPost_ret (v := .agg #[.int .i64 1, .slice pa ps.length pc, .slice ra rs.length rc, .slice none 0 0]) (by simp [results, Tryd.results80, go_sem, c0, c1, c2, c3]) rfl ?_
        rw [HE3.out]
        exact ⟨_, rfl, comp_end (c := ⟨1, ps, rs, []⟩) N1.out (Nat.le_refl _) (B := w.heap.size + 2) (by omega) P1.out (row_low Q1.out hB1) (RowF.nil _ _) T1.out R1.out⟩
      · rw [if_neg h3] at HE2
        have HE3 : Hid (R = .error q) := HE2
        have D := take_no R0.out RP h3
        clear HE2
        go_wp2_with fail
        refine D.mono ?_
        rintro en w2 ⟨rfl, h2'⟩
        obtain rfl := h2'.symm
        go_wp2_with fail
        exact ⟨rfl, by rw [HE3.out]; exact ⟨rfl, T0.out⟩⟩
end Go.Proofs.YtmcljnohdknpoaaDoor
