/-
  The walks of upToEnd at types and of the reader's rec; no statement is proved here.
-/
import Derived.Test.YtmcljnohdknpoaaDoorRecW
namespace Go.Proofs.YtmcljnohdknpoaaDoor
open Go.RowKit
set_option linter.unusedVariables false
set_option linter.unusedSimpArgs false
set_option linter.constructorNameAsVariable false

theorem infoS : (Tryd.prog.info? 62).map (fun i => (i.zero, i.size, i.bytes)) = some (some (.agg #[.bool false, .slice none 0 0, .int .i64 0, .slice none 0 0, .slice none 0 0, .slice none 0 0]), 6, 112) := by kernel_rfl
def UpAS (b B : Nat) (s : ByteArray) (w : World) (r : Except Nat (List SB × Nat)) (en : Ending) (w' : World) : Prop := match r with
  | .ok (l, q) => ∃ v, en = .returned v ∧ SubsQ B w' v l ∧ TB b B w w' ∧ RD w' b s q ∧ l.length ≤ q
  | .error f => en = .panicked (flt f) ∧ TB b B w w'
set_option maxRecDepth 100000 in
set_option maxHeartbeats 1000000 in
theorem upToS {w : World} {b B bx : Nat} {s : ByteArray} {p : Nat} (h : RD w b s p) (hs : s.size ≤ 65536) (v : Value) (l : List SB) (hrow : SubsQ B w v l) (hB : B ≤ w.heap.size) (hbB : b < B) (hl : l.length ≤ p)
    (he : Env w) (hb8 : 8 ≤ b) (hx : w.heap[bx]? = some (bxo b)) (hbx : bx < B) :
    Calls Tryd.prog 49 #[.pointer (some ⟨b, 0, none⟩), v, .func (.func 50) #[] #[.pointer (some ⟨bx, 0, none⟩)]] w (UpAS b B s w (uptoS s (memS s) l p)) := by
  obtain ⟨R, hR⟩ : ∃ R, R = uptoS s (memS s) l p := ⟨_, rfl⟩
  rw [← hR]
  have HR : Hid (R = uptoS s (memS s) l p) := hR
  have H0 : Hid (RD w b s p) := h
  have W0 : Hid (SubsQ B w v l) := hrow
  have I0 : Hid (Env w) := he
  have X0 : Hid (w.heap[bx]? = some (bxo b)) := hx
  have hne : bx ≠ b := by
    rintro rfl
    rw [h.1] at hx
    injection hx with hx
    injection hx with _ h2 _
    exact absurd h2 (by decide)
  clear h hR hrow he hx
  go_enter Tryd.func49, Tryd.ntmps49
  go_wp2
  go_loopw [1] (fun v_ w' => ∃ (q : Nat) (m : List SB), Hid (SubsQ B w' v_ m) ∧ m.length ≤ q ∧ B ≤ w'.heap.size ∧ Hid (RD w' b s q) ∧ Hid (Env w') ∧ Hid (w'.heap[bx]? = some (bxo b)) ∧ Hid (TB b B w w') ∧ Hid (R = uptoS s (memS s) m q)) (fun _ w' => s.size - atOf w' b)
  case atStart => exact ⟨p, l, W0, hl, hB, H0, I0, X0, TB.refl _ _ _, HR⟩
  case round =>
    obtain ⟨q, m, WR, hm, hBr, HQ, HI, HX, HT, HE⟩ := hrel
    have hqs : q ≤ s.size := HQ.out.2.1
    have HE2 := HE.out
    unfold uptoS at HE2
    rw [loopS_eq (up_adv (mem_adv s)) m q hqs] at HE2
    by_cases hx : tk s q = RP
    · have hst : upStep s (memS s) m q = .ok (.inr (m, nx s q)) := by unfold upStep; rw [if_pos hx]
      rw [hst] at HE2
      have HE3 : Hid (R = .ok (m, nx s q)) := HE2
      have hnx := nx_of hqs hx (by decide)
      have C := skip_yes HQ.out hs RP hx
      obtain ⟨aa, cc, hv⟩ := WR.out.one
      subst hv
      clear HE HE2 hst
      go_wp2_with fail
      refine C.mono ?_
      rintro en w1 ⟨rfl, t1, r1⟩
      have T1 : Hid (TB b B w w1) := HT.out.trans (TB.of_turn t1 (by simp))
      have R1 : Hid (RD w1 b s (nx s q)) := r1
      have W1 : Hid (SubsQ B w1 (.slice aa m.length cc) m) := WR.out.rd t1 HQ.out
      clear C t1 r1
      go_wp2_with fail
      go_ret
      rw [HE3.out]
      exact ⟨_, rfl, W1.out, T1.out, R1.out, by omega⟩
    · have C := skip_no HQ.out RP hx
      have D := mem_any HQ.out hs HI.out hb8 HX.out
      obtain ⟨aa, cc, hv⟩ := WR.out.one
      subst hv
      cases hr : memS s q with
      | error f =>
        have hst : upStep s (memS s) m q = .error f := by unfold upStep; rw [if_neg hx, hr]
        rw [hst] at HE2
        have HE3 : Hid (R = .error f) := HE2
        rw [hr] at D
        clear HE HE2 hst hr
        go_wp2_with fail
        refine C.mono ?_
        rintro en w1 ⟨rfl, h1⟩
        obtain rfl := h1.symm
        clear C
        go_wp2_with fail
        refine D.mono ?_
        rintro en w2 ⟨rfl, t2⟩
        have T2 : Hid (TB b B w w2) := HT.out.trans (TB.of_turn t2 (by simp))
        clear D t2
        go_wp2_with fail
        exact ⟨rfl, by rw [HE3.out]; exact ⟨rfl, T2.out⟩⟩
      | ok x =>
        obtain ⟨a, q1⟩ := x
        have hst : upStep s (memS s) m q = .ok (.inl (m ++ [a], q1)) := by unfold upStep; rw [if_neg hx, hr]
        rw [hst] at HE2
        have HE3 : Hid (R = uptoS s (memS s) (m ++ [a]) q1) := HE2
        have hq1 := mem_adv s q a q1 hqs hr
        rw [hr] at D
        clear HE HE2 hst hr
        go_wp2_with fail
        refine C.mono ?_
        rintro en w1 ⟨rfl, h1⟩
        obtain rfl := h1.symm
        clear C
        go_wp2_with fail
        refine D.mono ?_
        rintro en w2 ⟨cs2, rfl, c2, t2, r2⟩
        have T2 : Hid (TB b B w w2) := HT.out.trans (TB.of_turn t2 (by simp))
        have I2 : Hid (Env w2) := HI.out.of_turn t2 hb8
        have X2 : Hid (w2.heap[bx]? = some (bxo b)) := t2.other HX.out (by simp; omega)
        have R2 : Hid (RD w2 b s q1) := r2
        have W2 : Hid (SubsQ B w2 (.slice aa m.length cc) m) := WR.out.rd t2 HQ.out
        have C2 : Hid (SubC B w2 cs2 a) := c2.low hBr
        have hB2 : B ≤ w2.heap.size := Nat.le_trans hBr t2.size
        obtain ⟨sv, pv, rv, fv, hcs, z1, z2, z3, z4⟩ := c2
        have o1 := row_cell z1
        have o2 := row_cell z2
        have o3 := row_cell z3
        have o4 := row_cell z4
        obtain ⟨sa, sc, hsv⟩ := row_one z1
        obtain ⟨pa, pc, hpv⟩ := row_one z2
        obtain ⟨ra, rc, hrv⟩ := row_one z3
        obtain ⟨fa, fc, hfv⟩ := row_one z4
        subst hsv
        subst hpv
        subst hrv
        subst hfv
        subst hcs
        obtain ⟨ds, d1, d2⟩ := W2.out
        have D1 : Hid (w2.ownsRow B 62 6 (.slice aa m.length cc) m.length ds) := d1
        have D2 : Hid (∀ i x, m[i]? = some x → SubC B w2 ((ds.drop (i * 6)).take 6) x) := d2
        clear D t2 r2 WR HI HT HX z1 z2 z3 z4 d1 d2
        go_wp2_with (at_builtin; refine wp_app1 (v := .slice aa m.length cc) (n := m.length) (cs := ds) (B := B) rfl _ _ 31 62 6 112 _ Tryd.underlying31 infoS rfl (by decide) (by decide) rfl b rfl rfl D1.out hB2 rfl (by intro u hu; simp at hu; rcases hu with rfl | rfl | rfl | rfl | rfl | rfl <;> first | rfl | assumption) (by omega) ?_; intro v3 w3 hO3 hT3 hG3)
        have R3 : Hid (RD w3 b s q1) := ⟨(hG3 b (lt_of_obj R2.out.1) (fun hh => by have := (World.ownsRow.lt D1.out b hh.symm).1; omega)).trans R2.out.1, R2.out.2⟩
        go_roundw
        case rel =>
          exact ⟨q1, m ++ [a], SubsQ.snoc D1.out D2.out C2.out rfl hO3 hG3, by simp; omega, Nat.le_trans hB2 hT3.size, R3, I2.out.tb hT3 hb8 (by omega), hT3.other X2.out hne hbx, T2.out.trans hT3, HE3⟩
        case measure =>
          rw [atOf_rdr HQ.out.1, atOf_rdr R3.out.1]
          omega
/- The value is the group. -/
def RecQ (B : Nat) (w : World) (v : Value) (r : RT) : Prop := ∃ tv, v = .agg #[tv, .bool r.explicit] ∧ SubsQ B w tv r.types
def AnsG (b : Nat) (s : ByteArray) (w : World) (r : Except Nat (RT × Nat)) (en : Ending) (w' : World) : Prop := match r with
  | .ok (x, q) => ∃ v, en = .returned v ∧ RecQ w.heap.size w' v x ∧ Turn [b] w w' ∧ RD w' b s q
  | .error f => en = .panicked (flt f) ∧ Turn [b] w w'
def robj (v : Value) (e : Bool) : Obj := .cells #[v, .bool e] 33 (0, 0)
theorem rec_end {w0 w : World} {b : Nat} {s : ByteArray} {q N B : Nat} {x : RT} {tv tv' : Value} {e' : Bool} (hN : w.heap[N]? = some (robj tv' e')) (h0 : w0.heap.size ≤ N) (hB : w0.heap.size ≤ B) (hp : SubsQ B w tv x.types) (t : Turn [b] w0 w) (hR : RD w b s q) (hb : b ≠ N) :
    RecQ w0.heap.size ((w.setCell ⟨N, 0, none⟩ tv).setCell ⟨N, 1, none⟩ (.bool x.explicit)) (.agg #[tv, .bool x.explicit]) x ∧ Turn [b] w0 ((w.setCell ⟨N, 0, none⟩ tv).setCell ⟨N, 1, none⟩ (.bool x.explicit)) ∧ RD ((w.setCell ⟨N, 0, none⟩ tv).setCell ⟨N, 1, none⟩ (.bool x.explicit)) b s q := by
  have n1 : (w.setCell ⟨N, 0, none⟩ tv).heap[N]? = some (robj tv e') := by rw [heap_set hN]; rfl
  refine ⟨⟨tv, rfl, (((hp.set (q := ⟨N, 0, none⟩) hN (by decide) (by decide) (by decide) (by decide) _).set (q := ⟨N, 1, none⟩) n1 (by decide) (by decide) (by decide) (by decide) _).low hB)⟩, (t.set (p := ⟨N, 0, none⟩) (Or.inr h0) _).set (p := ⟨N, 1, none⟩) (Or.inr h0) _, (hR.set (q := ⟨N, 0, none⟩) hb _).set (q := ⟨N, 1, none⟩) hb _⟩
theorem subs_one {B : Nat} {w : World} {cs : List Value} {x : SB} (h : SubC B w cs x) (hn : cs.length = 6) (hB : B ≤ w.heap.size) : SubsQ B (w.alloc (.cells cs.toArray 62)) (.slice (some ⟨w.heap.size, 0, none⟩) 1 1) [x] := by
  refine ⟨cs, ⟨by simp [hn], Or.inr ⟨w.heap.size, 1, cs.toArray, rfl, hB, heap_alloc_last _ _, Nat.le_refl _, by decide, by simp [hn], by simp [← hn]⟩⟩, fun i y hy => ?_⟩
  rcases i with _ | i
  · simp only [List.getElem?_cons_zero, Option.some.injEq] at hy
    subst hy
    rw [Nat.zero_mul, List.drop_zero, List.take_of_length_le (by omega)]
    exact h.grew ((Grew.refl w).alloc _)
  · simp at hy
set_option maxRecDepth 100000 in
set_option maxHeartbeats 2000000 in
theorem rec_any {w : World} {b : Nat} {s : ByteArray} {p : Nat} (h : RD w b s p) (hs : s.size ≤ 65536) (he : Env w) (hb8 : 8 ≤ b) :
    Calls Tryd.prog 27 #[.pointer (some ⟨b, 0, none⟩)] w (AnsG b s w (recS s p)) := by
  have hb : b < w.heap.size := lt_of_obj h.1
  have HE : Hid (Env w) := he
  have hps := h.2.1
  have hmf : ∀ (fn : Fn) (first cap : Array Value) (w : World), (Instr.makeFunc fn first cap).run Tryd.prog w = .ok (.func fn first cap) w := fun _ _ _ _ => rfl
  obtain ⟨R, hR⟩ : ∃ R, R = recS s p := ⟨_, rfl⟩
  rw [← hR]
  have HR : Hid (R = recS s p) := hR
  have H0 : Hid (RD w b s p) := h
  clear hR h he
  go_enter Tryd.func27, Tryd.ntmps27
  go_wp2_with fail
  generalize hW : ((w.alloc (.cells #[.pointer (some ⟨b, 0, none⟩)] 47)).alloc (.cells #[.slice none 0 0, .bool false] 33)) = W
  have hWs : W.heap.size = w.heap.size + 2 := by rw [← hW]; simp
  have g0 : Grew w W := by rw [← hW]; exact ((Grew.refl w).alloc _).alloc _
  have T0 : Hid (Turn [b] w W) := g0.turn _
  have X0 : Hid (W.heap[w.heap.size]? = some (bxo b)) := by rw [← hW]; exact heap_alloc (heap_alloc_last _ _) _
  have N0 : Hid (W.heap[w.heap.size + 1]? = some (robj NILS false)) := by
    have h1 : (w.alloc (.cells #[.pointer (some ⟨b, 0, none⟩)] 47)).heap.size = w.heap.size + 1 := by simp
    rw [← hW, ← h1]
    exact heap_alloc_last _ _
  have R0 : Hid (RD W b s p) := H0.out.grew g0
  clear hW H0 g0
  by_cases h1 : tk s p = LP
  · have e1 := nx_of hps h1 (by decide)
    refine (take_yes R0.out hs LP h1).mono ?_
    rintro en w1 ⟨rfl, t1, r1⟩
    have T1 : Hid (Turn [b] w w1) := T0.out.trans t1
    have x1 := t1.other X0.out (by simp; omega)
    have X1 : Hid (w1.heap[w.heap.size]? = some (bxo b)) := x1
    have N1 : Hid (w1.heap[w.heap.size + 1]? = some (robj NILS false)) := t1.other N0.out (by simp; omega)
    have R1 : Hid (RD w1 b s (nx s p)) := r1
    have xc := cell_of x1 0
    simp [bxo] at xc
    have hz1 := t1.size
    clear t1 r1 x1 T0 X0 N0 R0
    by_cases h2 : tk s (nx s p) = WREC
    · have HS : Hid (R = mapS (fun l => (⟨l, true⟩ : RT)) (uptoS s (memS s) [] (nx s (nx s p)))) := by rw [HR.out]; unfold recS; rw [if_pos h1, if_pos h2]; exact rfl
      have D := skip_yes R1.out hs WREC h2
      have e2 := nx_of e1.2 h2 (by decide)
      clear HR h1 h2
      go_wp2_with fail
      refine D.mono ?_
      rintro en w2 ⟨rfl, t2, r2⟩
      have T2 : Hid (Turn [b] w w2) := T1.out.trans t2
      have x2 := t2.other X1.out (by simp; omega)
      have X2 : Hid (w2.heap[w.heap.size]? = some (bxo b)) := x2
      have N2 : Hid (w2.heap[w.heap.size + 1]? = some (robj NILS false)) := t2.other N1.out (by simp; omega)
      have R2 : Hid (RD w2 b s (nx s (nx s p))) := r2
      have xc2 := cell_of x2 0
      simp [bxo] at xc2
      have hz2 := t2.size
      clear D t2 r2 x2 T1 X1 N1 R1 xc
      have U := upToS (B := w2.heap.size) R2.out hs (.slice none 0 0) [] (SubsQ.nil _ _) (Nat.le_refl _) (by omega) (Nat.zero_le _) (HE.out.of_turn T2.out hb8) hb8 X2.out (by omega)
      obtain ⟨r, hr⟩ : ∃ r, r = uptoS s (memS s) [] (nx s (nx s p)) := ⟨_, rfl⟩
      rw [← hr] at U HS
      clear hr
      go_wp2_with fail
      refine U.mono ?_
      intro en w3 A3
      clear U
      cases r with
      | error f =>
        obtain ⟨rfl, t3⟩ := A3
        have HS' : Hid (R = .error f) := HS.out
        clear HS
        go_wp2_with fail
        exact ⟨rfl, by rw [HS'.out]; exact ⟨rfl, t3.turn T2.out (by omega)⟩⟩
      | ok x =>
        obtain ⟨l, q⟩ := x
        obtain ⟨v3, rfl, W3, t3, r3, hl3⟩ := A3
        have HS' : Hid (R = .ok ((⟨l, true⟩ : RT), q)) := HS.out
        have T3 : Hid (Turn [b] w w3) := t3.turn T2.out (by omega)
        have R3 : Hid (RD w3 b s q) := r3
        have n3 := t3.other N2.out (by omega) (by omega)
        have N3 : Hid (w3.heap[w.heap.size + 1]? = some (robj NILS false)) := n3
        obtain ⟨a3, c3, hv3⟩ := W3.one
        subst hv3
        have Q3 : Hid (SubsQ w2.heap.size w3 (.slice a3 l.length c3) l) := W3
        have c0 := cell_of n3 0
        have c1 := cell_of n3 1
        have z0 := free_of n3 0
        have z1 := free_of n3 1
        simp [NILS] at c0 c1
        clear HS t3 r3 n3 W3
        go_wp2_with fail
        refine bodyPost_ret (v := .agg #[.slice a3 l.length c3, .bool true]) (by simp [results, Tryd.results27, go_sem, c0, c1]) rfl ?_
        rw [HS'.out]
        exact ⟨_, rfl, rec_end (x := ⟨l, true⟩) N3.out (by omega) (B := w2.heap.size) (by omega) Q3.out T3.out R3.out (by omega)⟩
    · have HS : Hid (R = mapS (fun x => (⟨[x], false⟩ : RT)) (subS s (nx s p))) := by rw [HR.out]; unfold recS; rw [if_pos h1, if_neg h2]; exact rfl
      have D := skip_no R1.out WREC h2
      have V := sub_any R1.out hs (HE.out.of_turn T1.out hb8) hb8
      clear HR h1 h2
      obtain ⟨r, hr⟩ : ∃ r, r = subS s (nx s p) := ⟨_, rfl⟩
      rw [← hr] at V HS
      clear hr
      go_wp2_with fail
      refine D.mono ?_
      rintro en w2 ⟨rfl, h2'⟩
      obtain rfl := h2'.symm
      clear D
      go_wp2_with fail
      refine V.mono ?_
      intro en w3 A3
      clear V
      cases r with
      | error f =>
        obtain ⟨rfl, t3⟩ := A3
        have HS' : Hid (R = .error f) := HS.out
        clear HS
        go_wp2_with fail
        exact ⟨rfl, by rw [HS'.out]; exact ⟨rfl, T1.out.trans t3⟩⟩
      | ok x =>
        obtain ⟨y, q⟩ := x
        obtain ⟨cs, rfl, CS, t3, r3⟩ := A3
        have HS' : Hid (R = .ok ((⟨[y], false⟩ : RT), q)) := HS.out
        have T3 : Hid (Turn [b] w w3) := T1.out.trans t3
        have R3 : Hid (RD w3 b s q) := r3
        have N3 : Hid (w3.heap[w.heap.size + 1]? = some (robj NILS false)) := t3.other N1.out (by simp; omega)
        have C3 : Hid (SubC w.heap.size w3 cs y) := CS.low (by omega)
        have hz3 := t3.size
        obtain ⟨sv, pv, rv, fv, hcs, z1, z2, z3, z4⟩ := CS
        obtain ⟨sa, sc, hsv⟩ := row_one z1
        obtain ⟨pa, pc, hpv⟩ := row_one z2
        obtain ⟨ra, rc, hrv⟩ := row_one z3
        obtain ⟨fa, fc, hfv⟩ := row_one z4
        subst hsv
        subst hpv
        subst hrv
        subst hfv
        subst hcs
        have n4 := heap_alloc N3.out (.cells #[.bool y.final_, .slice sa y.supers.length sc, .int .i64 y.comp.kind, .slice pa y.comp.params.length pc, .slice ra y.comp.results.length rc, .slice fa y.comp.fields.length fc] 62)
        have N4 : Hid _ := n4
        have Q4 : Hid _ := subs_one C3.out rfl (by omega)
        have c0 := cell_of n4 0
        have c1 := cell_of n4 1
        have f0 := free_of n4 0
        have f1 := free_of n4 1
        simp [NILS] at c0 c1
        clear HS t3 r3 z1 z2 z3 z4 n4
        go_wp2_with fail
        refine bodyPost_ret (v := .agg #[.slice (some ⟨w3.heap.size, 0, none⟩) 1 1, .bool false]) (by simp [results, Tryd.results27, go_sem, c0, c1]) rfl ?_
        rw [HS'.out]
        exact ⟨_, rfl, rec_end (x := ⟨[y], false⟩) N4.out (by omega) (B := w.heap.size) (by omega) Q4.out (T3.out.alloc _) (R3.out.grew ((Grew.refl _).alloc _)) (by omega)⟩
  · have HS : Hid (R = .error p) := by rw [HR.out]; unfold recS; rw [if_neg h1]; exact rfl
    refine (take_no R0.out LP h1).mono ?_
    rintro en w1 ⟨rfl, h1'⟩
    obtain rfl := h1'.symm
    go_wp2_with fail
    exact ⟨rfl, by rw [HS.out]; exact ⟨rfl, T0.out⟩⟩
end Go.Proofs.YtmcljnohdknpoaaDoor
