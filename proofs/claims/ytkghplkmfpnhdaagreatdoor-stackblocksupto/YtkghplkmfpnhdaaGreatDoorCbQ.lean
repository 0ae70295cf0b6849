/-
  Pushes and Operands; no statement is proved here.
-/
import Derived.Test.YtkghplkmfpnhdaaGreatDoorCbP
import Derived.Test.YtkghplkmfpnhdaaGreatDoorCaC
namespace Go.Proofs.YtkghplkmfpnhdaaGreatDoor
open Go.RowKit
set_option linter.unusedVariables false
set_option linter.unusedSimpArgs false

theorem row_high {w : World} {B N : Nat} {e : TypeId} {k : Nat} {v : Value} {n : Nat} {cs : List Value} (h : w.ownsRow B e k v n cs) (h' : w.ownsRow N e k v n cs) : w.ownsRow (max B N) e k v n cs := by
  obtain ⟨h1, h2 | ⟨g, cap, cur, hv, hB, hg, h3⟩⟩ := h
  · exact ⟨h1, Or.inl h2⟩
  · obtain ⟨_, ⟨h2, _⟩ | ⟨g', cap', cur', hv', hB', _, _⟩⟩ := h'
    · rw [hv] at h2; cases h2
    · rw [hv] at hv'
      injection hv' with e1 _ _
      injection e1 with e1
      injection e1 with e1 _ _
      subst e1
      exact ⟨h1, Or.inr ⟨g, cap, cur, hv, by omega, hg, h3⟩⟩
/- A push keeps the operands' row above any bound that it lay above. -/
set_option maxRecDepth 100000 in
theorem pushVN_any {B N : Nat} {w : World} {C : Nat} {lv fv ov qv : Value} {lo : List LO} {fr : List Int} {ops : List VT} {fs : List FV} (h : CK B w C lv fv ov qv lo fr ops fs) (hN : RowV N w ov ops) (hNw : N ≤ w.heap.size) {u : Value} {l : List VT} (hr : Raw 3 w u l.length (l.flatMap VT.c)) (hn : ops.length + l.length ≤ 8388608) :
    Calls Tryz.prog 40 #[.pointer (some ⟨C, 5, none⟩), u] w fun en w' => ∃ v', en = .returned (.tuple #[]) ∧ CK B w' C lv fv v' qv lo fr (ops ++ l) fs ∧ KB B w w' ∧ Two C ov w w' ∧ RowV N w' v' (ops ++ l) := by
  have c6 := h.c5
  have hCl := h.lt
  have H : Hid (CK B w C lv fv ov qv lo fr ops fs) := h
  have HM := Hid.mk' (row_high h.rops hN)
  have HR : Hid (Raw 3 w u l.length (l.flatMap VT.c)) := hr
  obtain ⟨a, cap, hu, _, _⟩ := hr.one
  subst hu
  obtain ⟨qa, qc, hq⟩ := row_one h.rops
  subst hq
  have hBC : B ≤ C := h.base
  have hBl : max B N ≤ w.heap.size := by have := h.base; omega
  have hb1 : B ≤ max B N := by omega
  have hb2 : N ≤ max B N := by omega
  clear h hr hN
  go_enter Tryz.func40, Tryz.ntmps40
  go_wp2_with (at_builtin; refine wp_appR (v := .slice qa ops.length qc) (n := ops.length) (cs := ops.flatMap VT.c) (B := max B N) rfl _ _ 23 44 3 24 _ Tryz.underlying23 infoV rfl (by decide) (by decide) rfl rfl rfl HM.out HR.out hBl hn ?_; intro v2 w2 hO2 hK2 hG2; obtain ⟨va, vc, hv2⟩ := row_one hO2; subst hv2; rw [← List.flatMap_append, ← List.length_append] at hO2; obtain ⟨n6, z6, K6⟩ := H.out.pushV hG2 (row_low hO2 hb1); have HO := Hid.mk' (row_low hO2 hb2); obtain ⟨gv, rv, _, _, co⟩ := H.out.obj; have HNo := Hid.mk' (NoT.of (obj_keep co hG2 (row_no H.out.rops (by decide))) (by decide) : NoT w2 C 44); have H2 := Hid.mk' K6; have HK := Hid.mk' hK2; have HG := Hid.mk' hG2; clear hO2 hK2 hG2 K6 co)
  go_end0
  have H2o := H2.out
  have HOo := HO.out
  rw [List.length_append] at H2o HOo
  refine ⟨_, rfl, H2o, KB.set (B := B) (w := w) (w' := w2) ⟨HK.out.1.mono hb1, HK.out.2⟩ (p := ⟨C, 5, none⟩) hBC _, Keep.two HG.out C 5 _, ?_⟩
  unfold RowV
  rw [List.length_append]
  exact row_set HOo HNo.out _
set_option maxRecDepth 100000 in
set_option maxHeartbeats 1000000 in
theorem pushMN {B N : Nat} {w : World} {C : Nat} {lv fv ov qv : Value} {lo : List LO} {fr : List Int} {ops : List VT} {fs : List FV} (h : CK B w C lv fv ov qv lo fr ops fs) (hf : 0 < fs.length) (hn : ops.length ≤ 1048576) (tn th : Int) (tz : Bool) (hN : RowV N w ov ops) (hNw : N ≤ w.heap.size) :
    Calls Tryz.prog 25 #[.pointer (some ⟨C, 0, none⟩), .agg #[.int .i64 tn, .bool tz, .int .i64 th]] w fun en w' => ∃ ov', en = .returned (.int .i64 0) ∧ CK B w' C lv fv ov' qv lo fr (ops ++ [⟨tn, tz, th⟩]) fs ∧ KB B w w' ∧ Two C ov w w' ∧ RowV N w' ov' (ops ++ [⟨tn, tz, th⟩]) := by
  have HN := Hid.mk' hN
  clear hN
  have C1 : Hid (∀ W, Grew w W → Calls Tryz.prog 31 #[.pointer (some ⟨C, 0, none⟩)] W fun en w' => en = .returned (.int .i64 0) ∧ w' = W) := fun W gg => openM (h.grew gg) hf
  have H := Hid.mk' h
  have hCl := h.lt
  have hBC := h.base
  clear h
  go_enter Tryz.func25, Tryz.ntmps25
  go_wp2_with fail
  refine (C1.out _ ((Grew.refl w).alloc _)).mono ?_
  rintro en wX ⟨rfl, hwX⟩
  obtain rfl := hwX.symm
  clear hwX C1
  obtain ⟨w1, hw1⟩ : ∃ w1, w1 = w.alloc (.cells #[.int .i64 tn, .bool tz, .int .i64 th] 44) := ⟨_, rfl⟩
  have g1 : Grew w w1 := by rw [hw1]; exact (Grew.refl w).alloc _
  have N1 : w1.heap[w.heap.size]? = some (.cells #[.int .i64 tn, .bool tz, .int .i64 th] 44 (0, 0)) := by rw [hw1]; exact heap_alloc_last _ _
  rw [← hw1]
  have H1 := Hid.mk' (H.out.grew g1)
  have G1 := Hid.mk' g1
  have e0 := cell_of N1 0
  have e1 := cell_of N1 1
  have e2 := cell_of N1 2
  simp at e0 e1 e2
  have hl1 := lt_of_obj N1
  clear hw1 g1 N1
  go_wp2_with fail
  have CV : Hid (Calls Tryz.prog 40 #[.pointer (some ⟨C, 5, none⟩), .slice (some ⟨w1.heap.size, 0, none⟩) 1 1] (w1.alloc (.cells #[.int .i64 tn, .bool tz, .int .i64 th] 44)).drew fun en w' => ∃ ov', en = .returned (.tuple #[]) ∧ CK B w' C lv fv ov' qv lo fr (ops ++ [⟨tn, tz, th⟩]) fs ∧ KB B w w' ∧ Two C ov w w' ∧ RowV N w' ov' (ops ++ [⟨tn, tz, th⟩])) := by
    have gx : Grew w (w1.alloc (.cells #[.int .i64 tn, .bool tz, .int .i64 th] 44)).drew := (G1.out.alloc _).drew
    refine (pushVN_any (H1.out.grew ((Grew.refl w1).alloc _).drew) (HN.out.grew gx) (Nat.le_trans hNw gx.2) ((raw_val tn th tz).grew ((Grew.refl _).drew)) (by simp; omega)).mono ?_
    rintro en w' ⟨v', h1, h2, h3, h4, h5⟩
    exact ⟨v', h1, h2, (gx.kb (by omega)).trans h3, fun y hy hC hq => (h4 y (Nat.lt_of_lt_of_le hy gx.2) hC hq).trans (gx.1.block y hy), h5⟩
  go_region_with (refine CV.out.mono ?_
                  rintro en w2 ⟨ov2, rfl, K2, B2, T2, R2⟩
                  have H2 := Hid.mk' K2
                  have HB2 := Hid.mk' B2
                  have HT2 := Hid.mk' T2
                  have HR2 := Hid.mk' R2
                  clear K2 B2 T2 R2)
  all_goals
    go_wp2_with fail
    go_ret
    exact ⟨_, rfl, H2.out, HB2.out, HT2.out, HR2.out⟩
theorem LV.two {w w' : World} {v : Value} {l : List VT} {C : Nat} {q : Value} {Bl : Nat} (h : RowV Bl w v l) (t : Two C q w w') (hC : NoT w C 44) (hq : ∀ g, q.ownBlock = some g → v.ownBlock ≠ some g) : RowV Bl w' v l := by
  obtain ⟨h1, h2 | ⟨g, cap, cur, hv, hB, hg, h3⟩⟩ := h
  · exact ⟨h1, Or.inl h2⟩
  · exact ⟨h1, Or.inr ⟨g, cap, cur, hv, hB, (t g (lt_of_obj hg) (fun hx => hC _ _ (by rw [← hx]; exact hg)) (fun hx => hq g hx.symm (by rw [hv]; rfl))).trans hg, h3⟩⟩
set_option maxRecDepth 100000 in
set_option maxHeartbeats 2000000 in
theorem pushesM {B Bl : Nat} {w : World} {C : Nat} {lv fv qv : Value} {lo : List LO} {fr : List Int} {fs : List FV} (h : CK B w C lv fv NILS qv lo fr [] fs) (hf : 0 < fs.length) {v : Value} {l : List VT} (hl : RowV Bl w v l) (hn : l.length ≤ 1048576) :
    Calls Tryz.prog 16 #[.pointer (some ⟨C, 0, none⟩), v] w fun en w' => ∃ ov', en = .returned (.int .i64 0) ∧ CK B w' C lv fv ov' qv lo fr l fs ∧ KB B w w' := by
  have C1 := zeroM h
  obtain ⟨a, cap, hv⟩ := row_one hl
  subst hv
  have H := Hid.mk' h
  have HL := Hid.mk' hl
  have hlb : ∀ g, (Value.slice a l.length cap).ownBlock = some g → g < w.heap.size := row_lt hl
  have HLB := Hid.mk' hlb
  clear h hl hlb
  go_enter Tryz.func16, Tryz.ntmps16
  go_wp2_with fail
  refine C1.mono ?_
  rintro en wX ⟨rfl, hwX⟩
  obtain rfl := hwX.symm
  clear hwX C1
  go_wp2_with fail
  have hBw : B ≤ w.heap.size := by have := H.out.base; have := H.out.lt; omega
  go_loopw [12] (fun i_ w' => ∃ (i : Nat) (ov : Value), i_ = .int .i64 i ∧ i ≤ l.length ∧ Hid (CK B w' C lv fv ov qv lo fr (l.take i) fs) ∧ Hid (RowV w.heap.size w' ov (l.take i)) ∧ Hid (RowV Bl w' (.slice a l.length cap) l) ∧ Hid (KB B w w')) (fun i_ _ => l.length - (intOf i_).toNat)
  case atStart => exact ⟨0, NILS, rfl, Nat.zero_le _, H, RowV.nil _ _, HL, KB.refl _ _⟩
  case round =>
    clear H HL
    obtain ⟨i, ov, rfl, hi, HK, HR, HL, HB⟩ := hrel
    obtain ⟨w0, hw0⟩ : ∃ w0, w0 = wr := ⟨_, rfl⟩
    rw [← hw0] at HK HR HL HB ⊢
    clear hw0
    by_cases hlt : i < l.length
    · obtain ⟨t, ht⟩ : ∃ t, l[i]? = some t := ⟨_, List.getElem?_eq_getElem hlt⟩
      have d1 : decide ((i : Int) < (l.length : Int)) = true := by simp; omega
      have d2 : decide (i < l.length) = true := by simp; omega
      have d3 : (i : Int) < (l.length : Int) := by omega
      obtain ⟨b, off, ha, _, hE⟩ := (RowV.lst HL.out).get (by omega)
      subst ha
      obtain ⟨x0, x1, x2⟩ := hE i t ht
      have HT : Hid (l.take (i + 1) = l.take i ++ [t]) := (by rw [List.take_add_one, ht]; rfl : l.take (i + 1) = l.take i ++ [t])
      have htl : (l.take i).length ≤ 1048576 := by rw [List.length_take]; omega
      obtain ⟨tn, tz, th⟩ := t
      simp only at x0 x1 x2
      have hsz0 := HB.out.2
      have CP : Hid (∀ W, Grew w0 W → Calls Tryz.prog 25 #[.pointer (some ⟨C, 0, none⟩), .agg #[.int .i64 tn, .bool tz, .int .i64 th]] W fun en w' => ∃ ov', en = .returned (.int .i64 0) ∧ CK B w' C lv fv ov' qv lo fr (l.take i ++ [⟨tn, tz, th⟩]) fs ∧ KB B W w' ∧ Two C ov W w' ∧ RowV w.heap.size w' ov' (l.take i ++ [⟨tn, tz, th⟩])) := fun W gg => pushMN (HK.out.grew gg) hf htl tn th tz (HR.out.grew gg) (Nat.le_trans hsz0 gg.2)
      have hxl := lt_of_cell x0
      clear ht hE
      go_wp2_with fail
      refine (CP.out _ ((Grew.refl w0).alloc _)).mono ?_
      rintro en w2 ⟨ov2, rfl, K2, B2, T2, R2⟩
      have g1 : Grew w0 (w0.alloc (.cells #[.int .i64 tn, .bool tz, .int .i64 th] 44)) := (Grew.refl w0).alloc _
      have hno := (HK.out.grew g1).noV
      have HL2 := Hid.mk' (LV.two (HL.out.grew g1) T2 hno.1 (fun g' hg' hv' => by
        have h1 := (World.ownsRow.lt HR.out g' hg').1
        have h2 := HLB.out g' hv'
        omega))
      have HK2 : Hid (CK B w2 C lv fv ov2 qv lo fr (l.take (i + 1)) fs) := by rw [HT.out]; exact K2
      have HR2 : Hid (RowV w.heap.size w2 ov2 (l.take (i + 1))) := by rw [HT.out]; exact R2
      have HB2 : Hid (KB B w w2) := (HB.out.trans (g1.kb (Nat.le_trans hBw hsz0))).trans B2
      clear K2 B2 T2 R2 hno g1 CP x0 x1 x2
      go_wp2_with fail
      go_roundw
      case rel => exact ⟨i + 1, ov2, by go_num, by omega, HK2, HR2, HL2, HB2⟩
      case measure => simp [intOf]; omega
    · have d1 : decide ((i : Int) < (l.length : Int)) = false := by simp; omega
      have hin : l.take i = l := List.take_of_length_le (by omega)
      have HK2 : Hid (CK B w0 C lv fv ov qv lo fr l fs) := by have := HK.out; rwa [hin] at this
      clear HK HR HL
      go_wp2_with fail
      go_ret
      exact ⟨_, rfl, HK2.out, HB.out⟩
set_option maxRecDepth 100000 in
theorem operandsM {B : Nat} {w : World} {C : Nat} {lv fv ov qv : Value} {lo : List LO} {fr : List Int} {ops : List VT} {fs : List FV} (h : CK B w C lv fv ov qv lo fr ops fs) (hn : ops.length ≤ 1048576) :
    Calls Tryz.prog 19 #[.pointer (some ⟨C, 0, none⟩)] w (NewRow 44 ops.length (ops.flatMap VT.c) w) := by
  have C1 := zeroM h
  have C2 := copiedV_any (RowV.lst h.rops).raw (by omega)
  have c5 := h.c5
  obtain ⟨oa, oc, hov⟩ := row_one h.rops
  subst hov
  clear h
  go_enter Tryz.func19, Tryz.ntmps19
  go_wp2_with fail
  refine C1.mono ?_
  rintro en wX ⟨rfl, hwX⟩
  obtain rfl := hwX.symm
  clear hwX C1
  go_wp2_with fail
  refine C2.mono ?_
  rintro en w1 ⟨g, rfl, h1, h2, h3⟩
  have HF := Hid.mk' h2
  have G := Hid.mk' h3
  clear h2 h3 C2
  go_wp2_with fail
  go_ret
  exact ⟨g, rfl, h1, HF.out, G.out⟩
end Go.Proofs.YtkghplkmfpnhdaaGreatDoor
