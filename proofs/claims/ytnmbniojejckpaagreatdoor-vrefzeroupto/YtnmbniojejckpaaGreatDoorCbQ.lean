/-
  Pushes and Operands; no statement is proved here.
-/
import Derived.Test.YtnmbniojejckpaaGreatDoorCgT
import Derived.Test.YtnmbniojejckpaaGreatDoorGrR
import Derived.Test.YtnmbniojejckpaaGreatDoorRgL
set_option maxRecDepth 100000
set_option maxHeartbeats 8000000
namespace Go.Proofs.YtnmbniojejckpaaGreatDoor
open Go.RowKit
set_option linter.unusedVariables false
set_option linter.unusedSimpArgs false
/- What Pops does: the error, the operands behind it; the list from its end on. -/
def popsR (m : VT → VT → Bool) (h : Nat) (dead : Bool) : List VT → List VT → Int × List VT
  | [], ops => (0, ops)
  | t :: r, ops => if (popTP m h dead ops t).1 = 0 then popsR m h dead r (popTP m h dead ops t).2.2 else ((popTP m h dead ops t).1, ops)
theorem popTP_le {m : VT → VT → Bool} {h : Nat} {dead : Bool} {ops : List VT} {t : VT} (hh : h ≤ ops.length) : h ≤ (popTP m h dead ops t).2.2.length := by
  unfold popTP
  split
  · split
    · exact popP_le hh
    · exact hh
  · exact hh
theorem popTP_err (m : VT → VT → Bool) (h : Nat) (dead : Bool) (ops : List VT) (t : VT) : (popTP m h dead ops t).1 = 0 ∨ (popTP m h dead ops t).1 = 130 ∨ (popTP m h dead ops t).1 = 131 := by
  unfold popTP
  split
  · rename_i h0
    split
    · exact Or.inl h0
    · exact Or.inr (Or.inr rfl)
  · exact Or.inr (Or.inl rfl)
theorem popsR_err (m : VT → VT → Bool) (h : Nat) (dead : Bool) : ∀ (l ops : List VT), (popsR m h dead l ops).1 = 0 ∨ (popsR m h dead l ops).1 = 130 ∨ (popsR m h dead l ops).1 = 131
  | [], ops => Or.inl rfl
  | t :: r, ops => by
    unfold popsR
    split
    · exact popsR_err m h dead r _
    · exact popTP_err m h dead ops t
theorem take_rev {l : List VT} {n : Nat} {t : VT} (h : l[n]? = some t) : (l.take (n + 1)).reverse = t :: (l.take n).reverse := by
  obtain ⟨h', he⟩ := List.getElem?_eq_some_iff.1 h
  rw [List.take_succ_eq_append_getElem h', he, List.reverse_append]
  rfl
/- No number lies in a checker's own block. -/
theorem CHK.noInt {G : Value → Prop} {B : Nat} {w : World} {C : Nat} {lv fv ov qv : Value} {lo : List LO} {fr : List Int} {ops : List VT} {fs : List FV} (h : CHK G B w C lv fv ov qv lo fr ops fs) (j : Nat) (k : IntKind) (n : Int) : w.cell? ⟨C, j, none⟩ ≠ some (.int k n) := by
  obtain ⟨⟨gv, rv, ⟨⟨a1, a2, a3, ha⟩, _⟩, ⟨b1, b2, b3, hb⟩, c⟩, _, h2, h3, h4, h5, _⟩ := h
  obtain ⟨l1, l2, hl⟩ := row_one h2
  obtain ⟨f1, f2, hf⟩ := row_one h3
  obtain ⟨o1, o2, ho⟩ := row_one h4
  obtain ⟨q1, q2, hq⟩ := row_one h5
  subst ha hb hl hf ho hq
  rw [cell_of c]
  match j with
  | 0 => simp
  | 1 => simp
  | 2 => simp
  | 3 => simp
  | 4 => simp
  | 5 => simp
  | 6 => simp
  | n + 7 => simp
theorem LV.twoC {G : Value → Prop} {B : Nat} {w w' : World} {C : Nat} {lv fv ov qv : Value} {lo : List LO} {fr : List Int} {ops : List VT} {fs : List FV} {v : Value} {l : List VT} (hl : LV w v l) (h : CHK G B w C lv fv ov qv lo fr ops fs) (t : Two C NILS w w') : LV w' v l := by
  obtain ⟨a, cap, hv, h1, h2, h3, h4⟩ := hl
  refine ⟨a, cap, hv, h1, h2, h3, h4.imp_right ?_⟩
  rintro ⟨b, off, ha, hE⟩
  refine ⟨b, off, ha, fun i x hx => ?_⟩
  obtain ⟨e0, e1, e2⟩ := hE i x hx
  have hne : b ≠ C := fun e => h.noInt _ _ _ (by rw [← e]; exact e0)
  have hb := t b (block_lt_of_cell e0) hne (by simp [Value.ownBlock])
  exact ⟨(World.cell?_of_block hb).trans e0, (World.cell?_of_block hb).trans e1, (World.cell?_of_block hb).trans e2⟩
theorem popsA {gv : Value} {L : List RT} {W0 w : World} {C : Nat} {lv fv ov : Value} {lo : List LO} {fr : List Int} {ops : List VT} {fs : List FV} {x : FV} {g c : Nat} (hG : GRP L W0 gv) (h : CHG gv W0.heap.size w C lv fv ov (.slice (some ⟨g, 0, none⟩) (fs.length + 1) c) lo fr ops (fs ++ [x])) (g0 : Grew W0 w) (hh : x.height ≤ ops.length) {v : Value} {l : List VT} (hl : LV w v l) :
    Calls Tryz.prog 17 #[.pointer (some ⟨C, 0, none⟩), v] w fun en w' => ∃ ov', en = .returned (.int .i64 (popsR (matB L) x.height x.dead l.reverse ops).1) ∧ KB W0.heap.size w w' ∧ Two C NILS w w' ∧ ((popsR (matB L) x.height x.dead l.reverse ops).1 = 0 → CHG gv W0.heap.size w' C lv fv ov' (.slice (some ⟨g, 0, none⟩) (fs.length + 1) c) lo fr (popsR (matB L) x.height x.dead l.reverse ops).2 (fs ++ [x]) ∧ ov'.ownBlock = ov.ownBlock) := by
  have C1 := zeroMk h
  have CP : Hid (∀ W ovx opx (t : VT), Grew W0 W → CHG gv W0.heap.size W C lv fv ovx (.slice (some ⟨g, 0, none⟩) (fs.length + 1) c) lo fr opx (fs ++ [x]) → x.height ≤ opx.length → Calls Tryz.prog 50 #[.pointer (some ⟨C, 0, none⟩), .agg #[.int .i64 t.num, .bool t.null, .int .i64 t.heap]] W fun en w' => ∃ ov', en = .returned (.tuple #[(popTP (matB L) x.height x.dead opx t).2.1.v, .int .i64 (popTP (matB L) x.height x.dead opx t).1]) ∧ CHG gv W0.heap.size w' C lv fv ov' (.slice (some ⟨g, 0, none⟩) (fs.length + 1) c) lo fr (popTP (matB L) x.height x.dead opx t).2.2 (fs ++ [x]) ∧ KB W0.heap.size W w' ∧ Two C NILS W w' ∧ ov'.ownBlock = ovx.ownBlock) := fun W ovx opx t gg hc ho => popTypeA hG hc gg ho t
  obtain ⟨RR, hRR⟩ : ∃ RR, RR = popsR (matB L) x.height x.dead l.reverse ops := ⟨_, rfl⟩
  rw [← hRR]
  have HRR : Hid (RR = popsR (matB L) x.height x.dead l.reverse ops) := hRR
  clear hRR
  obtain ⟨RE, RO⟩ := RR
  obtain ⟨a, cap, hv, hle, hmx⟩ := hl.one
  subst hv
  have HL := Hid.mk' hl
  have c5 := h.c5
  obtain ⟨oa, oc, hov⟩ := row_one h.rops
  subst hov
  have hCl := h.lt
  have hBC := h.base
  have H0 := Hid.mk' h
  have HH := Hid.mk' hh
  have GG0 := Hid.mk' g0
  have hml : (l.length : Int) ≤ 9223372036854775807 := by have := hmx; simp [maxLen] at this; omega
  clear h hl hh g0 hG
  simp only
  go_enter Tryz.func17, Tryz.ntmps17
  obtain ⟨q, hq⟩ : ∃ q, q = w.heap.size := ⟨_, rfl⟩
  have HQ : Hid (q = w.heap.size) := hq
  go_wp2_with fail
  refine wp_scope_jumps 0 (fun a' w' => ∃ E, (∃ ov6 ops6, Hid (CHG gv W0.heap.size w' C lv fv ov6 (.slice (some ⟨g, 0, none⟩) (fs.length + 1) c) lo fr ops6 (fs ++ [x])) ∧ Hid (KB W0.heap.size w w') ∧ Hid (Two C NILS w w') ∧ Hid (w'.heap[q]? = some (.cells #[.slice oa ops.length oc] 58 (0, 0))) ∧ Hid (E = RE ∧ E ≠ 0)) ∧ ∃ v1 v2 v3 v4 v7 v8 v9 v10 v11 v12 v13 v14 v15 v16 v17 v18 v19 v20 v21 v22 v23 v24 v25 v26 v27 v28 v29 v30 v31 v32 v33 v34 v35 v36 : Value, a' = { tmps := #[.pointer (some ⟨C, 0, none⟩), v1, v2, v3, v4, .pointer (some ⟨q, 0, none⟩), .int .i64 E, v7, v8, v9, v10, v11, v12, v13, v14, v15, v16, v17, v18, v19, v20, v21, v22, v23, v24, v25, v26, v27, v28, v29, v30, v31, v32, v33, v34, v35, v36], defers := [] }) (fun _ _ => 0) rfl ?_ ?_
  rotate_left
  · rintro a' w' ⟨E, ⟨ov6, ops6, H6, HB6, HT6, M6, HE⟩, v1, v2, v3, v4, v7, v8, v9, v10, v11, v12, v13, v14, v15, v16, v17, v18, v19, v20, v21, v22, v23, v24, v25, v26, v27, v28, v29, v30, v31, v32, v33, v34, v35, v36, rfl⟩
    have z5 := H6.out.z 5
    have c56 := H6.out.c5
    have hC6 := H6.out.lt
    have p0 := cell_of M6.out 0
    simp at p0
    have hl6 := lt_of_obj M6.out
    clear hq C1 CP
    go_wp2_with fail
    simp only [Exit.jump]
    refine bodyPost_ret (v := .int .i64 E) (by simp [results, Tryz.results17, go_sem]) rfl ?_
    have t0 : Two C NILS w (w'.setCell ⟨C, 5, none⟩ (.slice oa ops.length oc)) := fun y hy hC hv => by rw [Below.heap_setCell _ _ _ _ (by simpa using hC)]; exact HT6.out y hy hC hv
    exact ⟨ov6, by rw [HE.out.1], HB6.out.set (p := ⟨C, 5, none⟩) hBC _, t0, fun he => absurd (HE.out.1.trans he) HE.out.2⟩
  clear hq
  go_wp2_with fail
  refine C1.mono ?_
  rintro en w1 ⟨rfl, hw⟩
  obtain rfl := hw.symm
  clear hw C1
  go_wp2_with fail
  go_loopw [6, 7] (fun e_ n_ w' => ∃ (k : Nat) (ovk : Value) (opk : List VT), e_ = .int .i64 0 ∧ n_ = .int .i64 ((k : Int) - 1) ∧ k ≤ l.length ∧ Hid (CHG gv W0.heap.size w' C lv fv ovk (.slice (some ⟨g, 0, none⟩) (fs.length + 1) c) lo fr opk (fs ++ [x])) ∧ Hid (KB W0.heap.size w w') ∧ Hid (Two C NILS w w') ∧ Hid (ovk.ownBlock = (Value.slice oa ops.length oc).ownBlock) ∧ Hid (x.height ≤ opk.length) ∧ Hid (popsR (matB L) x.height x.dead (l.take k).reverse opk = (RE, RO)) ∧ Hid (w'.heap[q]? = some (.cells #[.slice oa ops.length oc] 58 (0, 0)))) (fun _ n_ _ => (intOf n_ + 1).toNat)
  case atStart =>
    have ga : Grew w (w.alloc (.cells #[.slice oa ops.length oc] 58)) := (Grew.refl w).alloc _
    refine ⟨l.length, _, _, rfl, rfl, Nat.le_refl _, H0.out.grew ga, ga.kb (by omega), fun y hy _ _ => ga.1.block y hy, rfl, HH, by rw [List.take_length]; exact HRR.out.symm, by rw [HQ.out]; exact heap_alloc_last _ _⟩
  case round =>
    obtain ⟨k, ovk, opk, rfl, rfl, hk, HK, HB, HT, HO, HHk, HRk, M⟩ := hrel
    obtain ⟨w0, hw0⟩ : ∃ w0, w0 = wr := ⟨_, rfl⟩
    rw [← hw0] at HK HB HT M ⊢
    clear hw0
    cases k with
    | zero =>
      have d1 : decide ((0 : Int) ≤ ((0 : Nat) : Int) - 1) = false := by simp
      clear CP
      go_wp2_with fail
      simp only [Exit.jump]
      go_ret
      have hz : (0, opk) = (RE, RO) := HRk.out
      injection hz with hz1 hz2
      subst hz1 hz2
      exact ⟨ovk, rfl, HB.out, HT.out, fun _ => ⟨HK.out, HO.out⟩⟩
    | succ n =>
      have e0 : (((n + 1 : Nat) : Int) - 1) = (n : Int) := by omega
      rw [e0]
      have hlt : n < l.length := by omega
      obtain ⟨t, ht⟩ : ∃ t, l[n]? = some t := ⟨_, List.getElem?_eq_getElem hlt⟩
      have GW0 : Hid (Grew W0 w0) := KB.grew GG0.out HB.out
      obtain ⟨b, off, ha, hc', hE⟩ := (LV.twoC HL.out H0.out HT.out).get (by omega)
      subst ha
      obtain ⟨x0, x1, x2⟩ := hE n t ht
      clear hE
      have d1 : decide ((0 : Int) ≤ (n : Int)) = true := by simp
      have d2 : decide (n < l.length) = true := by simp; omega
      have d3 : decide ((n : Int) < (l.length : Int)) = true := by simp; omega
      have d4 : (n : Int) < (l.length : Int) := by omega
      have e1 : IntKind.i64.wrap ((n : Int) - 1) = (n : Int) - 1 := by rw [IntKind.wrap_i64]; omega
      have C2 := CP.out w0 ovk opk t GW0.out HK.out HHk.out
      have HST : Hid (popsR (matB L) x.height x.dead (t :: (l.take n).reverse) opk = (RE, RO)) := by rw [← take_rev ht]; exact HRk.out
      have hle2 := popTP_le (m := matB L) (dead := x.dead) (t := t) HHk.out
      have HLE : Hid (x.height ≤ (popTP (matB L) x.height x.dead opk t).2.2.length) := hle2
      obtain ⟨PP, hPP⟩ : ∃ PP, PP = popTP (matB L) x.height x.dead opk t := ⟨_, rfl⟩
      rw [← hPP] at C2 HLE
      have HPP : Hid (PP = popTP (matB L) x.height x.dead opk t) := hPP
      obtain ⟨PE, ⟨pn, pz, ph⟩, PO⟩ := PP
      obtain ⟨tn, tz, th⟩ := t
      simp only [VT.v] at x0 x1 x2 C2
      clear ht hPP hle2 HRk CP
      by_cases hp0 : PE = 0
      · subst hp0
        go_wp2_with fail
        refine C2.mono ?_
        rintro en w2 ⟨ov2, rfl, K2, B2, T2, e2⟩
        have M2 := Hid.mk' (T2.obj M.out (by rw [HQ.out]; omega))
        have HB2 := Hid.mk' (KB.trans HB.out B2)
        have HT2 := Hid.mk' (Two.comp HT.out HB.out.2 T2)
        have HO2 := Hid.mk' (e2.trans HO.out)
        have HK2 := Hid.mk' K2
        have HR2 : Hid (popsR (matB L) x.height x.dead (l.take n).reverse PO = (RE, RO)) := by
          have := HST.out
          unfold popsR at this
          rw [← HPP.out] at this
          have th2 : popsR (matB L) x.height x.dead (l.take n).reverse PO = (RE, RO) := by simpa using this
          exact th2
        clear K2 B2 T2 e2 C2 HK HB HT HO M HST
        go_wp2_with fail
        go_roundw
        case rel => exact ⟨n, ov2, PO, rfl, rfl, by omega, HK2, HB2, HT2, HO2, HLE, HR2, M2⟩
        case measure => simp [intOf]
      · have d5 : (PE != 0) = true := by simp [hp0]
        go_wp2_with fail
        refine C2.mono ?_
        rintro en w2 ⟨ov2, rfl, K2, B2, T2, e2⟩
        have M2 := Hid.mk' (T2.obj M.out (by rw [HQ.out]; omega))
        have HB2 := Hid.mk' (KB.trans HB.out B2)
        have HT2 := Hid.mk' (Two.comp HT.out HB.out.2 T2)
        have HK2 := Hid.mk' K2
        have HE2 : Hid (PE = RE ∧ PE ≠ 0) := by
          have := HST.out
          unfold popsR at this
          rw [← HPP.out] at this
          simp only [hp0, if_false] at this
          injection this with h1 _
          exact ⟨h1, hp0⟩
        clear K2 B2 T2 e2 C2 HK HB HT HO M HST hp0
        go_wp2_with fail
        go_step3
        obtain rfl := HQ.out
        exact ⟨rfl, PE, ⟨ov2, _, HK2, HB2, HT2, M2, HE2⟩, _, _, _, _, _, _, _, _, _, _, _, _, _, _, _, _, _, _, _, _, _, _, _, _, _, _, _, _, _, _, _, _, _, _, rfl⟩
variable {G : Value → Prop}
theorem raw_val {w : World} (n h : Int) (z : Bool) {t : TypeId} : Raw 3 (w.alloc (.cells #[.int .i64 n, .bool z, .int .i64 h] t)) (.slice (some ⟨w.heap.size, 0, none⟩) 1 1) ([(⟨n, z, h⟩ : VT)].length) (([(⟨n, z, h⟩ : VT)]).flatMap VT.c) := by
  refine ⟨rfl, ?_, some ⟨w.heap.size, 0, none⟩, 1, rfl, Nat.le_refl _, by decide, (fun h => by cases h), Or.inr ⟨w.heap.size, 0, rfl, fun j u hu => ?_⟩⟩
  · intro u hu
    simp [VT.c] at hu
    rcases hu with rfl | rfl | rfl <;> rfl
  · rw [Nat.zero_add, cell_of (heap_alloc_last _ _)]
    simpa [VT.c] using hu
variable {G : Value → Prop}
theorem LV.two {w w' : World} {v : Value} {l : List VT} {C : Nat} {q : Value} {Bl : Nat} (h : RowV Bl w v l) (t : Two C q w w') (hC : NoT w C 46) (hq : ∀ g, q.ownBlock = some g → v.ownBlock ≠ some g) : RowV Bl w' v l := by
  obtain ⟨h1, h2 | ⟨g, cap, cur, hv, hB, hg, h3⟩⟩ := h
  · exact ⟨h1, Or.inl h2⟩
  · exact ⟨h1, Or.inr ⟨g, cap, cur, hv, hB, (t g (lt_of_obj hg) (fun hx => hC _ _ (by rw [← hx]; exact hg)) (fun hx => hq g hx.symm (by rw [hv]; rfl))).trans hg, h3⟩⟩
end Go.Proofs.YtnmbniojejckpaaGreatDoor
