/-
  Push, Pushes and Swap of a checker in memory, whatever lies on its operands; no statement is proved here.
-/
import Derived.Test.YtnmbniojejckpaaGreatDoorCbQ
import Derived.Test.YtnmbniojejckpaaGreatDoorRgL
import Derived.Maps.AppendAt
set_option maxRecDepth 100000
set_option maxHeartbeats 8000000
namespace Go.Proofs.YtnmbniojejckpaaGreatDoor
open Go.RowKit
set_option linter.unusedVariables false
set_option linter.unusedSimpArgs false
variable {G : Value → Prop}
/- Where a grown row lies. -/
def Wh (v v' : Value) (w : World) : Prop := v'.ownBlock = v.ownBlock ∨ ∃ g, v'.ownBlock = some g ∧ w.heap.size ≤ g
theorem Wh.trans {a b c : Value} {w w1 : World} (h : Wh a b w) (k : Wh b c w1) (hs : w.heap.size ≤ w1.heap.size) : Wh a c w := by
  rcases k with k | ⟨g, k1, k2⟩
  · rcases h with h | ⟨g, h1, h2⟩
    · exact Or.inl (k.trans h)
    · exact Or.inr ⟨g, k.trans h1, h2⟩
  · exact Or.inr ⟨g, k1, Nat.le_trans hs k2⟩
/- An append of a whole list. -/
theorem wp_appRw {ops : Array Oper} {rest : List Oper} {o : Oper} {a : Act} {w : World} {Q : Exit → Act → World → Prop} (hgd : o.guard = none) (s x : Operand) (t e : TypeId) (k bytes : Nat) (z : Value)
    (hu : Tryz.prog.underlying t = some (.slice e)) (hi : (Tryz.prog.info? e).map (fun i => (i.zero, i.size, i.bytes)) = some (some z, k, bytes)) (hz : z.cells.size = k) (hk : 0 < k) (hbt : bytes ≤ 1000)
    (ho : o.op = .call { callee := .builtin .append, args := #[s, x], argTypes := #[t, t] }) {B : Nat} {v u : Value} {n m : Nat} {cs ds : List Value}
    (hs : a.eval s = v) (hx : a.eval x = u) (hh : w.ownsRow B e k v n cs) (hr : Raw k w u m ds) (hB : B ≤ w.heap.size) (hn : n + m ≤ 8388608)
    (h : ∀ v' w', w'.ownsRow B e k v' (n + m) (cs ++ ds) → KB B w w' → (∀ x < w.heap.size, some x ≠ v.ownBlock → w'.heap[x]? = w.heap[x]?) → Wh v v' w → wpList Tryz.prog ops Q rest (a.put o.dst v') w') :
    wpList Tryz.prog ops Q (o :: rest) a w := by
  obtain ⟨i0, hi0, hz0, hz1, hz2⟩ := info_parts hi
  obtain ⟨hl, h1, a0, cap, rfl, hc, hm, hz', h3⟩ := hr
  cases a0 with
  | none =>
    have hc0 : cap = 0 := hz' rfl
    have hm0 : m = 0 := by omega
    subst hc0 hm0
    have hds : ds = [] := List.eq_nil_of_length_eq_zero (by rw [hl]; simp)
    subst hds
    exact wpList_append_own_none hgd s x t ho B e i0 k hu hi0 v n cs hs hh hx (h v w (by simpa using hh) (KB.refl _ _) (fun _ _ _ => rfl) (Or.inl rfl))
  | some ad =>
    have hsrc : ∀ j u, ds[j]? = some u → w.cell? (ad.add j) = some u := by
      intro j u hj
      rcases h3 with h3 | ⟨b, off, ha, hcell⟩
      · have hjl := (List.getElem?_eq_some_iff.1 hj).1
        rw [hl, h3] at hjl
        simp at hjl
      · injection ha with ha
        subst ha
        rw [add_at]
        exact hcell j u hj
    have hbb : (n + m) * bytes ≤ 8388608 * 1000 := Nat.mul_le_mul hn hbt
    refine wpList_append_own_at _ hgd s x t ho B e i0 z k bytes hu hi0 hz0 hz1 hz2 hz hk v n cs hs hh ad m cap ds hx hl hsrc h1 (by unfold maxLen; omega) (by omega) hB ?_
    intro v' w' ho' hg' _ hat
    have tb : TB B B w w' := own_turn hh hg'
    exact h v' w' ho' ⟨⟨tb.os, tb.tape, tb.output, tb.size, fun k hk => tb.block k (by omega) (by omega) hk⟩, tb.size⟩ (fun x hx hne => hg'.block x hx hne) (hat.imp_right fun e => ⟨_, e, Nat.le_refl _⟩)
theorem pushVW_any {B : Nat} {w : World} {C : Nat} {lv fv ov qv : Value} {lo : List LO} {fr : List Int} {ops : List VT} {fs : List FV} (h : CHK G B w C lv fv ov qv lo fr ops fs) {u : Value} {l : List VT} (hr : Raw 3 w u l.length (l.flatMap VT.c)) (hn : ops.length + l.length ≤ 8388608) :
    Calls Tryz.prog 98 #[.pointer (some ⟨C, 5, none⟩), u] w fun en w' => ∃ v', en = .returned (.tuple #[]) ∧ CHK G B w' C lv fv v' qv lo fr (ops ++ l) fs ∧ KB B w w' ∧ Two C ov w w' ∧ Wh ov v' w := by
  have c6 := h.c5
  have hCl := h.lt
  have H : Hid (CHK G B w C lv fv ov qv lo fr ops fs) := h
  have HR : Hid (Raw 3 w u l.length (l.flatMap VT.c)) := hr
  obtain ⟨a, cap, hu, _, _⟩ := hr.one
  subst hu
  obtain ⟨qa, qc, hq⟩ := row_one h.rops
  subst hq
  have hBl : B ≤ w.heap.size := by have := h.base; omega
  have hBC : B ≤ C := h.base
  clear h hr
  go_enter Tryz.func98, Tryz.ntmps98
  go_wp2_with (at_builtin; refine wp_appRw (v := .slice qa ops.length qc) (n := ops.length) (cs := ops.flatMap VT.c) (B := B) rfl _ _ 27 46 3 24 _ Tryz.underlying27 infoV rfl (by decide) (by decide) rfl rfl rfl H.out.rops HR.out hBl hn ?_; intro v2 w2 hO2 hK2 hG2 hW2; obtain ⟨va, vc, hv2⟩ := row_one hO2; subst hv2; rw [← List.flatMap_append, ← List.length_append] at hO2; obtain ⟨n6, z6, K6⟩ := H.out.pushV hG2 hO2; have H2 := Hid.mk' K6; have HK := Hid.mk' hK2; have HG := Hid.mk' hG2; have HW := Hid.mk' hW2; clear hO2 hK2 hG2 hW2 K6)
  go_end0
  have H2o := H2.out
  rw [List.length_append] at H2o
  exact ⟨_, rfl, H2o, HK.out.set (p := ⟨C, 5, none⟩) hBC _, Keep.two HG.out C 5 _, HW.out⟩
/- Blocks that are no checker's and no types' stay. -/
def SK (w w' : World) : Prop := ∀ (k : Nat) (cs : Array Value) (t : TypeId) (f : Nat × Nat), t ≠ 63 → t ≠ 46 → w.heap[k]? = some (.cells cs t f) → w'.heap[k]? = some (.cells cs t f)
theorem SK.refl (w : World) : SK w w := fun _ _ _ _ _ _ h => h
theorem SK.trans {a b c : World} (h : SK a b) (k : SK b c) : SK a c := fun x cs t f h1 h2 hx => k x cs t f h1 h2 (h x cs t f h1 h2 hx)
theorem pushW {B : Nat} {w : World} {C : Nat} {lv fv ov qv : Value} {lo : List LO} {fr : List Int} {ops : List VT} {fs : List FV} (h : CHK G B w C lv fv ov qv lo fr ops fs) (hf : 0 < fs.length) (hn : ops.length ≤ 8000000) (tn th : Int) (tz : Bool) :
    Calls Tryz.prog 60 #[.pointer (some ⟨C, 0, none⟩), .agg #[.int .i64 tn, .bool tz, .int .i64 th]] w fun en w' => ∃ ov', en = .returned (.int .i64 0) ∧ CHK G B w' C lv fv ov' qv lo fr (ops ++ [⟨tn, tz, th⟩]) fs ∧ KB B w w' ∧ Two C ov w w' ∧ Wh ov ov' w := by
  have C1 : Hid (∀ W, Grew w W → Calls Tryz.prog 97 #[.pointer (some ⟨C, 0, none⟩)] W fun en w' => en = .returned (.int .i64 0) ∧ w' = W) := fun W gg => openM (h.grew gg) hf
  have H := Hid.mk' h
  have hCl := h.lt
  have hBC := h.base
  clear h
  go_enter Tryz.func60, Tryz.ntmps60
  go_wp2_with fail
  refine (C1.out _ ((Grew.refl w).alloc _)).mono ?_
  rintro en wX ⟨rfl, hwX⟩
  obtain rfl := hwX.symm
  clear hwX C1
  obtain ⟨w1, hw1⟩ : ∃ w1, w1 = w.alloc (.cells #[.int .i64 tn, .bool tz, .int .i64 th] 46) := ⟨_, rfl⟩
  have g1 : Grew w w1 := by rw [hw1]; exact (Grew.refl w).alloc _
  have N1 : w1.heap[w.heap.size]? = some (.cells #[.int .i64 tn, .bool tz, .int .i64 th] 46 (0, 0)) := by rw [hw1]; exact heap_alloc_last _ _
  rw [← hw1]
  have H1 := Hid.mk' (H.out.grew g1)
  have G1 := Hid.mk' g1
  have e0 := cell_of N1 0
  have e1 := cell_of N1 1
  have e2 := cell_of N1 2
  simp at e0 e1 e2
  have hl1 := lt_of_obj N1
  clear hw1 g1 N1
  go_wp2_with fail
  have CV : Hid (Calls Tryz.prog 98 #[.pointer (some ⟨C, 5, none⟩), .slice (some ⟨w1.heap.size, 0, none⟩) 1 1] (w1.alloc (.cells #[.int .i64 tn, .bool tz, .int .i64 th] 46)).drew fun en w' => ∃ ov', en = .returned (.tuple #[]) ∧ CHK G B w' C lv fv ov' qv lo fr (ops ++ [⟨tn, tz, th⟩]) fs ∧ KB B w w' ∧ Two C ov w w' ∧ Wh ov ov' w) := by
    have gx : Grew w (w1.alloc (.cells #[.int .i64 tn, .bool tz, .int .i64 th] 46)).drew := (G1.out.alloc _).drew
    refine (pushVW_any (H1.out.grew ((Grew.refl w1).alloc _).drew) ((raw_val tn th tz).grew ((Grew.refl _).drew)) (by simp; omega)).mono ?_
    rintro en w' ⟨v', h1, h2, h3, h4, h5⟩
    exact ⟨v', h1, h2, (gx.kb (by omega)).trans h3, fun y hy hC hq => (h4 y (Nat.lt_of_lt_of_le hy gx.2) hC hq).trans (gx.1.block y hy), h5.imp_right fun ⟨g', e, hl⟩ => ⟨g', e, Nat.le_trans gx.2 hl⟩⟩
  go_region_with (refine CV.out.mono ?_
                  rintro en w2 ⟨ov2, rfl, K2, B2, T2, R2⟩
                  have H2 := Hid.mk' K2
                  have HB2 := Hid.mk' B2
                  have HT2 := Hid.mk' T2
                  have HR2 := Hid.mk' R2
                  clear K2 B2 T2 R2)
  all_goals
    go_wp2_with fail
    go_ret
    exact ⟨_, rfl, H2.out, HB2.out, HT2.out, HR2.out⟩
theorem LV.twoV {B : Nat} {w w' : World} {C : Nat} {lv fv ov qv : Value} {lo : List LO} {fr : List Int} {ops : List VT} {fs : List FV} {a : Option Addr} {n c : Nat} {l : List VT} (hl : LV w (.slice a n c) l) (h : CHK G B w C lv fv ov qv lo fr ops fs) (t : Two C ov w w') (hd : ∀ d, a = some d → ov.ownBlock ≠ some d.block) : LV w' (.slice a n c) l := by
  obtain ⟨a', cap, hv, h1, h2, h3, h4⟩ := hl
  injection hv with e1 e2 e3
  subst e1 e2 e3
  refine ⟨a, c, rfl, h1, h2, h3, h4.imp_right ?_⟩
  rintro ⟨b, off, ha, hE⟩
  refine ⟨b, off, ha, fun i x hx => ?_⟩
  obtain ⟨e0, e1, e2⟩ := hE i x hx
  have hne : b ≠ C := fun e => h.noInt _ _ _ (by rw [← e]; exact e0)
  have hb := t b (block_lt_of_cell e0) hne (fun e => hd _ ha e.symm)
  exact ⟨(World.cell?_of_block hb).trans e0, (World.cell?_of_block hb).trans e1, (World.cell?_of_block hb).trans e2⟩
theorem Wh.ne {v v' : Value} {w : World} (h : Wh v v' w) {y : Nat} (hy : y < w.heap.size) (hn : some y ≠ v.ownBlock) : some y ≠ v'.ownBlock := by
  rcases h with e | ⟨g, e, hg⟩
  · rw [e]; exact hn
  · rw [e]
    intro he
    injection he with he
    omega
theorem pushesA {B : Nat} {w : World} {C : Nat} {lv fv ov qv : Value} {lo : List LO} {fr : List Int} {ops : List VT} {fs : List FV} (h : CHK G B w C lv fv ov qv lo fr ops fs) (hf : 0 < fs.length) {v : Value} {l : List VT} (hl : LV w v l) (hn : ops.length + l.length ≤ 8000000) (hd : ∀ a n c, v = .slice (some a) n c → ov.ownBlock ≠ some a.block ∧ a.block < w.heap.size) :
    Calls Tryz.prog 103 #[.pointer (some ⟨C, 0, none⟩), v] w fun en w' => ∃ ov', en = .returned (.int .i64 0) ∧ CHK G B w' C lv fv ov' qv lo fr (ops ++ l) fs ∧ KB B w w' ∧ Two C ov w w' ∧ Wh ov ov' w := by
  have C1 := zeroMk h
  obtain ⟨a, cap, hv, _⟩ := hl.one
  subst hv
  have H := Hid.mk' h
  have HL := Hid.mk' hl
  have HD : Hid (∀ d, a = some d → ov.ownBlock ≠ some d.block ∧ d.block < w.heap.size) := fun d hd' => hd d _ _ (by rw [hd'])
  clear h hl hd
  go_enter Tryz.func103, Tryz.ntmps103
  go_wp2_with fail
  refine C1.mono ?_
  rintro en wX ⟨rfl, hwX⟩
  obtain rfl := hwX.symm
  clear hwX C1
  go_wp2_with fail
  have hBw : B ≤ w.heap.size := by have := H.out.base; have := H.out.lt; omega
  go_loopw [12] (fun i_ w' => ∃ (i : Nat) (ovk : Value), i_ = .int .i64 i ∧ i ≤ l.length ∧ Hid (CHK G B w' C lv fv ovk qv lo fr (ops ++ l.take i) fs) ∧ Hid (LV w' (.slice a l.length cap) l) ∧ Hid (KB B w w') ∧ Hid (Two C ov w w') ∧ Hid (Wh ov ovk w)) (fun i_ _ => l.length - (intOf i_).toNat)
  case atStart => exact ⟨0, ov, rfl, Nat.zero_le _, by rw [List.take_zero, List.append_nil]; exact H, HL, KB.refl _ _, (fun _ _ _ _ => rfl : Two C ov w w), Or.inl rfl⟩
  case round =>
    clear H HL
    obtain ⟨i, ovk, rfl, hi, HK, HL, HB, HS, HW⟩ := hrel
    obtain ⟨w0, hw0⟩ : ∃ w0, w0 = wr := ⟨_, rfl⟩
    rw [← hw0] at HK HL HB HS ⊢
    clear hw0
    by_cases hlt : i < l.length
    · obtain ⟨t, ht⟩ : ∃ t, l[i]? = some t := ⟨_, List.getElem?_eq_getElem hlt⟩
      have d1 : decide ((i : Int) < (l.length : Int)) = true := by simp; omega
      have d2 : decide (i < l.length) = true := by simp; omega
      have d3 : (i : Int) < (l.length : Int) := by omega
      obtain ⟨b, off, ha, _, hE⟩ := HL.out.get (by omega)
      subst ha
      obtain ⟨x0, x1, x2⟩ := hE i t ht
      have HT : Hid (l.take (i + 1) = l.take i ++ [t]) := (by rw [List.take_add_one, ht]; rfl : l.take (i + 1) = l.take i ++ [t])
      have htl : (ops ++ l.take i).length ≤ 8000000 := by rw [List.length_append, List.length_take]; omega
      obtain ⟨tn, tz, th⟩ := t
      simp only at x0 x1 x2
      have hsz0 := HB.out.2
      have CP : Hid (∀ W, Grew w0 W → Calls Tryz.prog 60 #[.pointer (some ⟨C, 0, none⟩), .agg #[.int .i64 tn, .bool tz, .int .i64 th]] W fun en w' => ∃ ov', en = .returned (.int .i64 0) ∧ CHK G B w' C lv fv ov' qv lo fr ((ops ++ l.take i) ++ [⟨tn, tz, th⟩]) fs ∧ KB B W w' ∧ Two C ovk W w' ∧ Wh ovk ov' W) := fun W gg => pushW (HK.out.grew gg) hf htl tn th tz
      have hxl := lt_of_cell x0
      clear ht hE
      go_wp2_with fail
      refine (CP.out _ ((Grew.refl w0).alloc _)).mono ?_
      rintro en w2 ⟨ov2, rfl, K2, B2, T2, R2⟩
      have g1 : Grew w0 (w0.alloc (.cells #[.int .i64 tn, .bool tz, .int .i64 th] 46)) := (Grew.refl w0).alloc _
      have HL2 := Hid.mk' (LV.twoV (HL.out.grew g1) (HK.out.grew g1) T2 (fun d hd' hv' => by
        obtain ⟨hd1, hd2⟩ := HD.out d hd'
        rcases HW.out with e | ⟨g', e, hg'⟩
        · exact hd1 (e.symm.trans hv')
        · rw [e] at hv'
          injection hv' with hv'
          omega))
      have HK2 : Hid (CHK G B w2 C lv fv ov2 qv lo fr (ops ++ l.take (i + 1)) fs) := by rw [HT.out, ← List.append_assoc]; exact K2
      have HB2 : Hid (KB B w w2) := (HB.out.trans (g1.kb (Nat.le_trans hBw hsz0))).trans B2
      have HS2 : Hid (Two C ov w w2) := (fun y hy h1 h2 => (T2 y (Nat.lt_of_lt_of_le hy (Nat.le_trans hsz0 g1.2)) h1 (HW.out.ne hy h2)).trans ((g1.1.block y (Nat.lt_of_lt_of_le hy hsz0)).trans (HS.out y hy h1 h2)) : Two C ov w w2)
      have HW2 : Hid (Wh ov ov2 w) := Wh.trans HW.out R2 (Nat.le_trans hsz0 g1.2)
      clear K2 B2 T2 R2 g1 CP x0 x1 x2
      go_wp2_with fail
      go_roundw
      case rel => exact ⟨i + 1, ov2, by go_num, by omega, HK2, HL2, HB2, HS2, HW2⟩
      case measure => simp [intOf]; omega
    · have d1 : decide ((i : Int) < (l.length : Int)) = false := by simp; omega
      have hin : l.take i = l := List.take_of_length_le (by omega)
      have HK2 : Hid (CHK G B w0 C lv fv ovk qv lo fr (ops ++ l) fs) := by have := HK.out; rwa [hin] at this
      clear HK HL
      go_wp2_with fail
      go_ret
      exact ⟨_, rfl, HK2.out, HB.out, HS.out, HW.out⟩
theorem popP_len (h : Nat) (dead : Bool) (ops : List VT) : (popP h dead ops).2.2.length ≤ ops.length := by
  unfold popP
  split
  · simp
  · split <;> exact Nat.le_refl _
theorem popTP_len (m : VT → VT → Bool) (h : Nat) (dead : Bool) (ops : List VT) (t : VT) : (popTP m h dead ops t).2.2.length ≤ ops.length := by
  unfold popTP
  split
  · split
    · exact popP_len _ _ _
    · exact Nat.le_refl _
  · exact Nat.le_refl _
theorem popsR_len (m : VT → VT → Bool) (h : Nat) (dead : Bool) : ∀ (l ops : List VT), (popsR m h dead l ops).2.length ≤ ops.length
  | [], ops => Nat.le_refl _
  | t :: r, ops => by
    unfold popsR
    split
    · exact Nat.le_trans (popsR_len m h dead r _) (popTP_len m h dead ops t)
    · exact Nat.le_refl _
theorem swapA {gv : Value} {L : List RT} {W0 w : World} {C : Nat} {lv fv ov : Value} {lo : List LO} {fr : List Int} {ops : List VT} {fs : List FV} {x : FV} {g c : Nat} (hG : GRP L W0 gv) (h : CHG gv W0.heap.size w C lv fv ov (.slice (some ⟨g, 0, none⟩) (fs.length + 1) c) lo fr ops (fs ++ [x])) (g0 : Grew W0 w) (hh : x.height ≤ ops.length) {v u : Value} {li lu : List VT} (hi : LV w v li) (hu : LV w u lu) (hn : ops.length + lu.length ≤ 8000000) (hd : ∀ a n c, u = .slice (some a) n c → ov.ownBlock ≠ some a.block ∧ a.block < w.heap.size) :
    Calls Tryz.prog 67 #[.pointer (some ⟨C, 0, none⟩), v, u] w fun en w' => ∃ ov', en = .returned (.int .i64 (popsR (matB L) x.height x.dead li.reverse ops).1) ∧ KB W0.heap.size w w' ∧ Two C ov w w' ∧ ((popsR (matB L) x.height x.dead li.reverse ops).1 = 0 → CHG gv W0.heap.size w' C lv fv ov' (.slice (some ⟨g, 0, none⟩) (fs.length + 1) c) lo fr ((popsR (matB L) x.height x.dead li.reverse ops).2 ++ lu) (fs ++ [x]) ∧ Wh ov ov' w) := by
  have C1 := popsA hG h g0 hh hi
  have hlen := popsR_len (matB L) x.height x.dead li.reverse ops
  have herr := popsR_err (matB L) x.height x.dead li.reverse ops
  obtain ⟨a, cap, hv, _⟩ := hi.one
  subst hv
  obtain ⟨ua, uc, hv, _⟩ := hu.one
  subst hv
  have H := Hid.mk' h
  have HU := Hid.mk' hu
  have HD := Hid.mk' hd
  generalize popsR (matB L) x.height x.dead li.reverse ops = RR at *
  obtain ⟨RE, RO⟩ := RR
  simp only at *
  clear h hi hu hd hG g0 hh
  by_cases h0 : RE = 0
  · subst h0
    go_enter Tryz.func67, Tryz.ntmps67
    go_wp2_with fail
    refine C1.mono ?_
    rintro en w2 ⟨ov2, rfl, B2, T2, K2⟩
    obtain ⟨K2, e2⟩ := K2 (by first | rfl | trivial)
    have C2 := pushesA K2 (by simp) (LV.twoC HU.out H.out T2) (by omega) (fun d n c' hd' => by
      obtain ⟨hd1, hd2⟩ := HD.out d n c' hd'
      exact ⟨by rw [e2]; exact hd1, Nat.lt_of_lt_of_le hd2 B2.2⟩)
    have HB2 := Hid.mk' B2
    have HS2 : Hid (Two C ov w w2) := (fun y hy h1 _ => T2 y hy h1 (by simp [Value.ownBlock]) : Two C ov w w2)
    have he2 := Hid.mk' e2
    clear K2 T2 e2 B2 C1
    go_wp2_with fail
    refine C2.mono ?_
    rintro en w3 ⟨ov3, rfl, K3, B3, S3, W3⟩
    have KK : Hid (KB W0.heap.size w w3) := KB.trans HB2.out B3
    have W13 : Wh ov ov3 w := by
      have h1 : Wh ov ov2 w := Or.inl he2.out
      exact Wh.trans h1 W3 HB2.out.2
    have KE := Hid.mk' (And.intro K3 W13)
    have KS : Hid (Two C ov w w3) := Two.comp HS2.out HB2.out.2 (fun y hy h1 h2 => S3 y hy h1 (by rw [he2.out]; exact h2))
    clear K3 B3 S3 W3 W13 C2
    go_wp2_with fail
    go_ret
    exact ⟨ov3, rfl, KK.out, KS.out, fun _ => KE.out⟩
  · have d1 : (RE != 0) = true := by simp [h0]
    have H0 : Hid (RE ≠ 0) := h0
    clear h0
    go_enter Tryz.func67, Tryz.ntmps67
    go_wp2_with fail
    refine C1.mono ?_
    rintro en w2 ⟨ov2, rfl, B2, T2, K2⟩
    have HB2 := Hid.mk' B2
    have HS2 : Hid (Two C ov w w2) := (fun y hy h1 _ => T2 y hy h1 (by simp [Value.ownBlock]) : Two C ov w w2)
    clear B2 T2 K2 C1
    go_wp2_with fail
    go_ret
    exact ⟨ov, rfl, HB2.out, HS2.out, fun he => absurd he H0.out⟩
end Go.Proofs.YtnmbniojejckpaaGreatDoor
