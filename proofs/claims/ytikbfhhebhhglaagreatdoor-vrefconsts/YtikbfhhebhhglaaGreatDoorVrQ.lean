/-
  What may stand in a constant expression, a list of instructions: both answers; no statement is proved here.
-/
import Derived.Test.YtikbfhhebhhglaaGreatDoorVrK
import Derived.Deep.MidRow
namespace Go.Proofs.YtikbfhhebhhglaaGreatDoor
open Go.RowKit
set_option linter.unusedVariables false
set_option linter.unusedSimpArgs false

/- An instruction as its 17 cells: of these the first two are told. -/
structure IT where
  op : Int
  x : Nat
  rest : List Value
structure EIn (w : World) (b o : Nat) (t : IT) : Prop where
  sz : t.rest.length = 15
  lt : t.x < 4294967296
  c0 : w.cell? ⟨b, o, none⟩ = some (.int .i64 t.op)
  c1 : w.cell? ⟨b, o + 1, none⟩ = some (.int .u32 (t.x : Int))
  one : ∀ v ∈ t.rest, v.oneCell' = true
  cr : ∀ j v, t.rest[j]? = some v → w.cell? ⟨b, o + 2 + j, none⟩ = some v
abbrev LIn := Lst 17 EIn
theorem EIn.grew {w w' : World} {b o : Nat} {t : IT} (h : EIn w b o t) (g : Grew w w') : EIn w' b o t :=
  ⟨h.sz, h.lt, cell_grew h.c0 g, cell_grew h.c1 g, h.one, fun j v hv => cell_grew (h.cr j v hv) g⟩
theorem LIn.grew {w w' : World} {v : Value} {l : List IT} (h : LIn w v l) (g : Grew w w') : LIn w' v l := Lst.grew (E := EIn) (fun _ _ _ _ _ h g => EIn.grew h g) h g
theorem stop_store {P : Program} {ops : Array Oper} {rest : List Oper} {o : Oper} {a : Act} {w : World} {Q : Exit → Act → World → Prop} (ty : TypeId) {x y : Operand} (ho : o.op = .store ty x y) (h : Stop (wpList P ops Q (o :: rest) a w)) : wpList P ops Q (o :: rest) a w := h
def IT.l (t : IT) : List Value := .int .i64 t.op :: .int .u32 (t.x : Int) :: t.rest
theorem EIn.at {w : World} {b o : Nat} {t : IT} (h : EIn w b o t) : w.rangeAt b o t.l := by
  intro j v hv
  match j, hv with
  | 0, hv => simpa [IT.l] using (by rw [show v = .int .i64 t.op by simpa [IT.l] using hv.symm]; exact h.c0 : w.cell? ⟨b, o, none⟩ = some v)
  | 1, hv => exact (by rw [show v = .int .u32 (t.x : Int) by simpa [IT.l] using hv.symm]; exact h.c1 : w.cell? ⟨b, o + 1, none⟩ = some v)
  | j + 2, hv =>
    have := h.cr j v (by simpa [IT.l] using hv)
    rw [show o + (j + 2) = o + 2 + j by omega]
    exact this
theorem EIn.ones {w : World} {b o : Nat} {t : IT} (h : EIn w b o t) : t.l.toArray.all (·.oneCell') = true := by
  rw [Array.all_eq_true_iff_forall_mem]
  intro v hv
  have hv : v ∈ t.l := by simpa using hv
  unfold IT.l at hv
  simp only [List.mem_cons] at hv
  rcases hv with rfl | rfl | hv
  · rfl
  · rfl
  · exact h.one v hv
theorem EIn.len {w : World} {b o : Nat} {t : IT} (h : EIn w b o t) : t.l.length = 17 := by simp [IT.l, h.sz]
/- The first that may not stand, and why. -/
def cstP (GL : List GLt) (gb : Int) : List IT → Nat → Nat × Int
  | [], _ => (0, 0)
  | t :: l, k => if cstE GL gb t.op t.x = 0 then cstP GL gb l (k + 1) else (k, cstE GL gb t.op t.x)
set_option maxRecDepth 100000 in
theorem constantI_any {w : World} (s0 s1 s2 s3 s5 s6 s7 s8 : Value) {gv : Value} {GL : List GLt} (hG : LGl w gv GL) (gb : Int) {b o : Nat} {t : IT} {W : World} (ht : EIn W b o t) :
    Calls Tryz.prog 12 #[.agg #[s0, s1, s2, s3, gv, s5, s6, s7, s8], .agg t.l.toArray, .int .i64 gb] w fun en w' => en = .returned (.int .i64 (cstE GL gb t.op t.x)) ∧ Grew w w' := by
  have h1 := ht.sz
  have h2 := ht.lt
  obtain ⟨op, n, r⟩ := t
  simp only at h1 h2
  unfold IT.l
  match r, h1 with
  | [v2, v3, v4, v5, v6, v7, v8, v9, v10, v11, v12, v13, v14, v15, v16], _ => exact constant_any s0 s1 s2 s3 s5 s6 s7 s8 hG gb n h2 op v2 v3 v4 v5 v6 v7 v8 v9 v10 v11 v12 v13 v14 v15 v16
theorem step_P {GL : List GLt} {gb : Int} {l : List IT} {k : Nat} {t : IT} (hx : l[k]? = some t) : cstP GL gb (l.drop k) k = if cstE GL gb t.op t.x = 0 then cstP GL gb (l.drop (k + 1)) (k + 1) else (k, cstE GL gb t.op t.x) := by
  obtain ⟨h1, e1⟩ := List.getElem?_eq_some_iff.1 hx
  rw [List.drop_eq_getElem_cons h1, e1]
  rfl
theorem heap_setRow {w : World} {g : Nat} {cs old : Array Value} {t : TypeId} {fr : Nat × Nat} (h : w.heap[g]? = some (.cells old t fr)) : (w.setRow g cs).heap[g]? = some (.cells cs t fr) := setRow_heap w g old cs t fr h
theorem Grew.setRow {w w' : World} (h : Grew w w') {g : Nat} (hg : w.heap.size ≤ g) (cs : Array Value) : Grew w (w'.setRow g cs) :=
  ⟨⟨h.1.os, h.1.tape, h.1.output, by simpa using h.2, fun k hk => (setRow_other w' g k cs (by omega)).trans (h.1.block k hk)⟩, by simpa using h.2⟩
theorem info_ins : (Tryz.prog.info? 52).map (·.size) = some 17 := by kernel_rfl
set_option maxRecDepth 100000 in
set_option maxHeartbeats 4000000 in
theorem const_any {w : World} (s0 s1 s2 s3 s5 s6 s7 s8 : Value) {gv : Value} {GL : List GLt} (hG : LGl w gv GL) {lv : Value} {l : List IT} (hL : LIn w lv l) (gb : Int) :
    Calls Tryz.prog 5 #[.agg #[s0, s1, s2, s3, gv, s5, s6, s7, s8], lv, .int .i64 gb] w fun en w' => en = .returned (.tuple #[.int .i64 ((cstP GL gb l 0).1 : Int), .int .i64 (cstP GL gb l 0).2]) ∧ Grew w w' := by
  obtain ⟨la, lc, elv, hlc, hmx⟩ := hL.one
  subst elv
  have HL := Hid.mk' hL
  have HG := Hid.mk' hG
  have e00 : l.length ≤ 9223372036854775807 := by have := hmx; simp [maxLen] at this; omega
  obtain ⟨R, hR⟩ : ∃ R, R = cstP GL gb l 0 := ⟨_, rfl⟩
  rw [← hR]
  have HR : Hid (R = cstP GL gb (l.drop 0) 0) := hR
  clear hL hG hR hmx
  have CK : Hid (∀ X b o t, Grew w X → EIn w b o t → Calls Tryz.prog 12 #[.agg #[s0, s1, s2, s3, gv, s5, s6, s7, s8], .agg t.l.toArray, .int .i64 gb] X fun en w' => en = .returned (.int .i64 (cstE GL gb t.op t.x)) ∧ Grew X w') := fun X b o t g ht => constantI_any s0 s1 s2 s3 s5 s6 s7 s8 (HG.out.grew g) gb ht
  clear HG
  go_enter Tryz.func5, Tryz.ntmps5
  go_wp2_with fail
  obtain ⟨w1, hw1⟩ : ∃ w1, w1 = w.alloc (.cells #[s0, s1, s2, s3, gv, s5, s6, s7, s8] 30) := ⟨_, rfl⟩
  have N0 : Hid (w1.heap[w.heap.size]? = some (.cells #[s0, s1, s2, s3, gv, s5, s6, s7, s8] 30 (0, 0))) := by rw [hw1]; exact heap_alloc_last _ _
  have G0 : Hid (Grew w w1) := by rw [hw1]; exact (Grew.refl w).alloc _
  rw [← hw1]
  clear hw1
  go_loopw [13] (fun k_ wx => ∃ k : Nat, k_ = .int .i64 k ∧ k ≤ l.length ∧ Hid (R = cstP GL gb (l.drop k) k) ∧ Hid (Grew w1 wx)) (fun k_ _ => l.length - (intOf k_).toNat)
  case atStart => exact ⟨0, rfl, Nat.zero_le _, HR, Grew.refl _⟩
  case round =>
    clear HR
    obtain ⟨k, rfl, hk, HR, HX⟩ := hrel
    by_cases hlt : k < l.length
    · obtain ⟨t, ht⟩ : ∃ t, l[k]? = some t := ⟨_, List.getElem?_eq_getElem hlt⟩
      obtain ⟨b, off, ea, _, hE⟩ := HL.out.get (by omega)
      subst ea
      have HT0 : Hid (EIn w b (off + k * 17) t) := hE k t ht
      have HT := Hid.mk' (HT0.out.grew (G0.out.trans HX.out))
      have d1 : decide ((k : Int) < (l.length : Int)) = true := by simp; omega
      have d2 : decide (k < l.length) = true := by simp; omega
      have HE := Hid.mk' (step_P (GL := GL) (gb := gb) ht)
      have NX : Hid (wr.heap[w.heap.size]? = some (.cells #[s0, s1, s2, s3, gv, s5, s6, s7, s8] 30 (0, 0))) := (HX.out.turn []).other N0.out (by simp)
      clear hE ht
      go_wp2_with (first
        | with_reducible refine stop_load 52 rfl ?_
        | fail)
      unfold Stop
      refine wpList_load_mid rfl 52 _ rfl b (off + k * 17) (by go_simp) t.l _ HT.out.at Tryz.underlying52 rfl (by rw [HT.out.len]; exact info_ins) ?_
      go_wp2_with (first
        | with_reducible refine stop_store 52 rfl ?_
        | fail)
      unfold Stop
      have HZ : (wr.alloc (.cells #[.int .i64 0, .int .u32 0, .int .u32 0, .int .u64 0, .int .u32 0, .int .u32 0, .int .u64 0, .int .i64 0, .int .i64 0, .bool false, .int .i64 0, .slice none 0 0, .slice none 0 0, .bool false, .slice none 0 0, .slice none 0 0, .slice none 0 0] 52)).heap[wr.heap.size]? = some (.cells #[.int .i64 0, .int .u32 0, .int .u32 0, .int .u64 0, .int .u32 0, .int .u32 0, .int .u64 0, .int .i64 0, .int .i64 0, .bool false, .int .i64 0, .slice none 0 0, .slice none 0 0, .bool false, .slice none 0 0, .slice none 0 0, .slice none 0 0] 52 (0, 0)) := heap_alloc_last _ _
      have gz : Grew wr ((wr.alloc (.cells #[.int .i64 0, .int .u32 0, .int .u32 0, .int .u64 0, .int .u32 0, .int .u32 0, .int .u64 0, .int .i64 0, .int .i64 0, .bool false, .int .i64 0, .slice none 0 0, .slice none 0 0, .bool false, .slice none 0 0, .slice none 0 0, .slice none 0 0] 52)).setRow wr.heap.size t.l.toArray) := ((Grew.refl wr).alloc _).setRow (Nat.le_refl _) t.l.toArray
      have HR2 : ((wr.alloc (.cells #[.int .i64 0, .int .u32 0, .int .u32 0, .int .u64 0, .int .u32 0, .int .u32 0, .int .u64 0, .int .i64 0, .int .i64 0, .bool false, .int .i64 0, .slice none 0 0, .slice none 0 0, .bool false, .slice none 0 0, .slice none 0 0, .slice none 0 0] 52)).setRow wr.heap.size t.l.toArray).heap[wr.heap.size]? = some (.cells t.l.toArray 52 (0, 0)) := heap_setRow HZ
      refine wpList_store_row rfl 52 _ _ rfl wr.heap.size t.l.toArray (by go_simp) (by go_simp) 52 _ HZ (by rw [List.size_toArray, HT.out.len]; exact info_ins) (by simp [HT.out.len]) HT.out.ones ?_
      generalize (wr.alloc (.cells #[.int .i64 0, .int .u32 0, .int .u32 0, .int .u64 0, .int .u32 0, .int .u32 0, .int .u64 0, .int .i64 0, .int .i64 0, .bool false, .int .i64 0, .slice none 0 0, .slice none 0 0, .bool false, .slice none 0 0, .slice none 0 0, .slice none 0 0] 52)).setRow wr.heap.size t.l.toArray = w2 at *
      have NI := Hid.mk' HR2
      have NC := Hid.mk' ((gz.turn []).other NX.out (by simp))
      have G2 := Hid.mk' (HX.out.trans gz)
      clear HZ HR2 gz HT NX HX
      obtain ⟨B, hB⟩ : ∃ B, B = wr.heap.size := ⟨_, rfl⟩
      rw [← hB] at NI
      simp only [← hB]
      clear hB
      go_wp2_with (first
        | with_reducible refine stop_load 30 rfl ?_
        | fail)
      unfold Stop
      refine wpList_load_row rfl 30 _ rfl w.heap.size (by go_simp) 30 #[s0, s1, s2, s3, gv, s5, s6, s7, s8] (0, 0) _ NC.out Tryz.underlying30 rfl (by kernel_rfl) ?_
      go_wp2_with (first
        | with_reducible refine stop_load 52 rfl ?_
        | fail)
      unfold Stop
      refine wpList_load_row rfl 52 _ rfl B (by go_simp) 52 t.l.toArray (0, 0) _ NI.out Tryz.underlying52 rfl (by rw [List.size_toArray, HT0.out.len]; exact info_ins) ?_
      go_wp2_with fail
      refine (CK.out _ _ _ _ (G0.out.trans G2.out) HT0.out).mono ?_
      rintro en w3 ⟨rfl, g3⟩
      have G3 := Hid.mk' (G2.out.trans g3)
      clear g3 G2 NI NC CK
      by_cases hz : cstE GL gb t.op t.x = 0
      · have HE2 : Hid (R = cstP GL gb (l.drop (k + 1)) (k + 1)) := by
          have := HE.out
          rw [if_pos hz] at this
          exact HR.out.trans this
        rw [hz]
        clear hz HE HR HT0
        go_wp2_with fail
        go_roundw
        case rel => exact ⟨k + 1, by go_num, by omega, HE2, G3⟩
        case measure => simp [intOf]; omega
      · have HE2 : Hid (R = (k, cstE GL gb t.op t.x)) := by
          have := HE.out
          rw [if_neg hz] at this
          exact HR.out.trans this
        generalize cstE GL gb t.op t.x = E at *
        have dz : (E == 0) = false := by simpa using hz
        clear hz HE HR HT0
        go_wp2_with fail
        refine bodyPost_ret (v := .tuple #[.int .i64 (k : Int), .int .i64 E]) (by simp [results, Tryz.results5, go_sem]) rfl ?_
        exact ⟨by rw [HE2.out], G0.out.trans G3.out⟩
    · have d1 : decide ((k : Int) < (l.length : Int)) = false := by simp; omega
      have HE2 : Hid (R = (0, 0)) := by
        have := HR.out
        rw [List.drop_of_length_le (by omega)] at this
        exact this
      clear HR
      go_wp2_with fail
      refine bodyPost_ret (v := .tuple #[.int .i64 0, .int .i64 0]) (by simp [results, Tryz.results5, go_sem]) rfl ?_
      exact ⟨by rw [HE2.out]; rfl, G0.out.trans HX.out⟩
end Go.Proofs.YtikbfhhebhhglaaGreatDoor
