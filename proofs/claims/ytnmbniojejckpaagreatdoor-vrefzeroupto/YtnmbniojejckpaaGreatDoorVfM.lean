/-
  vref's functions by reference, on a fresh checker; no statement is proved here.
-/
import Derived.Test.YtnmbniojejckpaaGreatDoorVfK
import Derived.Deep.RegionHeld3
set_option maxRecDepth 100000
set_option maxHeartbeats 8000000
namespace Go.Proofs.YtnmbniojejckpaaGreatDoor
open Go.RowKit
set_option linter.unusedVariables false
set_option linter.unusedSimpArgs false
theorem yieldsIf_load_row {P : Program} {ops : Array Oper} {S : World → Prop} {op : Oper} {a : Act} (hw : Region.wanted op (yielded ops a.tmps) = true) (ty : TypeId) (x : Operand) (ho : op.op = .load ty x)
    (g : Nat) (hx : a.eval x = .pointer (some ⟨g, 0, none⟩)) (t : TypeId) (cs : Array Value) (fr : Nat × Nat) (d : TypeDesc) (hS : ∀ w, S w → w.heap[g]? = some (.cells cs t fr))
    (hu : P.underlying ty = some d) (hd : (match d with | .struct _ | .array _ _ => true | _ => false) = true) (hi : (P.info? ty).map (·.size) = some cs.size) : YieldsIf P ops S op (.agg cs) a :=
  .inl ⟨hw, fun w hw' => by
    unfold execOp
    simp only [ho, hx, Instr.loadAt, Instr.sureAddr, Sem.run_bind, Sem.run_pure, Result.andThen_ok, run_loadVar_row w g t ty cs fr d (hS w hw') hu hd hi]⟩
section
variable {w : World} {cx : Array Value} {TT : List RT} {FL : List Int} {EL : List VT} {RB : List Bool} {dt : Int}
variable {B C : Nat}
theorem null1_z (F : FRS B C w) (hc : CTX w cx TT FL EL RB dt) {X : World} (g : Grew w X) {p q : Nat} {es : Array Value} (hx : X.heap[p]? = some (.cells cx 30 (0, 0))) (hq : X.heap[q]? = some (.cells es 52 (0, 0))) {ya : Option Addr} {yc : Nat} {sl : List VT} (h15 : es[15]? = some (.slice ya sl.length yc)) (hsl : LV X (.slice ya sl.length yc) sl) : Calls Tryz.prog 58 #[.pointer (some ⟨C, 0, none⟩), .pointer (some ⟨q, 0, none⟩), .pointer (some ⟨p, 0, none⟩)] X (Z6 B X) := by
  have CK : Hid (∀ Y (n h : Int) (z : Bool), Grew X Y → Calls Tryz.prog 59 #[.agg cx, .agg #[.int .i64 n, .bool z, .int .i64 h]] Y (BoQ Y)) := fun Y n h z gy => qspeaks_any hc n h z (g.trans gy)
  have CA : Hid (∀ (b : Bool) (h : Int) Y, Calls Tryz.prog 33 #[.bool b, .int .i64 h] Y fun en w' => en = .returned (.agg #[.int .i64 5, .bool b, .int .i64 h]) ∧ Grew Y w') := abs_any
  have CS : Hid (∀ Y (tn th : Int) (tz : Bool), Grew X Y → Calls Tryz.prog 60 #[.pointer (some ⟨C, 0, none⟩), .agg #[.int .i64 tn, .bool tz, .int .i64 th]] Y (Z6T B C Y)) := fun Y a b c gy => F.push Y a b c (g.trans gy)
  have HB := Hid.mk' (Nat.le_trans F.hB g.2)
  have hsz := hc.sz
  have HX := Hid.mk' hx
  have q15 := (cell_of hq 15).trans h15
  have lq := lt_of_cell q15
  have GP : Hid (Grew X X) := Grew.refl X
  have HL := Hid.mk' hsl
  have hmx : sl.length ≤ 9223372036854775807 := by
    obtain ⟨_, _, _, h1, h2⟩ := hsl.one
    simp [maxLen] at h2
    omega
  clear F hc g hx hq h15 hsl
  by_cases h0 : sl.length < 1
  · have d1 : decide ((sl.length : Int) < 1) = true := by simp; omega
    go_enter Tryz.func58, Tryz.ntmps58
    go_wp2_with fail
    go_ret
    exact ⟨_, rfl, by decide, Grew.kb GP.out HB.out⟩
  · have d1 : decide ((sl.length : Int) < 1) = false := by simp; omega
    have d2 : decide (0 < sl.length) = true := by simp; omega
    have d3 : decide ((0 : Int) < (sl.length : Int)) = true := by simp; omega
    have d5 : (0 : Int) < (sl.length : Int) := by omega
    have d6 : 0 < sl.length := by omega
    have hnil : ¬ sl = [] := by
      intro e
      rw [e] at d2
      simp at d2
    obtain ⟨f, hf0⟩ : ∃ f, sl[0]? = some f := ⟨_, List.getElem?_eq_getElem (by omega)⟩
    obtain ⟨b, off, ea, _, hE⟩ := HL.out.get (by omega)
    subst ea
    obtain ⟨x0, x1, x2⟩ := hE 0 f hf0
    simp at x0 x1 x2
    have hbl := lt_of_cell x0
    clear hE hf0 h0
    go_enter Tryz.func58, Tryz.ntmps58
    go_wp2_with fail
    have hx := HX.out
    refine wp_region_held_drew (S := (fun Y => Y.heap[p]? = some (.cells cx 30 (0, 0)) ∧ Y.cell? ⟨q, 15, none⟩ = some (.slice (some ⟨b, off, none⟩) sl.length yc) ∧ Y.cell? ⟨b, off, none⟩ = some (.int .i64 f.num) ∧ Y.cell? ⟨b, off + 1, none⟩ = some (.bool f.null) ∧ Y.cell? ⟨b, off + 2, none⟩ = some (.int .i64 f.heap))) (by kernel_rfl) ⟨hx, q15, x0, x1, x2⟩ (fun hHeld => ?_)
    refine wpAnyH_take (i := 0) (v := .agg cx) rfl (by kernel_rfl) (by kernel_rfl) (by kernel_rfl) (fun _ _ _ h => h) (yieldsIf_load_row (by rfl) 30 _ rfl p rfl 30 cx (0, 0) _ (fun w h => h.1) Tryz.underlying30 rfl (by rw [hsz]; kernel_rfl)) hHeld ?_
    try simp only [Act.put, List.setIfInBounds_toArray, List.set_cons_zero, List.set_cons_succ]
    refine wpAnyH_take (i := 1) (v := .pointer (some ⟨q, 15, none⟩)) rfl (by kernel_rfl) (by kernel_rfl) (by kernel_rfl) (fun _ _ _ h => h) (Or.inl ⟨by rfl, fun w hSw => by go_simp⟩) hHeld ?_
    try simp only [Act.put, List.setIfInBounds_toArray, List.set_cons_zero, List.set_cons_succ]
    refine wpAnyH_take (i := 2) (v := .slice (some ⟨b, off, none⟩) sl.length yc) rfl (by kernel_rfl) (by kernel_rfl) (by kernel_rfl) (fun _ _ _ h => h) (Or.inl ⟨by rfl, fun w hSw => by have h2 := hSw.2.1; go_simp⟩) hHeld ?_
    try simp only [Act.put, List.setIfInBounds_toArray, List.set_cons_zero, List.set_cons_succ]
    refine wpAnyH_take (i := 3) (v := .pointer (some ⟨b, off, none⟩)) rfl (by kernel_rfl) (by kernel_rfl) (by kernel_rfl) (fun _ _ _ h => h) (Or.inl ⟨by rfl, fun w hSw => by go_simp⟩) hHeld ?_
    try simp only [Act.put, List.setIfInBounds_toArray, List.set_cons_zero, List.set_cons_succ]
    refine wpAnyH_take (i := 4) (v := .agg #[.int .i64 f.num, .bool f.null, .int .i64 f.heap]) rfl (by kernel_rfl) (by kernel_rfl) (by kernel_rfl) (fun _ _ _ h => h) (Or.inl ⟨by rfl, fun w hSw => by have h2 := hSw.2.2.1; have h3 := hSw.2.2.2.1; have h4 := hSw.2.2.2.2; go_simp⟩) hHeld ?_
    try simp only [Act.put, List.setIfInBounds_toArray, List.set_cons_zero, List.set_cons_succ]
    refine wpAnyH_ready (rs := [5]) (by kernel_rfl) (by simp) ?_
    refine AllReadyH.cons rfl (fun K hK => ?_) AllReadyH.nil
    go_simp
    refine (CK.out _ _ _ _ (by repeat (first | with_reducible exact .refl _ | refine .drew ?_ | refine .drewN ?_ _))).mono ?_
    rintro en w1 ⟨r, rfl, g1⟩
    have gx : Grew X w1 := Grew.trans (by repeat (first | with_reducible exact .refl _ | refine .drew ?_ | refine .drewN ?_ _)) g1
    have y0 := cell_grew x0 gx
    have y1 := cell_grew x1 gx
    have y2 := cell_grew x2 gx
    have y15 := cell_grew q15 gx
    have hx1 := (gx.turn []).other hx (by simp)
    clear GP
    have GP := Hid.mk' gx
    clear gx g1
    refine hK.out _ _ ⟨hx1, y15, y0, y1, y2⟩ (fun hHeld2 => ?_)
    clear hK K hHeld
    try simp only [Act.put, List.setIfInBounds_toArray, List.set_cons_zero, List.set_cons_succ]
    refine wpAnyH_take (i := 6) (v := .bool (!r)) rfl (by kernel_rfl) (by kernel_rfl) (by kernel_rfl) (fun _ _ _ h => h) (Or.inl ⟨by rfl, fun w hSw => by go_simp⟩) hHeld2 ?_
    try simp only [Act.put, List.setIfInBounds_toArray, List.set_cons_zero, List.set_cons_succ]
    refine wpAnyH_take (i := 7) (v := .bool (!r)) rfl (by kernel_rfl) (by kernel_rfl) (by kernel_rfl) (fun _ _ _ h => h) (Or.inl ⟨by rfl, fun w hSw => by go_simp⟩) hHeld2 ?_
    try simp only [Act.put, List.setIfInBounds_toArray, List.set_cons_zero, List.set_cons_succ]
    refine wpAnyH_done (by kernel_rfl) ?_ _
    clear hHeld2
    have lq1 := lt_of_cell y15
    have lb1 := lt_of_cell y0
    clear CK HX x0 x1 x2 q15 lq hbl hx hx1
    cases r
    · go_wp2_with fail
      go_ret
      exact ⟨_, rfl, by decide, Grew.kb GP.out HB.out⟩
    · go_wp2_with fail
      refine (CA.out _ _ _).mono ?_
      rintro en w2 ⟨rfl, g2⟩
      have gx : Grew X w2 := Grew.trans (by repeat (first | with_reducible exact GP.out | with_reducible exact .refl _ | refine .alloc ?_ _ | refine .set ?_ (by first | (simp; done) | (have := GP.out.2; simp; omega)) _ | refine .drewN ?_ _ | refine .drew ?_)) g2
      clear GP
      have GP := Hid.mk' gx
      clear gx g2
      go_wp2_with fail
      refine (CS.out _ _ _ _ GP.out).mono ?_
      rintro en w3 ⟨e9, rfl, he9, k9, _⟩
      have K9 := Hid.mk' ((Grew.kb GP.out HB.out).trans k9)
      have H9 := Hid.mk' he9
      clear he9 k9 CS
      go_wp2_with fail
      go_ret
      exact ⟨_, rfl, H9.out, K9.out⟩
end
section
variable {w : World} {cx : Array Value} {TT : List RT} {FL : List Int} {EL : List VT} {RB : List Bool} {dt : Int}
variable {B C : Nat}
theorem atI_out {w : World} {v : Value} {l : List Int} (h : LI w v l) {n : Nat} (hn : l.length ≤ n) (h32 : n < 4294967296) :
    Calls Tryz.prog 64 #[v, .int .u32 (n : Int)] w fun en w' => en = .returned (.tuple #[.int .i64 0, .int .i64 150]) ∧ Grew w w' := by
  obtain ⟨a, cap, hv, hle, hmx⟩ := h.one
  subst hv
  have e1 : IntKind.u64.wrap (n : Int) = (n : Int) := by rw [IntKind.wrap_u64]; omega
  have e2 : IntKind.u64.wrap (l.length : Int) = (l.length : Int) := by rw [IntKind.wrap_u64]; omega
  have d1 : decide ((l.length : Int) ≤ (n : Int)) = true := by simp; omega
  have d2 : decide (l.length ≤ n) = true := by simp; omega
  clear h
  go_enter Tryz.func64, Tryz.ntmps64
  go_wp2_with fail
  refine bodyPost_ret (v := .tuple #[.int .i64 0, .int .i64 150]) (by simp [results, Tryz.results64, go_sem]) rfl ?_
  exact ⟨rfl, (by repeat (first | with_reducible exact .refl _ | refine .alloc ?_ _ | refine .set ?_ (by simp) _ | refine .drewN ?_ _ | refine .drew ?_))⟩
theorem atI_in {w : World} {v : Value} {l : List Int} (h : LI w v l) {n : Nat} {p : Int} (hp : l[n]? = some p) (h32 : n < 4294967296) :
    Calls Tryz.prog 64 #[v, .int .u32 (n : Int)] w fun en w' => en = .returned (.tuple #[.int .i64 p, .int .i64 0]) ∧ Grew w w' := by
  obtain ⟨a, cap, hv, hle, hmx⟩ := h.one
  subst hv
  have hn := (List.getElem?_eq_some_iff.1 hp).1
  obtain ⟨b, off, ha, hc, hE⟩ := h.get (by omega)
  subst ha
  have x0 := hE n p hp
  unfold EI at x0
  have x1 : w.cell? ⟨b, off + n, none⟩ = some (.int .i64 p) := by simpa using x0
  have e1 : IntKind.u64.wrap (n : Int) = (n : Int) := by rw [IntKind.wrap_u64]; omega
  have e2 : IntKind.u64.wrap (l.length : Int) = (l.length : Int) := by rw [IntKind.wrap_u64]; have := hmx; simp [maxLen] at this; omega
  have d1 : decide ((l.length : Int) ≤ (n : Int)) = false := by simp; omega
  have d2 : decide (l.length ≤ n) = false := by simp; omega
  have d3 : decide (n < l.length) = true := by simp; omega
  have d4 : decide ((n : Int) < (l.length : Int)) = true := by simp; omega
  have d5 : (n : Int) < (l.length : Int) := by omega
  have hxl := lt_of_cell x1
  clear h hE hp
  go_enter Tryz.func64, Tryz.ntmps64
  go_wp2_with fail
  refine bodyPost_ret (v := .tuple #[.int .i64 p, .int .i64 0]) (by simp [results, Tryz.results64, go_sem]) rfl ?_
  exact ⟨rfl, (by repeat (first | with_reducible exact .refl _ | refine .alloc ?_ _ | refine .set ?_ (by simp) _ | refine .drewN ?_ _ | refine .drew ?_))⟩
theorem atI_any {w : World} {v : Value} {l : List Int} (h : LI w v l) {n : Nat} (h32 : n < 4294967296) :
    Calls Tryz.prog 64 #[v, .int .u32 (n : Int)] w fun en w' => ∃ (p : Int) (e : Int), en = .returned (.tuple #[.int .i64 p, .int .i64 e]) ∧ (e = 0 ∨ e = 150) ∧ Grew w w' := by
  by_cases hn : n < l.length
  · exact (atI_in h (List.getElem?_eq_getElem hn) h32).mono (fun en w' k => ⟨_, 0, k.1, Or.inl rfl, k.2⟩)
  · exact (atI_out h (by omega) h32).mono (fun en w' k => ⟨0, 150, k.1, Or.inr rfl, k.2⟩)
theorem atB_out {w : World} {v : Value} {l : List Bool} (h : LBo w v l) {n : Nat} (hn : l.length ≤ n) (h32 : n < 4294967296) :
    Calls Tryz.prog 65 #[v, .int .u32 (n : Int)] w fun en w' => en = .returned (.tuple #[.bool false, .int .i64 150]) ∧ Grew w w' := by
  obtain ⟨a, cap, hv, hle, hmx⟩ := h.one
  subst hv
  have e1 : IntKind.u64.wrap (n : Int) = (n : Int) := by rw [IntKind.wrap_u64]; omega
  have e2 : IntKind.u64.wrap (l.length : Int) = (l.length : Int) := by rw [IntKind.wrap_u64]; omega
  have d1 : decide ((l.length : Int) ≤ (n : Int)) = true := by simp; omega
  have d2 : decide (l.length ≤ n) = true := by simp; omega
  clear h
  go_enter Tryz.func65, Tryz.ntmps65
  go_wp2_with fail
  refine bodyPost_ret (v := .tuple #[.bool false, .int .i64 150]) (by simp [results, Tryz.results65, go_sem]) rfl ?_
  exact ⟨rfl, (by repeat (first | with_reducible exact .refl _ | refine .alloc ?_ _ | refine .set ?_ (by simp) _ | refine .drewN ?_ _ | refine .drew ?_))⟩
theorem atB_in {w : World} {v : Value} {l : List Bool} (h : LBo w v l) {n : Nat} {p : Bool} (hp : l[n]? = some p) (h32 : n < 4294967296) :
    Calls Tryz.prog 65 #[v, .int .u32 (n : Int)] w fun en w' => en = .returned (.tuple #[.bool p, .int .i64 0]) ∧ Grew w w' := by
  obtain ⟨a, cap, hv, hle, hmx⟩ := h.one
  subst hv
  have hn := (List.getElem?_eq_some_iff.1 hp).1
  obtain ⟨b, off, ha, hc, hE⟩ := h.get (by omega)
  subst ha
  have x0 := hE n p hp
  unfold EBo at x0
  have x1 : w.cell? ⟨b, off + n, none⟩ = some (.bool p) := by simpa using x0
  have e1 : IntKind.u64.wrap (n : Int) = (n : Int) := by rw [IntKind.wrap_u64]; omega
  have e2 : IntKind.u64.wrap (l.length : Int) = (l.length : Int) := by rw [IntKind.wrap_u64]; have := hmx; simp [maxLen] at this; omega
  have d1 : decide ((l.length : Int) ≤ (n : Int)) = false := by simp; omega
  have d2 : decide (l.length ≤ n) = false := by simp; omega
  have d3 : decide (n < l.length) = true := by simp; omega
  have d4 : decide ((n : Int) < (l.length : Int)) = true := by simp; omega
  have d5 : (n : Int) < (l.length : Int) := by omega
  have hxl := lt_of_cell x1
  clear h hE hp
  go_enter Tryz.func65, Tryz.ntmps65
  go_wp2_with fail
  refine bodyPost_ret (v := .tuple #[.bool p, .int .i64 0]) (by simp [results, Tryz.results65, go_sem]) rfl ?_
  exact ⟨rfl, (by repeat (first | with_reducible exact .refl _ | refine .alloc ?_ _ | refine .set ?_ (by simp) _ | refine .drewN ?_ _ | refine .drew ?_))⟩
theorem atB_any {w : World} {v : Value} {l : List Bool} (h : LBo w v l) {n : Nat} (h32 : n < 4294967296) :
    Calls Tryz.prog 65 #[v, .int .u32 (n : Int)] w fun en w' => ∃ (p : Bool) (e : Int), en = .returned (.tuple #[.bool p, .int .i64 e]) ∧ (e = 0 ∨ e = 150) ∧ Grew w w' := by
  by_cases hn : n < l.length
  · exact (atB_in h (List.getElem?_eq_getElem hn) h32).mono (fun en w' k => ⟨_, 0, k.1, Or.inl rfl, k.2⟩)
  · exact (atB_out h (by omega) h32).mono (fun en w' k => ⟨false, 150, k.1, Or.inr rfl, k.2⟩)
theorem function1_z (F : FRS B C w) (hc : CTX w cx TT FL EL RB dt) {X : World} (g : Grew w X) {p q : Nat} {es : Array Value} (hx : X.heap[p]? = some (.cells cx 30 (0, 0))) (hq : X.heap[q]? = some (.cells es 52 (0, 0))) {n : Nat} (h32 : n < 4294967296) (h1 : es[1]? = some (.int .u32 (n : Int))) : Calls Tryz.prog 63 #[.pointer (some ⟨C, 0, none⟩), .pointer (some ⟨p, 0, none⟩), .pointer (some ⟨q, 0, none⟩)] X (Z6 B X) := by
  obtain ⟨fv, hf, hfl⟩ := hc.funcs
  obtain ⟨rv, hr, hrl⟩ := hc.refs
  have CF : Hid (∀ Y, Grew X Y → Calls Tryz.prog 64 #[fv, .int .u32 (n : Int)] Y fun en w' => ∃ (p : Int) (e : Int), en = .returned (.tuple #[.int .i64 p, .int .i64 e]) ∧ (e = 0 ∨ e = 150) ∧ Grew Y w') := fun Y gy => atI_any (hfl.grew (g.trans gy)) h32
  have CR : Hid (∀ Y, Grew X Y → Calls Tryz.prog 65 #[rv, .int .u32 (n : Int)] Y fun en w' => ∃ (p : Bool) (e : Int), en = .returned (.tuple #[.bool p, .int .i64 e]) ∧ (e = 0 ∨ e = 150) ∧ Grew Y w') := fun Y gy => atB_any (hrl.grew (g.trans gy)) h32
  have CA : Hid (∀ (b : Bool) (h : Int) Y, Calls Tryz.prog 33 #[.bool b, .int .i64 h] Y fun en w' => en = .returned (.agg #[.int .i64 5, .bool b, .int .i64 h]) ∧ Grew Y w') := abs_any
  have CS : Hid (∀ Y (tn th : Int) (tz : Bool), Grew X Y → Calls Tryz.prog 60 #[.pointer (some ⟨C, 0, none⟩), .agg #[.int .i64 tn, .bool tz, .int .i64 th]] Y (Z6T B C Y)) := fun Y a b c gy => F.push Y a b c (g.trans gy)
  have HB := Hid.mk' (Nat.le_trans F.hB g.2)
  obtain ⟨fa, fc, e1, _⟩ := hfl.one
  subst e1
  obtain ⟨ra, rc, e1, _⟩ := hrl.one
  subst e1
  have q1 := (cell_of hq 1).trans h1
  have p1 := (cell_of hx 1).trans hf
  have p8 := (cell_of hx 8).trans hr
  have lq := lt_of_cell q1
  have lp := lt_of_cell p1
  have GP : Hid (Grew X X) := Grew.refl X
  clear F hc g hx hq h1 hfl hrl hf hr
  go_enter Tryz.func63, Tryz.ntmps63
  go_wp2_with fail
  refine (CF.out _ (Grew.refl X)).mono ?_
  rintro en w1 ⟨t, e, rfl, he, g1⟩
  have q11 := cell_grew q1 g1
  have p11 := cell_grew p1 g1
  have p81 := cell_grew p8 g1
  have lq1 := lt_of_cell q11
  have lp1 := lt_of_cell p11
  clear GP
  have GP := Hid.mk' g1
  have HE := Hid.mk' he
  clear g1 he CF q1 p1 p8 lq lp
  by_cases h0 : e = 0
  · subst h0
    go_wp2_with fail
    refine (CR.out _ GP.out).mono ?_
    rintro en w2 ⟨m, e2, rfl, _, g2⟩
    have gx := GP.out.trans g2
    clear GP
    have GP := Hid.mk' gx
    clear gx g2 CR q11 p11 p81 lq1 lp1
    cases m
    · go_wp2_with fail
      go_ret
      exact ⟨_, rfl, by decide, Grew.kb (by repeat (first | with_reducible exact GP.out | with_reducible exact .refl _ | refine .alloc ?_ _ | refine .set ?_ (by first | (simp; done) | (have := GP.out.2; simp; omega)) _ | refine .drewN ?_ _ | refine .drew ?_)) HB.out⟩
    · go_wp2_with fail
      refine (CA.out _ _ _).mono ?_
      rintro en w3 ⟨rfl, g3⟩
      have gx : Grew X w3 := Grew.trans (by repeat (first | with_reducible exact GP.out | with_reducible exact .refl _ | refine .alloc ?_ _ | refine .set ?_ (by first | (simp; done) | (have := GP.out.2; simp; omega)) _ | refine .drewN ?_ _ | refine .drew ?_)) g3
      clear GP
      have GP := Hid.mk' gx
      clear gx g3
      go_wp2_with fail
      refine (CS.out _ _ _ _ GP.out).mono ?_
      rintro en w4 ⟨e9, rfl, he9, k9, _⟩
      have K9 := Hid.mk' ((Grew.kb GP.out HB.out).trans k9)
      have H9 := Hid.mk' he9
      clear he9 k9 CS
      go_wp2_with fail
      go_ret
      exact ⟨_, rfl, H9.out, K9.out⟩
  · have e1 : (e == 0) = false := by rw [beq_eq_false_iff_ne]; exact h0
    have H6 : Hid (e ≠ 6) := by
      show e ≠ 6
      have := HE.out
      omega
    clear h0
    go_wp2_with fail
    go_ret
    exact ⟨_, rfl, H6.out, Grew.kb (by repeat (first | with_reducible exact GP.out | with_reducible exact .refl _ | refine .alloc ?_ _ | refine .set ?_ (by first | (simp; done) | (have := GP.out.2; simp; omega)) _ | refine .drewN ?_ _ | refine .drew ?_)) HB.out⟩
end
end Go.Proofs.YtnmbniojejckpaaGreatDoor
