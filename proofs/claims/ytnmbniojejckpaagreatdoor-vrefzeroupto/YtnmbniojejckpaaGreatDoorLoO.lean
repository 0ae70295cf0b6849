/-
  stack's localsOf; no statement is proved here.
-/
import Derived.Test.YtnmbniojejckpaaGreatDoorTy
import Derived.Deep.RegionHeld3
import Derived.Laws.MakeOwn
import Derived.OwnWalk
set_option maxRecDepth 100000
set_option maxHeartbeats 8000000
namespace Go.Proofs.YtnmbniojejckpaaGreatDoor
open Go.RowKit
set_option linter.unusedVariables false
set_option linter.unusedSimpArgs false
def defBk (x : VT) : Bool := if x.num = 5 then x.null else decide (x.num = 1 ∨ x.num = 2 ∨ x.num = 3 ∨ x.num = 4 ∨ x.num = 6 ∨ x.num = 7)
theorem default_any (n h : Int) (z : Bool) (w : World) : Calls Tryz.prog 55 #[.agg #[.int .i64 n, .bool z, .int .i64 h]] w fun en w' => en = .returned (.bool (defBk ⟨n, z, h⟩)) ∧ Grew w w' := by
  unfold defBk
  simp only
  by_cases h5 : n = 5
  · subst h5
    rw [if_pos rfl]
    go_enter Tryz.func55, Tryz.ntmps55
    go_wp2_with fail
    go_ret
    exact ⟨rfl, by repeat (first | exact Grew.refl _ | refine Grew.alloc ?_ _)⟩
  rw [if_neg h5]
  by_cases h1 : n = 1
  · subst h1
    go_enter Tryz.func55, Tryz.ntmps55
    go_wp2_with fail
    go_ret
    exact ⟨rfl, by repeat (first | exact Grew.refl _ | refine Grew.alloc ?_ _)⟩
  by_cases h2 : n = 2
  · subst h2
    go_enter Tryz.func55, Tryz.ntmps55
    go_wp2_with fail
    go_ret
    exact ⟨rfl, by repeat (first | exact Grew.refl _ | refine Grew.alloc ?_ _)⟩
  by_cases h3 : n = 3
  · subst h3
    go_enter Tryz.func55, Tryz.ntmps55
    go_wp2_with fail
    go_ret
    exact ⟨rfl, by repeat (first | exact Grew.refl _ | refine Grew.alloc ?_ _)⟩
  by_cases h4 : n = 4
  · subst h4
    go_enter Tryz.func55, Tryz.ntmps55
    go_wp2_with fail
    go_ret
    exact ⟨rfl, by repeat (first | exact Grew.refl _ | refine Grew.alloc ?_ _)⟩
  by_cases h6 : n = 6
  · subst h6
    go_enter Tryz.func55, Tryz.ntmps55
    go_wp2_with fail
    go_ret
    exact ⟨rfl, by repeat (first | exact Grew.refl _ | refine Grew.alloc ?_ _)⟩
  by_cases h7 : n = 7
  · subst h7
    go_enter Tryz.func55, Tryz.ntmps55
    go_wp2_with fail
    go_ret
    exact ⟨rfl, by repeat (first | exact Grew.refl _ | refine Grew.alloc ?_ _)⟩
  have e : decide (n = 1 ∨ n = 2 ∨ n = 3 ∨ n = 4 ∨ n = 6 ∨ n = 7) = false := by simp [h1, h2, h3, h4, h6, h7]
  rw [e]
  have d1 : (n == 1) = false := by simpa using h1
  have d2 : (n == 2) = false := by simpa using h2
  have d3 : (n == 3) = false := by simpa using h3
  have d4 : (n == 4) = false := by simpa using h4
  have d5 : (n == 5) = false := by simpa using h5
  have d6 : (n == 6) = false := by simpa using h6
  have d7 : (n == 7) = false := by simpa using h7
  go_enter Tryz.func55, Tryz.ntmps55
  go_wp2_with fail
  go_ret
  exact ⟨rfl, by repeat (first | exact Grew.refl _ | refine Grew.alloc ?_ _)⟩
theorem step_callFk {f : Nat} {args : Array Value} {argTs : Array TypeId} {argOs : Array Operand} {R : Ending → World → Prop} {ops : Array Oper} {o : Oper} {a : Act} {w : World} {K : Act → World → Prop} {Q : Exit → Act → World → Prop} {E : Prop}
    (hop : o.op = .call { callee := .value (.func f), args := argOs, argTypes := argTs }) (hw : Region.wanted o (yielded ops a.tmps) = true) (hargs : argOs.map a.eval = args) (hf : (callFunc f args).run Tryz.prog w = .ok (.enter f args) w)
    (hc : Calls Tryz.prog f args w R) (h : ∀ e w', R e w' → (∃ u, e = .returned u ∧ K (a.put o.dst u) w') ∨ ∃ ch, e = .panicked ch ∧ Q (.panic ch) a w') :
    if Region.wanted o (yielded ops a.tmps) = true then Oper.wp Tryz.prog o a w K Q else E := by
  rw [if_pos hw]
  unfold Oper.wp
  subst hargs
  simp [execOp, hop, resolve, invoke, go_sem, hf, Oper.upon_enter]
  refine hc.mono ?_
  intro e w' he
  rcases h e w' he with ⟨u, rfl, hk⟩ | ⟨ch, rfl, hk⟩
  · exact hk
  · exact hk
/- An append of one element inside a region that draws. -/
theorem step_app1k {ops : Array Oper} {o : Oper} {a : Act} {w : World} {K : Act → World → Prop} {Q : Exit → Act → World → Prop} {E : Prop} (hgd : o.guard = none) (s x : Operand) (t e : TypeId) (k bytes : Nat) (z : Value)
    (hu : Tryz.prog.underlying t = some (.slice e)) (hi : (Tryz.prog.info? e).map (fun i => (i.zero, i.size, i.bytes)) = some (some z, k, bytes)) (hz : z.cells.size = k) (hk : 0 < k) (hbt : bytes ≤ 1000)
    (ho : o.op = .call { callee := .builtin .append, args := #[s, x], argTypes := #[t, t] }) {B : Nat} {v : Value} {n : Nat} {cs new : List Value} {gx cp : Nat} (b : Nat)
    (hs : a.eval s = v) (hx : a.eval x = .slice (some ⟨gx, 0, none⟩) 1 cp) (hh : w.ownsRow B e k v n cs) (hB : B ≤ w.heap.size) (hsz : new.length = k) (hc : ∀ j, j < k → w.cell? ⟨gx, j, none⟩ = new[j]?) (h1 : ∀ u ∈ new, u.oneCell' = true) (hn : n ≤ 4194304)
    (h : ∀ v' w', w'.ownsRow B e k v' (n + 1) (cs ++ new) → TB b B w w' → (∀ x < w.heap.size, some x ≠ v.ownBlock → w'.heap[x]? = w.heap[x]?) → K (a.put o.dst v') w') :
    if Region.wanted o (yielded ops a.tmps) = true then Oper.wp Tryz.prog o a w K Q else E := by
  have hw : Region.wanted o (yielded ops a.tmps) = true := by simp [Region.wanted, hgd]
  rw [if_pos hw]
  obtain ⟨i0, hi0, hz0, hz1, hz2⟩ := info_parts hi
  refine wp_append_own _ s x t ho B e i0 z k bytes hu hi0 hz0 hz1 hz2 hz hk v n cs hs hh ⟨gx, 0, none⟩ 1 cp new hx (by omega) ?_ h1 (by unfold maxLen; omega) ?_ hB ?_
  · intro j u hj
    have hjl := (List.getElem?_eq_some_iff.1 hj).1
    have e1 : (Addr.add ⟨gx, 0, none⟩ j) = ⟨gx, j, none⟩ := by unfold Addr.add; split <;> simp_all
    rw [e1, hc j (by omega)]
    exact hj
  · have : (n + 1) * bytes ≤ 4194305 * 1000 := Nat.mul_le_mul (by omega) hbt
    omega
  · intro v' w' ho' hg' _
    exact h v' w' ho' (own_turn hh hg') (fun x hx hne => hg'.block x hx hne)
structure LO where
  kind : VT
  set : Bool
def LO.c (x : LO) : List Value := [.int .i64 x.kind.num, .bool x.kind.null, .int .i64 x.kind.heap, .bool x.set]
theorem infoLo : (Tryz.prog.info? 114).map (fun i => (i.zero, i.size, i.bytes)) = some (some (.agg #[.int .i64 0, .bool false, .int .i64 0, .bool false]), 4, 32) := by kernel_rfl
def RowLo (B : Nat) (w : World) (v : Value) (l : List LO) : Prop := w.ownsRow B 114 4 v l.length (l.flatMap LO.c)
theorem RowLo.snoc {B : Nat} {w : World} {v : Value} {l : List LO} {a : LO} (h : w.ownsRow B 114 4 v (l.length + 1) (l.flatMap LO.c ++ a.c)) : RowLo B w v (l ++ [a]) := by
  unfold RowLo
  rw [List.length_append, List.flatMap_append]
  simpa using h
theorem RowLo.grew {B : Nat} {w w' : World} {v : Value} {l : List LO} (h : RowLo B w v l) (g : Grew w w') : RowLo B w' v l := row_grew h g
theorem call_default (p : Value) (w : World) : (callFunc 55 #[p]).run Tryz.prog w = .ok (.enter 55 #[p]) w := by kernel_rfl
theorem step_default {ops : Array Oper} {o : Oper} {a : Act} {w : World} {K : Act → World → Prop} {Q : Exit → Act → World → Prop} {E : Prop} (x : Operand) (n h : Int) (z d : Bool) (hd : Hid (defBk ⟨n, z, h⟩ = d))
    (hop : o.op = .call { callee := .value (.func 55), args := #[x], argTypes := #[46] }) (hg : o.guard = none) (hx : a.eval x = .agg #[.int .i64 n, .bool z, .int .i64 h])
    (hk : ∀ w', Grew w w' → K (a.put o.dst (.bool d)) w') :
    if Region.wanted o (yielded ops a.tmps) = true then Oper.wp Tryz.prog o a w K Q else E :=
  step_callFk hop (by simp [Region.wanted, hg]) (args := #[.agg #[.int .i64 n, .bool z, .int .i64 h]]) (by simp [hx]) (call_default _ w) (default_any n h z w) (by rintro e w' ⟨rfl, g⟩; refine Or.inl ⟨_, rfl, ?_⟩; have := hk w' g; rw [← hd.out] at this; exact this)
def locs (P Q : List VT) : List LO := P.map (fun v => ⟨v, true⟩) ++ Q.map (fun v => ⟨v, defBk v⟩)
theorem take_snock {α : Type} {x : List α} {i : Nat} {y : α} (h : x[i]? = some y) : x.take (i + 1) = x.take i ++ [y] := by
  rw [List.take_add_one, h]; rfl
theorem grown_grew {w0 w w' : World} (h : w.grownBy w' none) (g : Grew w0 w) : Grew w0 w' :=
  ⟨⟨h.os.trans g.1.os, h.tape.trans g.1.tape, h.output.trans g.1.output, Nat.le_trans g.2 h.size, fun k hk => (h.block k (Nat.lt_of_lt_of_le hk g.2) (by simp)).trans (g.1.block k hk)⟩, Nat.le_trans g.2 h.size⟩
theorem localsOf_any {w : World} {pv lv : Value} {P Q : List VT} (hP : LV w pv P) (hQ : LV w lv Q) (hn : P.length + Q.length ≤ 1048576) :
    Calls Tryz.prog 20 #[pv, lv] w fun en w' => ∃ u, en = .returned u ∧ RowLo w.heap.size w' u (locs P Q) ∧ Grew w w' := by
  obtain ⟨pa, pc, hpv, _, _⟩ := hP.one
  obtain ⟨qa, qc, hqv, _, _⟩ := hQ.one
  subst hpv hqv
  have HP : Hid (LV w (.slice pa P.length pc) P) := hP
  have HQ : Hid (LV w (.slice qa Q.length qc) Q) := hQ
  have CD := default_any
  have hsum : IntKind.i64.wrap ((P.length : Int) + (Q.length : Int)) = ((P.length + Q.length : Nat) : Int) := by rw [IntKind.wrap_i64]; omega
  clear hP hQ
  obtain ⟨i0, hi0, hz0, hz1, hz2⟩ := info_parts infoLo
  go_enter Tryz.func20, Tryz.ntmps20
  go_wp2_with (at_make; refine wpList_make_own _ rfl _ _ 54 rfl w.heap.size 114 i0 _ 4 Tryz.underlying54 hi0 hz0 hz1 .i64 .i64 _ (P.length + Q.length) rfl rfl (by simp [go_sem]) (by rw [hz2]; omega) (by unfold maxLen; omega) (Nat.le_refl _) ?_; intro w2 hO2 hg2)
  have G2 : Hid (Grew w w2) := grown_grew hg2 (Grew.refl w)
  have R2 : Hid (RowLo w.heap.size w2 (.slice (some ⟨w.heap.size, 0, none⟩) 0 (P.length + Q.length)) []) := hO2
  clear hg2 hO2 hi0 hz0 hz1 hz2
  go_loopw [5, 18] (fun v_ i_ w' => ∃ (i : Nat) (m : List LO), i_ = .int .i64 i ∧ i ≤ P.length ∧ Hid (m = (P.take i).map (fun v => ⟨v, true⟩)) ∧ m.length ≤ i ∧ Hid (RowLo w.heap.size w' v_ m) ∧ Hid (Grew w w')) (fun _ i_ _ => P.length - (intOf i_).toNat)
  case atStart => exact ⟨0, [], rfl, Nat.zero_le _, rfl, by simp, R2, G2⟩
  case round =>
    clear R2 G2
    obtain ⟨i, m, rfl, hi, HM, hml, R, G⟩ := hrel
    obtain ⟨w0, hw0⟩ : ∃ w0, w0 = wr := ⟨_, rfl⟩
    rw [← hw0] at G R ⊢
    clear hw0
    obtain ⟨ra, rc, hra, hrc, hrm, _⟩ := row_max R.out
    subst hra
    by_cases hlt : i < P.length
    · obtain ⟨x, hx⟩ : ∃ x, P[i]? = some x := ⟨_, List.getElem?_eq_getElem hlt⟩
      obtain ⟨b, off, ha, hc', hE⟩ := (HP.out.grew G.out).get (by omega)
      subst ha
      obtain ⟨c0, c1, c2⟩ := hE i x hx
      clear hE
      have d1 : decide ((i : Int) < (P.length : Int)) = true := by simp; omega
      have d2 : decide (i < P.length) = true := by simp; omega
      have HN : Hid ((P.take (i + 1)).map (fun v => (⟨v, true⟩ : LO)) = m ++ [⟨x, true⟩]) := (by rw [HM.out, take_snock hx, List.map_append]; rfl : (P.take (i + 1)).map (fun v => (⟨v, true⟩ : LO)) = m ++ [⟨x, true⟩])
      obtain ⟨tn, tz, th⟩ := x
      simp only at c0 c1 c2
      have gg : Grew w0 (w0.alloc (.cells #[.int .i64 tn, .bool tz, .int .i64 th] 46)) := (Grew.refl w0).alloc _
      have R1 : Hid (RowLo w.heap.size (w0.alloc (.cells #[.int .i64 tn, .bool tz, .int .i64 th] 46)) (.slice ra m.length rc) m) := R.out.grew gg
      have G1 : Hid (Grew w (w0.alloc (.cells #[.int .i64 tn, .bool tz, .int .i64 th] 46))) := G.out.trans gg
      have hgs := G1.out.2
      clear gg R hx
      go_wp2_with (at_builtin; refine wp_app1 (v := .slice ra m.length rc) (n := m.length) (cs := m.flatMap LO.c) (B := w.heap.size) rfl _ _ 54 114 4 32 _ Tryz.underlying54 infoLo rfl (by decide) (by decide) rfl w.heap.size rfl (by rw [alloc_size]; rfl) R1.out hgs rfl (by simp [Value.oneCell']) (by omega) ?_; intro v3 w3 hO3 hT3 hG3)
      go_roundw
      case rel => exact ⟨i + 1, m ++ [(⟨⟨tn, tz, th⟩, true⟩ : LO)], by go_num, by omega, HN.out.symm, by simp; omega, RowLo.snoc (a := ⟨⟨tn, tz, th⟩, true⟩) hO3, hT3.grew' G1.out (Nat.le_refl _) (Nat.le_refl _)⟩
      case measure => simp [intOf]; omega
    · have d1 : decide ((i : Int) < (P.length : Int)) = false := by simp; omega
      have hin : P.take i = P := List.take_of_length_le (by omega)
      have hM : m = P.map (fun v => ⟨v, true⟩) := by rw [HM.out, hin]
      have hmP : m.length = P.length := by rw [hM]; simp
      have HM2 : Hid (m = P.map (fun v => ⟨v, true⟩)) := hM
      clear HM hM hin
      go_wp2_with fail
      go_loopw [5, 30] (fun v_ i_ w' => ∃ (j : Nat) (k : List LO), i_ = .int .i64 j ∧ j ≤ Q.length ∧ Hid (k = m ++ (Q.take j).map (fun v => ⟨v, defBk v⟩)) ∧ k.length ≤ P.length + j ∧ Hid (RowLo w.heap.size w' v_ k) ∧ Hid (Grew w w')) (fun _ i_ _ => Q.length - (intOf i_).toNat)
      case atStart => exact ⟨0, m, rfl, Nat.zero_le _, by simp [Hid], by omega, R, G⟩
      case round =>
        clear R G
        obtain ⟨j, k, rfl, hj, HK, hkl, R, G⟩ := hrel
        obtain ⟨w4, hw4⟩ : ∃ w4, w4 = wr := ⟨_, rfl⟩
        rw [← hw4] at G R ⊢
        clear hw4
        obtain ⟨qa', qc', hqa, hqc, hqm, _⟩ := row_max R.out
        subst hqa
        by_cases hlt2 : j < Q.length
        · obtain ⟨x, hx⟩ : ∃ x, Q[j]? = some x := ⟨_, List.getElem?_eq_getElem hlt2⟩
          obtain ⟨b, off, ha, hc', hE⟩ := (HQ.out.grew G.out).get (by omega)
          subst ha
          obtain ⟨c0, c1, c2⟩ := hE j x hx
          clear hE
          have e1 : decide ((j : Int) < (Q.length : Int)) = true := by simp; omega
          have e2 : decide (j < Q.length) = true := by simp; omega
          have HN : Hid (m ++ (Q.take (j + 1)).map (fun v => (⟨v, defBk v⟩ : LO)) = k ++ [⟨x, defBk x⟩]) := (by rw [HK.out, take_snock hx, List.map_append, List.append_assoc]; rfl : m ++ (Q.take (j + 1)).map (fun v => (⟨v, defBk v⟩ : LO)) = k ++ [⟨x, defBk x⟩])
          obtain ⟨d, hd⟩ : ∃ d, defBk x = d := ⟨_, rfl⟩
          rw [hd] at HN
          have HD : Hid (defBk x = d) := hd
          obtain ⟨tn, tz, th⟩ := x
          simp only at c0 c1 c2
          clear hx hd
          go_wp2_with fail
          have G0 : Hid (Grew w (w4.alloc (.cells #[.int .i64 tn, .bool tz, .int .i64 th] 46))) := G.out.alloc _
          have A0 : Hid ((w4.alloc (.cells #[.int .i64 tn, .bool tz, .int .i64 th] 46)).heap[w4.heap.size]? = some (.cells #[.int .i64 tn, .bool tz, .int .i64 th] 46 (0, 0))) := heap_alloc_last _ _
          have R0 : Hid (RowLo w.heap.size (w4.alloc (.cells #[.int .i64 tn, .bool tz, .int .i64 th] 46)) (.slice qa' k.length qc') k) := R.out.grew ((Grew.refl _).alloc _)
          generalize (w4.alloc (.cells #[.int .i64 tn, .bool tz, .int .i64 th] 46)) = W at *
          have k0 := cell_of A0.out 0
          have k1 := cell_of A0.out 1
          have k2 := cell_of A0.out 2
          simp at k0 k1 k2
          have hk : w4.heap.size < W.heap.size := lt_of_obj A0.out
          go_region_held3 (fun w' => w'.cell? ⟨w4.heap.size, 0, none⟩ = some (.int .i64 tn) ∧ w'.cell? ⟨w4.heap.size, 1, none⟩ = some (.bool tz) ∧ w'.cell? ⟨w4.heap.size, 2, none⟩ = some (.int .i64 th)) (go_keep)
            (first
            | (refine step_default (.tmp 36) tn th tz d HD rfl rfl rfl ?_
               intro w6 g6
               have g6' : Grew W w6 := (by first | exact g6 | exact ((Grew.refl _).drew).trans g6 | exact ((Grew.refl _).drewN _).trans g6)
               have j0 := cell_grew k0 g6'
               have j1 := cell_grew k1 g6'
               have j2 := cell_grew k2 g6'
               have R6 : Hid (RowLo w.heap.size w6 (.slice qa' k.length qc') k) := R0.out.grew g6'
               have A6 : Hid (w6.heap[w4.heap.size]? = some (.cells #[.int .i64 tn, .bool tz, .int .i64 th] 46 (0, 0))) := (g6'.turn []).other A0.out (by simp)
               have G6w : Hid (Grew w w6) := G0.out.trans g6'
               have hgs : w.heap.size ≤ w6.heap.size := G6w.out.2
               clear g6 g6')
            | (refine step_app1k (v := .slice qa' k.length qc') (n := k.length) (cs := k.flatMap LO.c) (B := w.heap.size) (new := LO.c ⟨⟨tn, tz, th⟩, d⟩) rfl _ _ 54 114 4 32 _ Tryz.underlying54 infoLo rfl (by decide) (by decide) rfl w.heap.size rfl rfl (row_grew R6.out ((Grew.refl _).alloc _)) (by simp; omega) rfl ?_ (by simp [LO.c, Value.oneCell']) (by omega) ?_
               · intro j hj
                 rw [cell_of (heap_alloc_last _ _)]
                 match j, hj with
                 | 0, _ => rfl
                 | 1, _ => rfl
                 | 2, _ => rfl
                 | 3, _ => rfl
               intro v3 w3 hO3 hT3 hG3
               have A3 := (hG3 w4.heap.size (by have := lt_of_obj A6.out; simp; omega) (fun hh => by have := (World.ownsRow.lt R.out _ hh.symm).2; omega)).trans (heap_alloc A6.out _)
               have j0' := cell_of A3 0
               have j1' := cell_of A3 1
               have j2' := cell_of A3 2
               simp at j0' j1' j2'
               ))
          all_goals
            go_wp2_with fail
            go_roundw
            case rel => exact ⟨j + 1, k ++ [(⟨⟨tn, tz, th⟩, d⟩ : LO)], by go_num, by omega, HN.out.symm, by simp; omega, RowLo.snoc (a := ⟨⟨tn, tz, th⟩, d⟩) hO3, hT3.grew' (G6w.out.alloc _) (Nat.le_refl _) (Nat.le_refl _)⟩
            case measure => simp [intOf]; omega
        · have e1 : decide ((j : Int) < (Q.length : Int)) = false := by simp; omega
          have hin : Q.take j = Q := List.take_of_length_le (by omega)
          have e : locs P Q = k := by rw [HK.out, hin, HM2.out]; rfl
          go_wp2_with fail
          go_ret
          exact ⟨_, rfl, by rw [e]; exact R.out, G.out⟩
end Go.Proofs.YtnmbniojejckpaaGreatDoor
