/-
  The program's writer of numbers; no statement is proved here.
-/
import Derived.Test.YtojkonoffdlbpaaDoorCRu
import Derived.Test.YtojkonoffdlbpaaDoorCLib
import Derived.Lib.ItoaLen
import Derived.Lib.OthersKept
namespace Go.Proofs.YtojkonoffdlbpaaDoor
open Go.RowKit
set_option linter.unusedVariables false
set_option linter.unusedSimpArgs false

theorem infoB : (Tryd.prog.info? 5).map (fun i => (i.zero, i.size, i.bytes)) = some (some (.int .u8 0), 1, 1) := by kernel_rfl
/- One byte more. -/
theorem wp_app8 {w : World} {ops : Array Oper} {rest : List Oper} {o : Oper} {a : Act} {Q : Exit → Act → World → Prop} (hgd : o.guard = none) (s x : Operand) (t : TypeId)
    (hu : Tryd.prog.underlying t = some (.slice 5))
    (ho : o.op = .call { callee := .builtin .append, args := #[s, x], argTypes := #[t, t] }) {B : Nat} {v : Value} {n : Nat} {cs : List Value} {new : Array Value} {t' : TypeId}
    (hs : a.eval s = v) (hx : a.eval x = .slice (some ⟨w.heap.size, 0, none⟩) 1 1) (hh : w.ownsRow B 5 1 v n cs) (hB : B ≤ w.heap.size) (hsz : new.size = 1) (h1 : ∀ u ∈ new.toList, u.oneCell' = true) (hn : n ≤ 140737488000000)
    (h : ∀ v' w', w'.ownsRow B 5 1 v' (n + 1) (cs ++ new.toList) → (w.alloc (.cells new t')).grownBy w' v.ownBlock → wpList Tryd.prog ops Q rest (a.put o.dst v') w') :
    wpList Tryd.prog ops Q (o :: rest) a (w.alloc (.cells new t')) := by
  obtain ⟨i0, hi0, hz0, hz1, hz2⟩ := info_parts infoB
  refine wpList_append_own _ hgd s x t ho B 5 i0 (.int .u8 0) 1 1 hu hi0 hz0 hz1 hz2 rfl (by decide) v n cs hs (hh.alloc _) ⟨w.heap.size, 0, none⟩ 1 1 new.toList hx (by simp [hsz]) ?_ h1 (by unfold maxLen; omega) ?_ (by simp; omega) ?_
  · intro j u hj
    have e : (Addr.add ⟨w.heap.size, 0, none⟩ j) = ⟨w.heap.size, j, none⟩ := by unfold Addr.add; split <;> simp_all
    rw [e, cell_of (heap_alloc_last w _), ← Array.getElem?_toList]
    exact hj
  · omega
  · intro v' w' ho' hg _
    exact h v' w' ho' hg
/- What is kept while the writer writes. -/
def WrT (wb B : Nat) (w w' : World) : Prop := Below B w w' ∧ Lib.OthersKept 5 (some wb) w w' ∧ w.heap.size ≤ w'.heap.size
theorem WrT.refl (wb B : Nat) (w : World) : WrT wb B w w := ⟨Below.refl _ _, Lib.OthersKept.refl _ _ _, Nat.le_refl _⟩
theorem WrT.trans {wb B : Nat} {a b c : World} (h : WrT wb B a b) (k : WrT wb B b c) : WrT wb B a c := ⟨h.1.trans k.1, h.2.1.trans k.2.1, Nat.le_trans h.2.2 k.2.2⟩
theorem WrT.of_grew {wb B : Nat} {w w' : World} (g : Grew w w') (hB : B ≤ w.heap.size) : WrT wb B w w' := ⟨g.1.mono hB, fun k o hk _ _ => g.other hk, g.2⟩
theorem WrT.other {wb B : Nat} {w w' : World} (h : WrT wb B w w') {k : Nat} {cs : Array Value} {t : TypeId} {f : Nat × Nat} (hk : w.heap[k]? = some (.cells cs t f)) (hne : k ≠ wb) (ht : t ≠ 5) : w'.heap[k]? = some (.cells cs t f) :=
  h.2.1 k _ hk (by simpa using hne) (fun c fz hx => by injection hx with _ h2 _; exact ht h2)
/- The writer holds these bytes. -/
def Wr (wb B : Nat) (w : World) (cs : List Value) : Prop := ∃ v n, BX w wb 97 v ∧ w.ownsRow B 5 1 v n cs ∧ n ≤ 140737480000000 ∧ B ≤ wb ∧ Lib.TabBelow Tryd.prog B w "internal/strconv.uint64pow10" .u64 Lib.pow10Tab
def numC (n : Int) : List Value := Lib.byteCells (Lib.itoa n) ++ [.int .u8 32]
theorem num_keep {w1 w3 : World} {B m wb : Nat} {v u : Value} {cs : List Value} {o : Obj} (hO : w1.ownsRow B 5 1 v m cs) (hk : BX w1 wb 97 u) (g : (w1.alloc o).grownBy w3 v.ownBlock) : BX w3 wb 97 u := by
  have hlt := lt_of_obj hk
  refine (g.block wb (by simp; omega) (fun hx => ?_)).trans (heap_alloc hk _)
  obtain ⟨cur, hc⟩ := row_tag hO hx.symm
  unfold BX at hk
  rw [hk] at hc
  simp at hc
theorem num_turn {w1 w3 : World} {B m wb : Nat} {v : Value} {cs : List Value} {o : Obj} (hO : w1.ownsRow B 5 1 v m cs) (g : (w1.alloc o).grownBy w3 v.ownBlock) (hB : B ≤ w1.heap.size) : WrT wb B w1 w3 := by
  have hsz : w1.heap.size ≤ w3.heap.size := by have := g.size; simp at this; omega
  refine ⟨⟨g.os, g.tape, g.output, by omega, fun k hk => ?_⟩, fun k x hk _ hx => ?_, hsz⟩
  · rw [g.block k (by simp; omega) (fun hy => by have := (hO.lt k hy.symm).1; omega), Below.heap_alloc _ _ _ (by omega)]
  · have hlt := lt_of_obj hk
    rw [g.block k (by simp; omega) (fun hy => ?_), Below.heap_alloc _ _ _ hlt]
    · exact hk
    · obtain ⟨cur, hc⟩ := row_tag hO hy.symm
      rw [hk] at hc
      injection hc with hc
      exact hx _ _ hc
theorem num_set {w : World} {wb B : Nat} {u : Value} (hw : B ≤ wb) : WrT wb B w (w.setCell ⟨wb, 0, none⟩ u) := by
  refine ⟨⟨rfl, rfl, rfl, by simp [World.setCell], fun k hk => Below.heap_setCell _ _ _ _ (by simp; omega)⟩, fun k x hk hn _ => ?_, by simp [World.setCell]⟩
  rw [Below.heap_setCell _ _ _ _ (fun hx => hn (by simpa using hx))]
  exact hk
set_option maxRecDepth 100000 in
set_option maxHeartbeats 1000000 in
theorem number_any {w : World} {wb B m : Nat} {v : Value} {cs : List Value} {n : Int} (hb : BX w wb 97 v) (hr : w.ownsRow B 5 1 v m cs) (hw : B ≤ wb)
    (ht : Lib.TabBelow Tryd.prog B w "internal/strconv.uint64pow10" .u64 Lib.pow10Tab) (h0 : -9223372036854775808 ≤ n) (h1 : n ≤ 9223372036854775807) (hm : m ≤ 140737480000000) :
    Calls Tryd.prog 62 #[.pointer (some ⟨wb, 0, none⟩), .int .i64 n] w fun en w' => en = .returned UNIT ∧ (∃ v', BX w' wb 97 v' ∧ w'.ownsRow B 5 1 v' (m + (Lib.itoa n).length + 1) (cs ++ numC n)) ∧ Lib.TabBelow Tryd.prog B w' "internal/strconv.uint64pow10" .u64 Lib.pow10Tab ∧ WrT wb B w w' := by
  obtain ⟨a, cap, rfl, hcap, hmax, _⟩ := row_max hr
  have c0 := cell_of hb 0
  have hlt := lt_of_obj hb
  have z0 := free_of hb 0
  simp at c0
  have C := Tryd.strconv_AppendInt_10 B m n h0 h1 _ cs w hr (by omega) (by omega) ht
  have HB : Hid (BX w wb 97 (.slice a m cap)) := hb
  have HT : Hid (Lib.TabBelow Tryd.prog B w "internal/strconv.uint64pow10" .u64 Lib.pow10Tab) := ht
  have hil := Lib.itoa_length_le n h0 h1
  clear hb hr ht
  unfold UNIT
  go_enter Tryd.func62, Tryd.ntmps62
  go_wp2_with fail
  refine C.mono ?_
  rintro en w1 ⟨v1, rfl, hO, hBl, hOK⟩
  obtain ⟨a1, cap1, hv1, hcap1, hmax1, _⟩ := row_max hO
  generalize hL : m + (Lib.itoa n).length = m1 at *
  subst hv1
  have hB1 : B ≤ w1.heap.size := Nat.le_trans (by omega) hBl.size
  have K1 : BX w1 wb 97 (.slice a m cap) := hOK wb _ HB.out (by simp) (fun c fz hx => by injection hx with _ h2 _; exact absurd h2 (by decide))
  have HK : Hid (BX w1 wb 97 (.slice a m cap)) := K1
  have O1 : Hid (w1.ownsRow B 5 1 (.slice a1 m1 cap1) m1 (cs ++ Lib.byteCells (Lib.itoa n))) := hO
  have P1 : Hid (Below B w w1 ∧ Lib.OthersKept 5 none w w1) := ⟨hBl, hOK⟩
  have c1 := cell_of K1 0
  have z1 := free_of K1 0
  have hl1 := lt_of_obj K1
  simp at c1
  clear C hO hBl hOK K1
  go_wp2_with (at_builtin; refine wp_app8 (v := .slice a1 m1 cap1) (n := m1) (cs := cs ++ Lib.byteCells (Lib.itoa n)) (B := B) rfl _ _ 95 Tryd.underlying95 rfl rfl rfl O1.out hB1 rfl (by simp [Value.oneCell']) (by omega) ?_; intro v3 w3 hO3 hg3; obtain ⟨a3, cap3, hv3, _, _, _⟩ := row_max hO3; subst hv3; have K3 := num_keep O1.out HK.out hg3; have c3 := cell_of K3 0; have z3 := free_of K3 0; have hl3 := lt_of_obj K3; simp at c3)
  go_end0
  have T1 : WrT wb B w w1 := ⟨P1.out.1, fun k o hk hn ho => P1.out.2 k o hk (by simp) ho, P1.out.1.size⟩
  have T3 : WrT wb B w1 w3 := num_turn O1.out hg3 hB1
  have T4 : WrT wb B w3 (w3.setCell ⟨wb, 0, none⟩ (.slice a3 (m1 + 1) cap3)) := num_set hw
  have T := (T1.trans T3).trans T4
  refine ⟨rfl, ⟨_, heap_set K3 0 _, ?_⟩, HT.out.on T.1, T⟩
  have e : cs ++ numC n = cs ++ Lib.byteCells (Lib.itoa n) ++ [.int .u8 32] := by unfold numC; rw [List.append_assoc]
  rw [e]
  have nt : NoT w3 wb 5 := NoT.of (show w3.heap[wb]? = some (.cells #[.slice a m cap] 97 (0, 0)) from K3) (by decide)
  exact row_set (q := ⟨wb, 0, none⟩) hO3 nt _
end Go.Proofs.YtojkonoffdlbpaaDoor
