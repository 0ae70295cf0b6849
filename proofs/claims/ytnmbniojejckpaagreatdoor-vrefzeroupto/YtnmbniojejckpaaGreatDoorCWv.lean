/-
  The program's writer: flags, value types, fields; no statement is proved here.
-/
import Derived.Shelf.Strconv.AppendIntPublic10
import Derived.Test.YtnmbniojejckpaaGreatDoorProg
import Derived.Test.YtnmbniojejckpaaGreatDoorCRu
import Derived.Lib.ItoaLen
import Derived.Lib.OthersKept
set_option maxRecDepth 100000
set_option maxHeartbeats 8000000
namespace Go.Proofs
open Go.Shelf Go.RowKit Go.Sort Go.Lib
def Tryz.laysM176_ren : Go.Shelf.Ren := ⟨fun | 176 => 175 | 249 => 176 | 288 => 177 | 283 => 178 | 284 => 179 | 285 => 180 | 286 => 181 | 129 => 183 | 317 => 182 | 318 => 184 | 319 => 185 | 320 => 186 | 337 => 187 | 338 => 188 | n => n, fun | 37 => 215 | 2 => 2 | 3 => 3 | 53 => 42 | 4 => 4 | 9 => 9 | 171 => 237 | 0 => 0 | 173 => 240 | 212 => 243 | 51 => 41 | 5 => 5 | 20 => 20 | 213 => 244 | 46 => 160 | 232 => 247 | 233 => 248 | n => n, fun | 17 => 0 | 18 => 1 | 19 => 2 | n => n⟩
theorem Tryz.laysM176 : Go.Proofs.LaysM.n176 Tryz.prog Tryz.laysM176_ren := {
  mixed := by kernel_rfl
  f129 := Tryz.func183.trans (congrArg some (by kernel_rfl))
  f176 := Tryz.func175.trans (congrArg some (by kernel_rfl))
  f249 := Tryz.func176.trans (congrArg some (by kernel_rfl))
  f283 := Tryz.func178.trans (congrArg some (by kernel_rfl))
  f284 := Tryz.func179.trans (congrArg some (by kernel_rfl))
  f285 := Tryz.func180.trans (congrArg some (by kernel_rfl))
  f286 := Tryz.func181.trans (congrArg some (by kernel_rfl))
  f288 := Tryz.func177.trans (congrArg some (by kernel_rfl))
  f317 := Tryz.func182.trans (congrArg some (by kernel_rfl))
  f318 := Tryz.func184.trans (congrArg some (by kernel_rfl))
  f319 := Tryz.func185.trans (congrArg some (by kernel_rfl))
  f320 := Tryz.func186.trans (congrArg some (by kernel_rfl))
  f337 := Tryz.func187.trans (congrArg some (by kernel_rfl))
  f338 := Tryz.func188.trans (congrArg some (by kernel_rfl))
  t0 := Tryz.underlying0
  a0 := Tryz.isAgg0
  z0 := Tryz.sizeOf0
  v0 := Tryz.zeroValue0
  t2 := Tryz.underlying2
  a2 := Tryz.isAgg2
  z2 := Tryz.sizeOf2
  v2 := Tryz.zeroValue2
  t3 := Tryz.underlying3
  a3 := Tryz.isAgg3
  z3 := Tryz.sizeOf3
  v3 := Tryz.zeroValue3
  t4 := Tryz.underlying4
  a4 := Tryz.isAgg4
  z4 := Tryz.sizeOf4
  v4 := Tryz.zeroValue4
  t5 := Tryz.underlying5
  a5 := Tryz.isAgg5
  z5 := Tryz.sizeOf5
  v5 := Tryz.zeroValue5
  t9 := Tryz.underlying9
  a9 := Tryz.isAgg9
  z9 := Tryz.sizeOf9
  v9 := Tryz.zeroValue9
  t20 := Tryz.underlying20
  a20 := Tryz.isAgg20
  z20 := Tryz.sizeOf20
  v20 := Tryz.zeroValue20
  t37 := Tryz.underlying215
  a37 := Tryz.isAgg215
  z37 := Tryz.sizeOf215
  v37 := Tryz.zeroValue215
  t46 := Tryz.underlying160
  a46 := Tryz.isAgg160
  z46 := Tryz.sizeOf160
  v46 := Tryz.zeroValue160
  t51 := Tryz.underlying41
  a51 := Tryz.isAgg41
  z51 := Tryz.sizeOf41
  v51 := Tryz.zeroValue41
  t53 := Tryz.underlying42
  a53 := Tryz.isAgg42
  z53 := Tryz.sizeOf42
  v53 := Tryz.zeroValue42
  t171 := Tryz.underlying237
  a171 := Tryz.isAgg237
  z171 := Tryz.sizeOf237
  v171 := Tryz.zeroValue237
  t173 := Tryz.underlying240
  a173 := Tryz.isAgg240
  z173 := Tryz.sizeOf240
  v173 := Tryz.zeroValue240
  t212 := Tryz.underlying243
  a212 := Tryz.isAgg243
  z212 := Tryz.sizeOf243
  v212 := Tryz.zeroValue243
  t213 := Tryz.underlying244
  a213 := Tryz.isAgg244
  z213 := Tryz.sizeOf244
  t232 := Tryz.underlying247
  a232 := Tryz.isAgg247
  z232 := Tryz.sizeOf247
  v232 := Tryz.zeroValue247
  t233 := Tryz.underlying248
  a233 := Tryz.isAgg248
  z233 := Tryz.sizeOf248
  v233 := Tryz.zeroValue248
  g17 := by kernel_rfl
  g18 := by kernel_rfl
  g19 := by kernel_rfl
  i0 := by kernel_rfl
  i2 := by kernel_rfl
  i3 := by kernel_rfl
  i4 := by kernel_rfl
  i5 := by kernel_rfl
  i9 := by kernel_rfl
  i20 := by kernel_rfl
  i37 := by kernel_rfl
  i46 := by kernel_rfl
  i51 := by kernel_rfl
  i53 := by kernel_rfl
  i171 := by kernel_rfl
  i173 := by kernel_rfl
  i212 := by kernel_rfl
  i232 := by kernel_rfl
  i233 := by kernel_rfl
  m17 := by kernel_rfl
  m18 := by kernel_rfl
  m19 := by kernel_rfl }
theorem Tryz.strconv_AppendInt_10 (B n : Nat) (i : Int) (h0 : -9223372036854775808 ≤ i) (h1 : i ≤ 9223372036854775807) (sv : Value) (xs : List Value) (w : World) (hown : w.ownsRow B 5 1 sv n xs) (hBw : B ≤ w.heap.size) (hlim : n + 21 ≤ 140737488355328) (htab : Lib.TabBelow Tryz.prog B w "internal/strconv.uint64pow10" .u64 Lib.pow10Tab) :
    Calls Tryz.prog 175 #[sv, .int .i64 i, .int .i64 10] w fun e w' => ∃ v', e = .returned v' ∧ w'.ownsRow B 5 1 v' (n + (Lib.itoa i).length) (xs ++ Lib.byteCells (Lib.itoa i)) ∧ Below B w w' ∧ Lib.OthersKept 5 none w w' := Any.strconv_AppendInt_10 Tryz.laysM176 B n i h0 h1 sv xs w hown hBw hlim htab
end Go.Proofs
namespace Go.Proofs.YtnmbniojejckpaaGreatDoor
open Go.RowKit
set_option linter.unusedVariables false
set_option linter.unusedSimpArgs false
theorem infoB : (Tryz.prog.info? 5).map (fun i => (i.zero, i.size, i.bytes)) = some (some (.int .u8 0), 1, 1) := by kernel_rfl
/- One byte more. -/
theorem wp_app8 {w : World} {ops : Array Oper} {rest : List Oper} {o : Oper} {a : Act} {Q : Exit → Act → World → Prop} (hgd : o.guard = none) (s x : Operand) (t : TypeId)
    (hu : Tryz.prog.underlying t = some (.slice 5))
    (ho : o.op = .call { callee := .builtin .append, args := #[s, x], argTypes := #[t, t] }) {B : Nat} {v : Value} {n : Nat} {cs : List Value} {new : Array Value} {t' : TypeId}
    (hs : a.eval s = v) (hx : a.eval x = .slice (some ⟨w.heap.size, 0, none⟩) 1 1) (hh : w.ownsRow B 5 1 v n cs) (hB : B ≤ w.heap.size) (hsz : new.size = 1) (h1 : ∀ u ∈ new.toList, u.oneCell' = true) (hn : n ≤ 140737488000000)
    (h : ∀ v' w', w'.ownsRow B 5 1 v' (n + 1) (cs ++ new.toList) → (w.alloc (.cells new t')).grownBy w' v.ownBlock → wpList Tryz.prog ops Q rest (a.put o.dst v') w') :
    wpList Tryz.prog ops Q (o :: rest) a (w.alloc (.cells new t')) := by
  obtain ⟨i0, hi0, hz0, hz1, hz2⟩ := info_parts infoB
  refine wpList_append_own _ hgd s x t ho B 5 i0 (.int .u8 0) 1 1 hu hi0 hz0 hz1 hz2 rfl (by decide) v n cs hs (hh.alloc _) ⟨w.heap.size, 0, none⟩ 1 1 new.toList hx (by simp [hsz]) ?_ h1 (by unfold maxLen; omega) ?_ (by simp; omega) ?_
  · intro j u hj
    have e : (Addr.add ⟨w.heap.size, 0, none⟩ j) = ⟨w.heap.size, j, none⟩ := by unfold Addr.add; split <;> simp_all
    rw [e, cell_of (heap_alloc_last w _), ← Array.getElem?_toList]
    exact hj
  · omega
  · intro v' w' ho' hg _
    exact h v' w' ho' hg
/- What is kept while the writer writes. -/
def WrT (wb B : Nat) (w w' : World) : Prop := Below B w w' ∧ Lib.OthersKept 5 (some wb) w w' ∧ w.heap.size ≤ w'.heap.size
theorem WrT.refl (wb B : Nat) (w : World) : WrT wb B w w := ⟨Below.refl _ _, Lib.OthersKept.refl _ _ _, Nat.le_refl _⟩
theorem WrT.trans {wb B : Nat} {a b c : World} (h : WrT wb B a b) (k : WrT wb B b c) : WrT wb B a c := ⟨h.1.trans k.1, h.2.1.trans k.2.1, Nat.le_trans h.2.2 k.2.2⟩
theorem WrT.of_grew {wb B : Nat} {w w' : World} (g : Grew w w') (hB : B ≤ w.heap.size) : WrT wb B w w' := ⟨g.1.mono hB, fun k o hk _ _ => g.other hk, g.2⟩
theorem WrT.other {wb B : Nat} {w w' : World} (h : WrT wb B w w') {k : Nat} {cs : Array Value} {t : TypeId} {f : Nat × Nat} (hk : w.heap[k]? = some (.cells cs t f)) (hne : k ≠ wb) (ht : t ≠ 5) : w'.heap[k]? = some (.cells cs t f) :=
  h.2.1 k _ hk (by simpa using hne) (fun c fz hx => by injection hx with _ h2 _; exact ht h2)
def numC (n : Int) : List Value := Lib.byteCells (Lib.itoa n) ++ [.int .u8 32]
theorem num_keep {w1 w3 : World} {B m wb : Nat} {v u : Value} {cs : List Value} {o : Obj} (hO : w1.ownsRow B 5 1 v m cs) (hk : BX w1 wb 217 u) (g : (w1.alloc o).grownBy w3 v.ownBlock) : BX w3 wb 217 u := by
  have hlt := lt_of_obj hk
  refine (g.block wb (by simp; omega) (fun hx => ?_)).trans (heap_alloc hk _)
  obtain ⟨cur, hc⟩ := row_tag hO hx.symm
  unfold BX at hk
  rw [hk] at hc
  simp at hc
theorem num_turn {w1 w3 : World} {B m wb : Nat} {v : Value} {cs : List Value} {o : Obj} (hO : w1.ownsRow B 5 1 v m cs) (g : (w1.alloc o).grownBy w3 v.ownBlock) (hB : B ≤ w1.heap.size) : WrT wb B w1 w3 := by
  have hsz : w1.heap.size ≤ w3.heap.size := by have := g.size; simp at this; omega
  refine ⟨⟨g.os, g.tape, g.output, by omega, fun k hk => ?_⟩, fun k x hk _ hx => ?_, hsz⟩
  · rw [g.block k (by simp; omega) (fun hy => by have := (hO.lt k hy.symm).1; omega), Below.heap_alloc _ _ _ (by omega)]
  · have hlt := lt_of_obj hk
    rw [g.block k (by simp; omega) (fun hy => ?_), Below.heap_alloc _ _ _ hlt]
    · exact hk
    · obtain ⟨cur, hc⟩ := row_tag hO hy.symm
      rw [hk] at hc
      injection hc with hc
      exact hx _ _ hc
theorem num_set {w : World} {wb B : Nat} {u : Value} (hw : B ≤ wb) : WrT wb B w (w.setCell ⟨wb, 0, none⟩ u) := by
  refine ⟨⟨rfl, rfl, rfl, by simp [World.setCell], fun k hk => Below.heap_setCell _ _ _ _ (by simp; omega)⟩, fun k x hk hn _ => ?_, by simp [World.setCell]⟩
  rw [Below.heap_setCell _ _ _ _ (fun hx => hn (by simpa using hx))]
  exact hk
theorem number_any {w : World} {wb B m : Nat} {v : Value} {cs : List Value} {n : Int} (hb : BX w wb 217 v) (hr : w.ownsRow B 5 1 v m cs) (hw : B ≤ wb)
    (ht : Lib.TabBelow Tryz.prog B w "internal/strconv.uint64pow10" .u64 Lib.pow10Tab) (h0 : -9223372036854775808 ≤ n) (h1 : n ≤ 9223372036854775807) (hm : m ≤ 140737480000000) :
    Calls Tryz.prog 164 #[.pointer (some ⟨wb, 0, none⟩), .int .i64 n] w fun en w' => en = .returned UNIT ∧ (∃ v', BX w' wb 217 v' ∧ w'.ownsRow B 5 1 v' (m + (Lib.itoa n).length + 1) (cs ++ numC n)) ∧ Lib.TabBelow Tryz.prog B w' "internal/strconv.uint64pow10" .u64 Lib.pow10Tab ∧ WrT wb B w w' := by
  obtain ⟨a, cap, rfl, hcap, hmax, _⟩ := row_max hr
  have c0 := cell_of hb 0
  have hlt := lt_of_obj hb
  have z0 := free_of hb 0
  simp at c0
  have C := Tryz.strconv_AppendInt_10 B m n h0 h1 _ cs w hr (by omega) (by omega) ht
  have HB : Hid (BX w wb 217 (.slice a m cap)) := hb
  have HT : Hid (Lib.TabBelow Tryz.prog B w "internal/strconv.uint64pow10" .u64 Lib.pow10Tab) := ht
  have hil := Lib.itoa_length_le n h0 h1
  clear hb hr ht
  unfold UNIT
  go_enter Tryz.func164, Tryz.ntmps164
  go_wp2_with fail
  refine C.mono ?_
  rintro en w1 ⟨v1, rfl, hO, hBl, hOK⟩
  obtain ⟨a1, cap1, hv1, hcap1, hmax1, _⟩ := row_max hO
  generalize hL : m + (Lib.itoa n).length = m1 at *
  subst hv1
  have hB1 : B ≤ w1.heap.size := Nat.le_trans (by omega) hBl.size
  have K1 : BX w1 wb 217 (.slice a m cap) := hOK wb _ HB.out (by simp) (fun c fz hx => by injection hx with _ h2 _; exact absurd h2 (by decide))
  have HK : Hid (BX w1 wb 217 (.slice a m cap)) := K1
  have O1 : Hid (w1.ownsRow B 5 1 (.slice a1 m1 cap1) m1 (cs ++ Lib.byteCells (Lib.itoa n))) := hO
  have P1 : Hid (Below B w w1 ∧ Lib.OthersKept 5 none w w1) := ⟨hBl, hOK⟩
  have c1 := cell_of K1 0
  have z1 := free_of K1 0
  have hl1 := lt_of_obj K1
  simp at c1
  clear C hO hBl hOK K1
  go_wp2_with (at_builtin; refine wp_app8 (v := .slice a1 m1 cap1) (n := m1) (cs := cs ++ Lib.byteCells (Lib.itoa n)) (B := B) rfl _ _ 215 Tryz.underlying215 rfl rfl rfl O1.out hB1 rfl (by simp [Value.oneCell']) (by omega) ?_; intro v3 w3 hO3 hg3; obtain ⟨a3, cap3, hv3, _, _, _⟩ := row_max hO3; subst hv3; have K3 := num_keep O1.out HK.out hg3; have c3 := cell_of K3 0; have z3 := free_of K3 0; have hl3 := lt_of_obj K3; simp at c3)
  go_end0
  have T1 : WrT wb B w w1 := ⟨P1.out.1, fun k o hk hn ho => P1.out.2 k o hk (by simp) ho, P1.out.1.size⟩
  have T3 : WrT wb B w1 w3 := num_turn O1.out hg3 hB1
  have T4 : WrT wb B w3 (w3.setCell ⟨wb, 0, none⟩ (.slice a3 (m1 + 1) cap3)) := num_set hw
  have T := (T1.trans T3).trans T4
  refine ⟨rfl, ⟨_, heap_set K3 0 _, ?_⟩, HT.out.on T.1, T⟩
  have e : cs ++ numC n = cs ++ Lib.byteCells (Lib.itoa n) ++ [.int .u8 32] := by unfold numC; rw [List.append_assoc]
  rw [e]
  have nt : NoT w3 wb 5 := NoT.of (show w3.heap[wb]? = some (.cells #[.slice a m cap] 217 (0, 0)) from K3) (by decide)
  exact row_set (q := ⟨wb, 0, none⟩) hO3 nt _
/- The writer holds these bytes. -/
def WrS (wb B : Nat) (w : World) (cs : List Value) : Prop := (∃ v, BX w wb 217 v ∧ w.ownsRow B 5 1 v cs.length cs) ∧ B ≤ wb ∧ Lib.TabBelow Tryz.prog B w "internal/strconv.uint64pow10" .u64 Lib.pow10Tab
theorem WrS.le {wb B : Nat} {w : World} {cs : List Value} (h : WrS wb B w cs) : B ≤ w.heap.size := by
  obtain ⟨⟨v, hb, _⟩, hw, _⟩ := h
  have := lt_of_obj hb
  omega
theorem WrS.lt {wb B : Nat} {w : World} {cs : List Value} (h : WrS wb B w cs) : wb < w.heap.size := by
  obtain ⟨⟨v, hb, _⟩, _⟩ := h
  exact lt_of_obj hb
theorem WrS.grew {wb B : Nat} {w w' : World} {cs : List Value} (h : WrS wb B w cs) (g : Grew w w') : WrS wb B w' cs := by
  have hB := h.le
  obtain ⟨⟨v, hb, hr⟩, hw, ht⟩ := h
  exact ⟨⟨v, hb.grew g, row_grew hr g⟩, hw, ht.on (g.1.mono hB)⟩
def R64 (n : Int) : Prop := -9223372036854775808 ≤ n ∧ n ≤ 9223372036854775807
/- A call that writes d. -/
def Writes (wb B : Nat) (f : FuncId) (args : Array Value) (w : World) (d : List Value) : Prop :=
  ∀ w' cs, WrT wb B w w' → WrS wb B w' cs → cs.length + d.length ≤ 140737480000000 → Calls Tryz.prog f args w' fun en w'' => en = .returned UNIT ∧ WrS wb B w'' (cs ++ d) ∧ WrT wb B w' w''
theorem numC_length (n : Int) : (numC n).length = (Lib.itoa n).length + 1 := by simp [numC, Lib.byteCells]
theorem number_wr {wb B : Nat} {w : World} {n : Int} (hn : R64 n) : Writes wb B 164 #[.pointer (some ⟨wb, 0, none⟩), .int .i64 n] w (numC n) := by
  intro w' cs _ hS hl
  obtain ⟨⟨v, hb, hr⟩, hw, ht⟩ := hS
  rw [numC_length] at hl
  refine (number_any hb hr hw ht hn.1 hn.2 (by omega)).mono ?_
  rintro en w1 ⟨rfl, ⟨v', hb', hr'⟩, ht', T⟩
  refine ⟨rfl, ⟨⟨v', hb', ?_⟩, hw, ht'⟩, T⟩
  have e : (cs ++ numC n).length = cs.length + (Lib.itoa n).length + 1 := by rw [List.length_append, numC_length]; omega
  rw [e]
  exact hr'
def flagC (b : Bool) : List Value := numC (if b then 1 else 0)
theorem flag_wr {wb B : Nat} {w : World} {b : Bool} : Writes wb B 162 #[.pointer (some ⟨wb, 0, none⟩), .bool b] w (flagC b) := by
  intro w' cs T hS hl
  unfold flagC at *
  cases b with
  | true =>
    have C : Hid _ := number_wr (wb := wb) (B := B) (w := w) (n := 1) (by unfold R64; omega) w' cs T hS hl
    clear hS
    go_enter Tryz.func162, Tryz.ntmps162
    go_wp2_with fail
    refine Calls.mono C.out ?_
    rintro en w1 ⟨rfl, h1, T1⟩
    go_wp2_with fail
    go_end0
    exact ⟨rfl, h1, T1⟩
  | false =>
    have C : Hid _ := number_wr (wb := wb) (B := B) (w := w) (n := 0) (by unfold R64; omega) w' cs T hS hl
    clear hS
    go_enter Tryz.func162, Tryz.ntmps162
    go_wp2_with fail
    refine Calls.mono C.out ?_
    rintro en w1 ⟨rfl, h1, T1⟩
    go_wp2_with fail
    go_end0
    exact ⟨rfl, h1, T1⟩
def VT.t (x : VT) : List Value := numC x.num ++ flagC x.null ++ numC x.heap
theorem val_wr {wb B : Nat} {w : World} {x : VT} (h1 : R64 x.num) (h2 : R64 x.heap) : Writes wb B 166 #[.pointer (some ⟨wb, 0, none⟩), x.v] w x.t := by
  intro w' cs T hS hl
  obtain ⟨n, z, h⟩ := x
  unfold VT.t at *
  unfold VT.v
  simp only at *
  rw [List.length_append, List.length_append] at hl
  have HS : Hid (WrS wb B w' cs) := hS
  have hB := hS.le
  have hwl : wb < w'.heap.size := hS.lt
  clear hS
  go_enter Tryz.func166, Tryz.ntmps166
  go_wp2_with fail
  generalize hW : (w'.alloc (.cells #[.int .i64 n, .bool z, .int .i64 h] 46)) = W
  obtain ⟨G0, A0⟩ : Hid (Grew w' W) ∧ Hid (W.heap[w'.heap.size]? = some (.cells #[.int .i64 n, .bool z, .int .i64 h] 46 (0, 0))) := by
    rw [← hW]; exact ⟨(Grew.refl _).alloc _, heap_alloc_last _ _⟩
  clear hW
  have hne : w'.heap.size ≠ wb := by omega
  refine Calls.mono (number_wr h1 W cs (WrT.refl _ _ _) (HS.out.grew G0.out) (by omega)) ?_
  rintro en w1 ⟨rfl, S1, T1⟩
  have A1 := T1.other A0.out hne (by decide)
  have HS1 : Hid (WrS wb B w1 (cs ++ numC n)) := S1
  have HT1 : Hid (WrT wb B w' w1) := (WrT.of_grew G0.out hB).trans T1
  have HA1 : Hid (w1.heap[w'.heap.size]? = some (.cells #[.int .i64 n, .bool z, .int .i64 h] 46 (0, 0))) := A1
  have c0 := cell_of A1 0
  have c1 := cell_of A1 1
  have c2 := cell_of A1 2
  simp at c0 c1 c2
  clear S1 T1 A1
  go_wp2_with fail
  refine Calls.mono (flag_wr (w := w1) w1 _ (WrT.refl _ _ _) HS1.out (by rw [List.length_append]; omega)) ?_
  rintro en w2 ⟨rfl, S2, T2⟩
  have A2 := T2.other HA1.out hne (by decide)
  have HS2 : Hid (WrS wb B w2 (cs ++ numC n ++ flagC z)) := S2
  have HT2 : Hid (WrT wb B w' w2) := HT1.out.trans T2
  have k0 := cell_of A2 0
  have k1 := cell_of A2 1
  have k2 := cell_of A2 2
  simp at k0 k1 k2
  clear S2 T2 A2 HS1 HT1 c0 c1 c2
  go_wp2_with fail
  refine Calls.mono (number_wr h2 w2 _ (WrT.refl _ _ _) HS2.out (by rw [List.length_append, List.length_append]; omega)) ?_
  rintro en w3 ⟨rfl, S3, T3⟩
  have HS3 : Hid (WrS wb B w3 (cs ++ numC n ++ flagC z ++ numC h)) := S3
  have HT3 : Hid (WrT wb B w' w3) := HT2.out.trans T3
  clear S3 T3
  go_wp2_with fail
  go_end0
  refine ⟨rfl, ?_, HT3.out⟩
  have e : cs ++ (numC n ++ flagC z ++ numC h) = cs ++ numC n ++ flagC z ++ numC h := by simp [List.append_assoc]
  rw [e]
  exact HS3.out
end Go.Proofs.YtnmbniojejckpaaGreatDoor
