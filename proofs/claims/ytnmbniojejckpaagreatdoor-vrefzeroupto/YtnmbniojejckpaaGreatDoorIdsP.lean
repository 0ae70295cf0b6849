/-
  The place that sub's ids hands to Number; no statement is proved here.
-/
import Derived.Test.YtnmbniojejckpaaGreatDoorClo
import Derived.Maps.OwnSet
import Derived.Maps.Ext
import Derived.StringKeys
import Derived.Test.YtnmbniojejckpaaGreatDoorNbrC
set_option maxRecDepth 100000
set_option maxHeartbeats 8000000
namespace Go.Proofs.YtnmbniojejckpaaGreatDoor
open Go.RowKit Go.Maps
set_option linter.unusedVariables false
set_option linter.unusedSimpArgs false
theorem lawM : Keyed Tryz.prog 9 := string_keyed Tryz.underlying9
theorem zeroM (w : World) : (zeroValue 3).run Tryz.prog w = .ok (.int .i64 0) w := by kernel_rfl
abbrev FM := List UInt8 → Option Int
/- Block b is a map of at most n entries that answers as F. -/
def MapF (w : World) (b n : Nat) (F : FM) : Prop := ∃ D : DataW Unit, w.ownsMap Tryz.prog 9 (plainElem Tryz.prog 3) b n D ∧ ∀ s : List UInt8, Maps.has D (.string s) = (F s).isSome ∧ ∀ v, F s = some v → D.atKey (.string s) (.lit (.int .i64 0)) = .lit (.int .i64 v)
theorem MapF.lt {w : World} {b n : Nat} {F : FM} (h : MapF w b n F) : b < w.heap.size := by
  obtain ⟨D, hD, _⟩ := h
  exact hD.lt
theorem MapF.mono {w : World} {b n n' : Nat} {F : FM} (h : MapF w b n F) (hn : n ≤ n') : MapF w b n' F := by
  obtain ⟨D, hD, hF⟩ := h
  exact ⟨D, hD.mono hn, hF⟩
theorem MapF.same {w w' : World} {b n : Nat} {F : FM} (h : MapF w b n F) (hb : w'.heap[b]? = w.heap[b]?) : MapF w' b n F := by
  obtain ⟨D, ⟨es, clock, h1, h2⟩, hF⟩ := h
  exact ⟨D, ⟨es, clock, hb.trans h1, h2⟩, hF⟩
theorem MapF.grew {w w' : World} {b n : Nat} {F : FM} (h : MapF w b n F) (g : Grew w w') : MapF w' b n F := h.same (g.1.block b h.lt)
theorem MapF.obj {w : World} {b n : Nat} {F : FM} (h : MapF w b n F) : ∃ es clock, w.heap[b]? = some (.map es clock) := by
  obtain ⟨D, ⟨es, clock, h1, h2⟩, hF⟩ := h
  exact ⟨es, clock, h1⟩
theorem MapF.made (w : World) : MapF (w.alloc (.map #[] 0)) w.heap.size 0 (fun _ => none) :=
  ⟨.map [], World.ownsMap_made _ _ _ _, fun s => ⟨rfl, fun v hv => by cases hv⟩⟩
def putF (F : FM) (k : List UInt8) (v : Int) : FM := fun s => if s = k then some v else F s
theorem MapF.put_eq {D : DataW Unit} {F : FM} (hm : IsMap D) (hF : ∀ s : List UInt8, Maps.has D (.string s) = (F s).isSome ∧ ∀ v, F s = some v → D.atKey (.string s) (.lit (.int .i64 0)) = .lit (.int .i64 v)) (k : List UInt8) (v : Int) :
    ∀ s : List UInt8, Maps.has (D.put (.string k) (.lit (.int .i64 v))) (.string s) = (putF F k v s).isSome ∧ ∀ u, putF F k v s = some u → (D.put (.string k) (.lit (.int .i64 v))).atKey (.string s) (.lit (.int .i64 0)) = .lit (.int .i64 u) := by
  intro s
  unfold putF
  by_cases h : s = k
  · subst h
    rw [if_pos rfl]
    exact ⟨has_put_same hm (k := .string s) trivial _, fun u hu => by injection hu with hu; subst hu; exact atKey_put_same hm (k := .string s) trivial _ _⟩
  · rw [if_neg h]
    have hne : (Lit.string s) ≠ .string k := fun e => h (by injection e)
    exact ⟨(has_put_other hne _).trans (hF s).1, fun u hu => (atKey_put_other hne _ _).trans ((hF s).2 u hu)⟩
theorem keyS {s : ByteArray} (h : s.size ≤ maxLen) : keyOf Tryz.prog 9 (.string s) = some (.string s.data.toList) := Go.WideMaps.keyOf_string_mk Tryz.underlying9 h
section
variable {w : World} {ops : Array Oper} {rest : List Oper} {o : Oper} {a : Act} {Q : Exit → Act → World → Prop}
theorem wp_look (hg : o.guard = none) (m x : Operand) (hop : o.op = Op.lookup 207 m x true) {b n : Nat} {F : FM} (hm : a.eval m = .map (some b)) (hF : MapF w b n F) {s : ByteArray} (hs : s.size ≤ maxLen) (hx : a.eval x = .string s) {r : Option Int} (hr : F s.data.toList = r)
    (hK : wpList Tryz.prog ops Q rest (a.put o.dst (.tuple #[.int .i64 (r.getD 0), .bool r.isSome])) w) : wpList Tryz.prog ops Q (o :: rest) a w := by
  obtain ⟨D, hD, hF⟩ := hF
  refine wpList_lookup_own_ok_int _ hg m x 207 hop 9 3 .i64 lawM Tryz.underlying207 Tryz.underlying3 (zeroM _) b n D hm hD _ _ hx (keyS hs) ?_
  intro c hat hwc
  obtain ⟨h1, h2⟩ := hF s.data.toList
  rw [h1]
  rw [hr] at h1 h2 ⊢
  cases r with
  | none =>
    rw [Maps.atKey_of_not_has (by rw [h1]; rfl)] at hat
    injection hat with hat
    injection hat with _ hat
    subst hat
    exact hK
  | some v =>
    rw [h2 v rfl] at hat
    injection hat with hat
    injection hat with _ hat
    subst hat
    exact hK
theorem wp_look_some (hg : o.guard = none) (m x : Operand) (hop : o.op = Op.lookup 207 m x true) {b n : Nat} {F : FM} (hm : a.eval m = .map (some b)) (hF : MapF w b n F) {s : ByteArray} (hs : s.size ≤ maxLen) (hx : a.eval x = .string s) {v : Int} (hr : F s.data.toList = some v)
    (hK : wpList Tryz.prog ops Q rest (a.put o.dst (.tuple #[.int .i64 v, .bool true])) w) : wpList Tryz.prog ops Q (o :: rest) a w := wp_look hg m x hop hm hF hs hx hr hK
theorem wp_look_none (hg : o.guard = none) (m x : Operand) (hop : o.op = Op.lookup 207 m x true) {b n : Nat} {F : FM} (hm : a.eval m = .map (some b)) (hF : MapF w b n F) {s : ByteArray} (hs : s.size ≤ maxLen) (hx : a.eval x = .string s) (hr : F s.data.toList = none)
    (hK : wpList Tryz.prog ops Q rest (a.put o.dst (.tuple #[.int .i64 0, .bool false])) w) : wpList Tryz.prog ops Q (o :: rest) a w := wp_look hg m x hop hm hF hs hx hr hK
theorem wp_put (hg : o.guard = none) (m x v : Operand) (hop : o.op = Op.mapUpdate 207 m x v) {b n : Nat} {F : FM} (hm : a.eval m = .map (some b)) (hF : MapF w b n F) (hn : n < maxLen) {s : ByteArray} (hs : s.size ≤ maxLen) {c : Int} (hx : a.eval x = .string s) (hv : a.eval v = .int .i64 c) (hc : (Lit.int .i64 c).wf = true)
    (hK : ∀ w', MapF w' b (n + 1) (putF F s.data.toList c) → w.grownBy w' (some b) → wpList Tryz.prog ops Q rest (a.put o.dst undef) w') : wpList Tryz.prog ops Q (o :: rest) a w := by
  obtain ⟨D, hD, hF⟩ := hF
  refine wpList_mapUpdate_own _ hg m x v 207 hop 9 3 lawM Tryz.underlying207 (plainElem Tryz.prog 3) b n D hm hD hn _ _ _ hx hv (keyS hs) _ [] (plainElem_int Tryz.underlying3 hc) ?_
  intro w1 h1 g1
  exact hK w1 ⟨_, h1, MapF.put_eq hD.isMap hF _ _⟩ g1
end
end Go.Proofs.YtnmbniojejckpaaGreatDoor
namespace Go.Proofs.YtnmbniojejckpaaGreatDoor
open Go.RowKit
set_option linter.unusedVariables false
set_option linter.unusedSimpArgs false
structure Dr where
  f0 : FM
  f1 : FM
  groups : List (List SB)
  count : Int
  most : Int
  base : Int
def stepD (s : Dr) (m : List SB) : Option (Int × Dr) :=
  match s.f0 (txt m) with
  | some v => some (v, s)
  | none => match s.f1 (txt m) with
    | some v => some (v, s)
    | none => if s.most - s.count < (m.length : Int) then none else some (s.count, ⟨s.f0, putF s.f1 (txt m) s.count, s.groups ++ [m], s.count + (m.length : Int), s.most, s.base⟩)
structure GoodD (s : Dr) (k c : Nat) : Prop where
  c0 : 0 ≤ s.count
  c1 : s.count ≤ 10000 + (k : Int)
  m0 : 0 ≤ s.most
  m1 : s.most ≤ 9223372036854775807
  cm : s.count ≤ s.most
  gl : s.groups.length ≤ c
  gok : ∀ m ∈ s.groups, Ok m
  gs : s.count = s.base + ((s.groups.map List.length).sum : Nat)
  f : ∀ m v, s.f0 (txt m) = some v ∨ s.f1 (txt m) = some v → 0 ≤ v ∧ v + (m.length : Int) ≤ s.count
theorem good_step {s : Dr} {k c : Nat} {m : List SB} {n : Int} {s' : Dr} (h : GoodD s k c) (hok : Ok m) (hk : k + m.length ≤ 2097152) (hs : stepD s m = some (n, s')) : 0 ≤ n ∧ n + (m.length : Int) ≤ 4194304 ∧ GoodD s' (k + m.length) (c + 1) := by
  have h1 := h.c1
  have mono : GoodD s (k + m.length) (c + 1) := ⟨h.c0, by have := h.c1; omega, h.m0, h.m1, h.cm, by have := h.gl; omega, h.gok, h.gs, h.f⟩
  unfold stepD at hs
  cases e0 : s.f0 (txt m) with
  | some v =>
    rw [e0] at hs
    simp only [Option.some.injEq, Prod.mk.injEq] at hs
    obtain ⟨rfl, rfl⟩ := hs
    have := h.f m v (Or.inl e0)
    exact ⟨this.1, by omega, mono⟩
  | none =>
    rw [e0] at hs
    cases e1 : s.f1 (txt m) with
    | some v =>
      rw [e1] at hs
      simp only [Option.some.injEq, Prod.mk.injEq] at hs
      obtain ⟨rfl, rfl⟩ := hs
      have := h.f m v (Or.inr e1)
      exact ⟨this.1, by omega, mono⟩
    | none =>
      rw [e1] at hs
      simp only at hs
      split at hs
      · cases hs
      · simp only [Option.some.injEq, Prod.mk.injEq] at hs
        obtain ⟨rfl, rfl⟩ := hs
        have hc := h.c0
        refine ⟨h.c0, by omega, ⟨by simp only; omega, by simp only; omega, h.m0, h.m1, by simp only; omega, by have := h.gl; simp; omega, fun m' hm' => ?_, ?_, fun m' v hv => ?_⟩⟩
        · rcases List.mem_append.1 hm' with h' | h'
          · exact h.gok m' h'
          · rw [List.mem_singleton] at h'; subst h'; exact hok
        · have := h.gs
          simp only [List.map_append, List.map_cons, List.map_nil, List.sum_append, List.sum_cons, List.sum_nil]
          omega
        simp only at hv ⊢
        rcases hv with hv | hv
        · have := h.f m' v (Or.inl hv); omega
        · unfold putF at hv
          split at hv
          · rename_i he
            have := txt_inj he
            subst this
            injection hv with hv
            subst hv
            omega
          · have := h.f m' v (Or.inr hv); omega
def g2 (g : Value × List (SB × Q4)) : List Value := [g.1, .bool false]
/- The blocks of F hold these rows. -/
def InF (F : Nat → Prop) (v : Value) : Prop := ∀ g, v.ownBlock = some g → F g
def SubF (F : Nat → Prop) (q : Q4) : Prop := InF F q.s ∧ InF F q.p ∧ InF F q.r ∧ InF F q.f
def GrpF (F : Nat → Prop) (g : Value × List (SB × Q4)) : Prop := InF F g.1 ∧ ∀ y ∈ g.2, SubF F y.2
theorem InF.mono {F F' : Nat → Prop} {v : Value} (h : InF F v) (hf : ∀ g, v.ownBlock = some g → F g → F' g) : InF F' v := fun g hg => hf g hg (h g hg)
theorem GrpF.mono {F F' : Nat → Prop} {g : Value × List (SB × Q4)} (h : GrpF F g) (hf : ∀ x, F x → F' x) : GrpF F' g :=
  ⟨h.1.mono (fun x _ => hf x), fun y hy => ⟨(h.2 y hy).1.mono (fun x _ => hf x), (h.2 y hy).2.1.mono (fun x _ => hf x), (h.2 y hy).2.2.1.mono (fun x _ => hf x), (h.2 y hy).2.2.2.mono (fun x _ => hf x)⟩⟩
theorem txt_any {W : World} {u : Value} {l : List SB} {ex : Bool} (h : LS W u l) (hl : l.length ≤ 1048576) (hm : ∀ x ∈ l, Rng x ∧ Sml x) (ht : Lib.TabIs Tryz.prog W "internal/strconv.uint64pow10" .u64 Lib.pow10Tab) (hb : (txt l).length ≤ 140000000) :
    Calls Tryz.prog 155 #[.agg #[u, .bool ex]] W fun en w' => ∃ s : ByteArray, en = .returned (.string s) ∧ s.data.toList = txt l ∧ Grew W w' :=
  (text_any h hl (fun x hx => (hm x hx).2) (fun x hx => (hm x hx).1) ht (by rw [← txt_len]; omega)).mono fun en w' ⟨s, h1, h2, h3⟩ => ⟨s, h1, bc_inj (h2.trans (txt_bc l)), h3⟩
def mobj (kb : Nat) : Obj := .cells #[.map (some kb)] 207 (0, 0)
theorem ids_known {W : World} {fb cb kb nk : Nat} {f : FM} {u : Value} {c v : Int} {k : List UInt8} {n : Nat} {ex : Bool} (hm : W.heap[fb]? = some (mobj kb)) (hc : W.heap[cb]? = some (iobj c)) (h : MapF W kb nk f) (hf : f k = some v) (hkl : k.length ≤ 140000000) (hu : ∃ a cc, u = .slice a n cc)
    (ct : ∀ w', Grew W w' → Calls Tryz.prog 155 #[.agg #[u, .bool ex]] w' fun en w'' => ∃ s : ByteArray, en = .returned (.string s) ∧ s.data.toList = k ∧ Grew w' w'') :
    Calls Tryz.prog 154 #[.agg #[u, .bool ex], .pointer (some ⟨fb, 0, none⟩), .pointer (some ⟨cb, 0, none⟩)] W fun en w' => en = .returned (.tuple #[.int .i64 v, .bool true]) ∧ Grew W w' := by
  obtain ⟨ua, uc, rfl⟩ := hu
  have CT : Hid (∀ w', Grew W w' → Calls Tryz.prog 155 #[.agg #[.slice ua n uc, .bool ex]] w' fun en w'' => ∃ s : ByteArray, en = .returned (.string s) ∧ s.data.toList = k ∧ Grew w' w'') := ct
  have HM : Hid (W.heap[fb]? = some (mobj kb)) := hm
  have H0 : Hid (MapF W kb nk f) := h
  have HV : Hid (f k = some v) := hf
  clear ct hm hc h hf
  go_enter Tryz.func154, Tryz.ntmps154
  go_wp2_with fail
  refine (CT.out _ (by first | exact Grew.refl W | exact (Grew.refl W).alloc _)).mono ?_
  rintro en w1 ⟨s, rfl, hs, g1⟩
  have G1 : Hid (Grew W w1) := by first | exact g1 | exact ((Grew.refl W).alloc _).trans g1
  have D1 := G1.out.other HM.out
  have c0 := cell_of D1 0
  simp at c0
  have hdl := lt_of_obj D1
  have hss : s.size ≤ maxLen := by
    have : s.data.toList.length = s.size := by simp
    rw [hs] at this
    unfold maxLen
    omega
  clear g1 D1 CT
  go_wp2_with (at_lookup; refine wp_look_some rfl _ _ rfl rfl (H0.out.grew (by repeat (first | exact G1.out | refine Grew.alloc ?_ _ | refine Grew.drew ?_ | refine Grew.drewN ?_ _))) hss rfl (by rw [hs]; exact HV.out) ?_)
  go_ret2
  refine ⟨rfl, ?_⟩
  repeat (first | exact G1.out | refine Grew.alloc ?_ _ | refine Grew.drew ?_ | refine Grew.drewN ?_ _)
theorem ids_new {W : World} {fb cb kb nk : Nat} {f : FM} {u : Value} {c : Int} {k : List UInt8} {n : Nat} {ex : Bool} (hm : W.heap[fb]? = some (mobj kb)) (hc : W.heap[cb]? = some (iobj c)) (h : MapF W kb nk f) (hf : f k = none) (hc0 : 0 ≤ c) (hc1 : c ≤ 4194304) (hn : n ≤ 1048576) (hnk : nk ≤ 2097152) (hkl : k.length ≤ 140000000) (hu : ∃ a cc, u = .slice a n cc)
    (ct : ∀ w', Grew W w' → Calls Tryz.prog 155 #[.agg #[u, .bool ex]] w' fun en w'' => ∃ s : ByteArray, en = .returned (.string s) ∧ s.data.toList = k ∧ Grew w' w'') :
    Calls Tryz.prog 154 #[.agg #[u, .bool ex], .pointer (some ⟨fb, 0, none⟩), .pointer (some ⟨cb, 0, none⟩)] W fun en w' => en = .returned (.tuple #[.int .i64 c, .bool true]) ∧ w'.heap[fb]? = some (mobj kb) ∧ w'.heap[cb]? = some (iobj (c + (n : Int))) ∧ MapF w' kb (nk + 1) (putF f k c) ∧ TurnP (fun x => x = cb ∨ x = kb) W w' := by
  obtain ⟨ua, uc, rfl⟩ := hu
  have CT : Hid (∀ w', Grew W w' → Calls Tryz.prog 155 #[.agg #[.slice ua n uc, .bool ex]] w' fun en w'' => ∃ s : ByteArray, en = .returned (.string s) ∧ s.data.toList = k ∧ Grew w' w'') := ct
  have HM : Hid (W.heap[fb]? = some (mobj kb)) := hm
  have H0 : Hid (MapF W kb nk f) := h
  have HV : Hid (f k = none) := hf
  have HC : Hid (W.heap[cb]? = some (iobj c)) := hc
  clear ct hm hc h hf
  go_enter Tryz.func154, Tryz.ntmps154
  go_wp2_with fail
  refine (CT.out _ (by first | exact Grew.refl W | exact (Grew.refl W).alloc _)).mono ?_
  rintro en w1 ⟨s, rfl, hs, g1⟩
  have G1 : Hid (Grew W w1) := by first | exact g1 | exact ((Grew.refl W).alloc _).trans g1
  have D1 := G1.out.other HM.out
  have c0 := cell_of D1 0
  simp at c0
  have hdl := lt_of_obj D1
  have hss : s.size ≤ maxLen := by
    have : s.data.toList.length = s.size := by simp
    rw [hs] at this
    unfold maxLen
    omega
  have E1 := G1.out.other HC.out
  have e0 := cell_of E1 0
  have z0 := free_of E1 0
  simp at e0
  have hel := lt_of_obj E1
  have BR : w1.heap[W.heap.size]? = some (.cells #[.slice ua n uc, .bool ex] 102 (0, 0)) := g1.other (heap_alloc_last _ _)
  have r0 := cell_of BR 0
  have r1 := cell_of BR 1
  simp at r0 r1
  have hrl := lt_of_obj BR
  have hkW : kb < W.heap.size := H0.out.lt
  have hne1 : fb ≠ kb := fun e => by
    obtain ⟨es, ck, he⟩ := H0.out.obj
    rw [← e, HM.out] at he
    cases he
  have hne2 : cb ≠ kb := fun e => by
    obtain ⟨es, ck, he⟩ := H0.out.obj
    rw [← e, HC.out] at he
    cases he
  have hne3 : fb ≠ cb := fun e => by
    have h1 := HM.out
    rw [e, HC.out] at h1
    unfold mobj iobj at h1
    injection h1 with h1
    injection h1 with _ h1 _
    revert h1; decide
  have hcW : cb < W.heap.size := lt_of_obj HC.out
  have hfW : fb < W.heap.size := lt_of_obj HM.out
  have HBR : Hid (w1.heap[W.heap.size]? = some (.cells #[.slice ua n uc, .bool ex] 102 (0, 0))) := BR
  clear g1 D1 CT E1 BR
  go_wp2_with (first
    | (at_lookup; refine wp_look_none rfl _ _ rfl rfl (H0.out.grew (by repeat (first | exact G1.out | refine Grew.alloc ?_ _ | refine Grew.drew ?_ | refine Grew.drewN ?_ _))) hss rfl (by rw [hs]; exact HV.out) ?_)
    | (at_mapUpdate; refine wp_put rfl _ _ _ rfl rfl (H0.out.grew (by repeat (first | exact G1.out | refine Grew.alloc ?_ _ | refine Grew.drew ?_ | refine Grew.drewN ?_ _))) (by unfold maxLen; omega) hss rfl rfl (by simp [Lit.wf, IntKind.min, IntKind.max, IntKind.signed, IntKind.bits]; omega) ?_; intro w2 hM2 hg2; have k2 : ∀ x, x < w1.heap.size → x ≠ kb → w2.heap[x]? = w1.heap[x]? := (fun x hx hne => hg2.block x hx (fun e => hne (by injection e))); have C2 : w2.heap[cb]? = some (iobj c) := (k2 cb hel hne2).trans (G1.out.other HC.out); have B2 := (k2 W.heap.size hrl (by omega)).trans HBR.out; have F2 : Hid (w2.heap[fb]? = some (mobj kb)) := (k2 fb hdl hne1).trans (G1.out.other HM.out); have d0 := cell_of C2 0; have y0 := free_of C2 0; have b0 := cell_of B2 0; simp at d0 b0; have dl := lt_of_obj C2; have bl := lt_of_obj B2; have HC2 : Hid (w2.heap[cb]? = some (iobj c)) := C2; have M2 : Hid (MapF w2 kb (nk + 1) (putF f s.data.toList c)) := hM2; have T2 : Hid (TurnP (fun x => x = cb ∨ x = kb) W w2) := ⟨hg2.os.trans G1.out.1.os, hg2.tape.trans G1.out.1.tape, hg2.output.trans G1.out.1.output, Nat.le_trans G1.out.2 hg2.size, (fun x hx hne => (k2 x (Nat.lt_of_lt_of_le hx G1.out.2) (fun e => hne (Or.inr e))).trans (G1.out.1.block x hx))⟩; clear k2 C2 B2 hM2 hg2))
  go_ret2
  have kp : ∀ x, x ≠ cb → (w2.setCell ⟨cb, 0, none⟩ (.int .i64 (c + (n : Int)))).heap[x]? = w2.heap[x]? := fun x hx => Below.heap_setCell _ _ _ _ hx
  refine ⟨rfl, (kp fb hne3).trans F2.out, heap_set HC2.out 0 (.int .i64 (c + (n : Int))), ?_, T2.out.set (p := ⟨cb, 0, none⟩) (Or.inl rfl) _⟩
  have := M2.out.same (kp kb (fun e => hne2 e.symm))
  rw [hs] at this
  exact this
end Go.Proofs.YtnmbniojejckpaaGreatDoor
