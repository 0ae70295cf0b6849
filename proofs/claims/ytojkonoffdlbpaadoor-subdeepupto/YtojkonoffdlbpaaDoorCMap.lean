/-
  A map from texts to numbers, told by what it answers at each text; no statement is proved here.
-/
import Derived.Test.YtojkonoffdlbpaaDoorOwn
import Derived.Maps.OwnSet
import Derived.Maps.Ext
import Derived.StringKeys
namespace Go.Proofs.YtojkonoffdlbpaaDoor
open Go.RowKit Go.Maps
set_option linter.unusedVariables false
set_option linter.unusedSimpArgs false

theorem lawM : Keyed Tryd.prog 9 := string_keyed Tryd.underlying9
theorem zeroM (w : World) : (zeroValue 3).run Tryd.prog w = .ok (.int .i64 0) w := by kernel_rfl
abbrev FM := List UInt8 → Option Int
/- Block b is a map of at most n entries that answers as F. -/
def MapF (w : World) (b n : Nat) (F : FM) : Prop := ∃ D : DataW Unit, w.ownsMap Tryd.prog 9 (plainElem Tryd.prog 3) b n D ∧ ∀ s : List UInt8, Maps.has D (.string s) = (F s).isSome ∧ ∀ v, F s = some v → D.atKey (.string s) (.lit (.int .i64 0)) = .lit (.int .i64 v)
theorem MapF.lt {w : World} {b n : Nat} {F : FM} (h : MapF w b n F) : b < w.heap.size := by
  obtain ⟨D, hD, _⟩ := h
  exact hD.lt
theorem MapF.mono {w : World} {b n n' : Nat} {F : FM} (h : MapF w b n F) (hn : n ≤ n') : MapF w b n' F := by
  obtain ⟨D, hD, hF⟩ := h
  exact ⟨D, hD.mono hn, hF⟩
theorem MapF.same {w w' : World} {b n : Nat} {F : FM} (h : MapF w b n F) (hb : w'.heap[b]? = w.heap[b]?) : MapF w' b n F := by
  obtain ⟨D, ⟨es, clock, h1, h2⟩, hF⟩ := h
  exact ⟨D, ⟨es, clock, hb.trans h1, h2⟩, hF⟩
theorem MapF.grew {w w' : World} {b n : Nat} {F : FM} (h : MapF w b n F) (g : Grew w w') : MapF w' b n F := h.same (g.1.block b h.lt)
theorem MapF.obj {w : World} {b n : Nat} {F : FM} (h : MapF w b n F) : ∃ es clock, w.heap[b]? = some (.map es clock) := by
  obtain ⟨D, ⟨es, clock, h1, h2⟩, hF⟩ := h
  exact ⟨es, clock, h1⟩
theorem MapF.made (w : World) : MapF (w.alloc (.map #[] 0)) w.heap.size 0 (fun _ => none) :=
  ⟨.map [], World.ownsMap_made _ _ _ _, fun s => ⟨rfl, fun v hv => by cases hv⟩⟩
def putF (F : FM) (k : List UInt8) (v : Int) : FM := fun s => if s = k then some v else F s
theorem MapF.put_eq {D : DataW Unit} {F : FM} (hm : IsMap D) (hF : ∀ s : List UInt8, Maps.has D (.string s) = (F s).isSome ∧ ∀ v, F s = some v → D.atKey (.string s) (.lit (.int .i64 0)) = .lit (.int .i64 v)) (k : List UInt8) (v : Int) :
    ∀ s : List UInt8, Maps.has (D.put (.string k) (.lit (.int .i64 v))) (.string s) = (putF F k v s).isSome ∧ ∀ u, putF F k v s = some u → (D.put (.string k) (.lit (.int .i64 v))).atKey (.string s) (.lit (.int .i64 0)) = .lit (.int .i64 u) := by
  intro s
  unfold putF
  by_cases h : s = k
  · subst h
    rw [if_pos rfl]
    exact ⟨has_put_same hm (k := .string s) trivial _, fun u hu => by injection hu with hu; subst hu; exact atKey_put_same hm (k := .string s) trivial _ _⟩
  · rw [if_neg h]
    have hne : (Lit.string s) ≠ .string k := fun e => h (by injection e)
    exact ⟨(has_put_other hne _).trans (hF s).1, fun u hu => (atKey_put_other hne _ _).trans ((hF s).2 u hu)⟩
theorem keyS {s : ByteArray} (h : s.size ≤ maxLen) : keyOf Tryd.prog 9 (.string s) = some (.string s.data.toList) := Go.WideMaps.keyOf_string_mk Tryd.underlying9 h
section
variable {w : World} {ops : Array Oper} {rest : List Oper} {o : Oper} {a : Act} {Q : Exit → Act → World → Prop}
theorem wp_look (hg : o.guard = none) (m x : Operand) (hop : o.op = Op.lookup 86 m x true) {b n : Nat} {F : FM} (hm : a.eval m = .map (some b)) (hF : MapF w b n F) {s : ByteArray} (hs : s.size ≤ maxLen) (hx : a.eval x = .string s) {r : Option Int} (hr : F s.data.toList = r)
    (hK : wpList Tryd.prog ops Q rest (a.put o.dst (.tuple #[.int .i64 (r.getD 0), .bool r.isSome])) w) : wpList Tryd.prog ops Q (o :: rest) a w := by
  obtain ⟨D, hD, hF⟩ := hF
  refine wpList_lookup_own_ok_int _ hg m x 86 hop 9 3 .i64 lawM Tryd.underlying86 Tryd.underlying3 (zeroM _) b n D hm hD _ _ hx (keyS hs) ?_
  intro c hat hwc
  obtain ⟨h1, h2⟩ := hF s.data.toList
  rw [h1]
  rw [hr] at h1 h2 ⊢
  cases r with
  | none =>
    rw [Maps.atKey_of_not_has (by rw [h1]; rfl)] at hat
    injection hat with hat
    injection hat with _ hat
    subst hat
    exact hK
  | some v =>
    rw [h2 v rfl] at hat
    injection hat with hat
    injection hat with _ hat
    subst hat
    exact hK
theorem wp_look_some (hg : o.guard = none) (m x : Operand) (hop : o.op = Op.lookup 86 m x true) {b n : Nat} {F : FM} (hm : a.eval m = .map (some b)) (hF : MapF w b n F) {s : ByteArray} (hs : s.size ≤ maxLen) (hx : a.eval x = .string s) {v : Int} (hr : F s.data.toList = some v)
    (hK : wpList Tryd.prog ops Q rest (a.put o.dst (.tuple #[.int .i64 v, .bool true])) w) : wpList Tryd.prog ops Q (o :: rest) a w := wp_look hg m x hop hm hF hs hx hr hK
theorem wp_look_none (hg : o.guard = none) (m x : Operand) (hop : o.op = Op.lookup 86 m x true) {b n : Nat} {F : FM} (hm : a.eval m = .map (some b)) (hF : MapF w b n F) {s : ByteArray} (hs : s.size ≤ maxLen) (hx : a.eval x = .string s) (hr : F s.data.toList = none)
    (hK : wpList Tryd.prog ops Q rest (a.put o.dst (.tuple #[.int .i64 0, .bool false])) w) : wpList Tryd.prog ops Q (o :: rest) a w := wp_look hg m x hop hm hF hs hx hr hK
theorem wp_put (hg : o.guard = none) (m x v : Operand) (hop : o.op = Op.mapUpdate 86 m x v) {b n : Nat} {F : FM} (hm : a.eval m = .map (some b)) (hF : MapF w b n F) (hn : n < maxLen) {s : ByteArray} (hs : s.size ≤ maxLen) {c : Int} (hx : a.eval x = .string s) (hv : a.eval v = .int .i64 c) (hc : (Lit.int .i64 c).wf = true)
    (hK : ∀ w', MapF w' b (n + 1) (putF F s.data.toList c) → w.grownBy w' (some b) → wpList Tryd.prog ops Q rest (a.put o.dst undef) w') : wpList Tryd.prog ops Q (o :: rest) a w := by
  obtain ⟨D, hD, hF⟩ := hF
  refine wpList_mapUpdate_own _ hg m x v 86 hop 9 3 lawM Tryd.underlying86 (plainElem Tryd.prog 3) b n D hm hD hn _ _ _ hx hv (keyS hs) _ [] (plainElem_int Tryd.underlying3 hc) ?_
  intro w1 h1 g1
  exact hK w1 ⟨_, h1, MapF.put_eq hD.isMap hF _ _⟩ g1
end
end Go.Proofs.YtojkonoffdlbpaaDoor
