/-
  The walk of inum.Ops: a slice of its own that holds all opcodes of operators, rising; no statement is proved here.
-/
import Derived.Test.YtolllelejdnjlaaLeaf
import Derived.Test.YtolllelejdnjlaaRefN
import Derived.Test.YtolllelejdnjlaaKnowW
import Derived.Maps.AppendAt
import Derived.Laws.BytesArg
import Derived.Laws.IdiomStrings
import Derived.Laws.AppendOwnNone
namespace Go.Proofs.Ytolllelejdnjlaa
open Go.RowKit
set_option linter.unusedVariables false
set_option linter.unusedSimpArgs false

theorem Try.info3 : (Try.prog.info? 3).map (fun i => (i.zero, i.size, i.bytes)) = some (some (.int .i64 0), 1, 8) := by kernel_rfl
def I64 (l : List Int) : List Value := l.map (Value.int .i64)
theorem I64_snoc (l : List Int) (c : Int) : I64 (l ++ [c]) = I64 l ++ [.int .i64 c] := by simp [I64]
def Has (base : Nat) (w0 w : World) (v : Value) (l : List Int) : Prop := w.ownsRow base 3 1 v l.length (I64 l) ∧ Below base w0 w ∧ base ≤ w.heap.size
theorem Has.nil (w : World) : Has w.heap.size w w (.slice none 0 0) [] := ⟨World.ownsRow_nil _ _ _ _, Below.refl _ _, Nat.le_refl _⟩
theorem wp_app1 {w0 w : World} {ops : Array Oper} {rest : List Oper} {o : Oper} {a : Act} {Q : Exit → Act → World → Prop} (hgd : o.guard = none) (s x : Operand)
    (ho : o.op = .call { callee := .builtin .append, args := #[s, x], argTypes := #[31, 31] }) {base : Nat} {v : Value} {l : List Int} {c : Int} {t : TypeId}
    (hs : a.eval s = v) (hx : a.eval x = .slice (some ⟨w.heap.size, 0, none⟩) 1 1) (hh : Has base w0 w v l) (hlen : l.length ≤ 1000)
    (h : ∀ v' w', Has base w0 w' v' (l ++ [c]) → wpList Try.prog ops Q rest (a.put o.dst v') w') :
    wpList Try.prog ops Q (o :: rest) a (w.alloc (.cells #[.int .i64 c] t)) := by
  obtain ⟨i0, hi, hz0, hz1, hz2⟩ := info_parts Try.info3
  obtain ⟨hown, hb, hle⟩ := hh
  refine wpList_append_own _ hgd s x 31 ho base 3 i0 (.int .i64 0) 1 8 Try.underlying31 hi hz0 hz1 hz2 rfl (by decide) v l.length (I64 l) hs (hown.alloc _) ⟨w.heap.size, 0, none⟩ 1 1 [.int .i64 c] hx rfl (cell_one_new _ _ _) (by simp [Value.oneCell']) (by unfold maxLen; omega) (by omega) (by simp; omega) ?_
  intro v' w' ho' hg _
  refine h v' w' ⟨?_, (hb.alloc hle _).grown hg (by simp; omega) (fun k hk => (hown.lt k hk).1), ?_⟩
  · rw [I64_snoc, List.length_append]; exact ho'
  · have := hg.size; simp at this; omega
theorem Has.grew {base : Nat} {w0 w w' : World} {v : Value} {l : List Int} (h : Has base w0 w v l) (hb : Below w.heap.size w w') : Has base w0 w' v l := by
  obtain ⟨ho, h1, h2⟩ := h
  refine ⟨ho.kept (w' := w') (row := none) ⟨hb.os, hb.tape, hb.output, hb.size, fun k hk _ => hb.block k hk⟩ ?_, h1.trans (hb.mono h2), Nat.le_trans h2 hb.size⟩
  cases v.ownBlock <;> simp
def Reads (w : World) (v : Value) (l : List Int) : Prop :=
  ∃ a cap, v = .slice a l.length cap ∧ (l = [] ∨ ∃ b off, a = some ⟨b, off, none⟩ ∧ ∀ j, j < l.length → w.cell? ⟨b, off + j, none⟩ = some (.int .i64 (l.getD j 0)))
theorem Has.reads {base : Nat} {w0 w : World} {v : Value} {l : List Int} (h : Has base w0 w v l) : Reads w v l := by
  obtain ⟨ho, _, _⟩ := h
  have ho' := ho
  obtain ⟨hl, h | ⟨g, cap, cur, hv, hg, hh, h1, h2, h3, h4⟩⟩ := ho
  · obtain ⟨hv, hn⟩ := h
    have : l = [] := List.eq_nil_of_length_eq_zero hn
    subst this
    exact ⟨none, 0, hv, Or.inl rfl⟩
  · subst hv
    refine ⟨_, cap, rfl, Or.inr ⟨g, 0, rfl, fun j hj => ?_⟩⟩
    rw [Nat.zero_add, ho'.cellAt j (by omega)]
    simp [I64, List.getD, hj]
/- All opcodes, rising, from 69 on. -/
def opsTo (k : Nat) : List Int := ((List.range k).map fun (j : Nat) => 69 + (j : Int)).filter fun x => kd x != 0
theorem opsTo_len (k : Nat) : (opsTo k).length ≤ k := by
  unfold opsTo
  exact Nat.le_trans (List.length_filter_le _ _) (by simp)
theorem opsTo_yes {k : Nat} (h : kd (69 + (k : Int)) ≠ 0) : opsTo (k + 1) = opsTo k ++ [69 + (k : Int)] := by
  unfold opsTo
  rw [List.range_succ, List.map_append, List.filter_append]
  simp [h]
theorem opsTo_no {k : Nat} (h : kd (69 + (k : Int)) = 0) : opsTo (k + 1) = opsTo k := by
  unfold opsTo
  rw [List.range_succ, List.map_append, List.filter_append]
  simp [h]
set_option maxRecDepth 100000 in
set_option maxHeartbeats 1000000 in
theorem Ops_any (w : World) : Calls Try.prog 15 #[] w fun e w' => ∃ v, e = .returned v ∧ Has w.heap.size w w' v (opsTo 128) := by
  have hha : Hid (Has w.heap.size w w (.slice none 0 0) (opsTo 0)) := Has.nil w
  go_enter Try.func15, Try.ntmps15
  go_wp2_with fail
  go_loopw [1, 2] (fun v i wr => ∃ k : Nat, i = .int .i64 (69 + (k : Int)) ∧ k ≤ 128 ∧ Has w.heap.size w wr v (opsTo k)) (fun _ i _ => 200 - (intOf i).toNat)
  case atStart => exact ⟨0, rfl, by omega, hha.out⟩
  case round =>
    obtain ⟨k, rfl, hk, hh⟩ := hrel
    have HH : Hid (Has w.heap.size w wr _ (opsTo k)) := hh
    clear hh hha
    by_cases hlt : k < 128
    · have F : Hid (∀ w : World, Calls Try.prog 20 #[.int .i64 (69 + (k : Int))] w fun e w' => e = .returned (.agg #[.int .i64 (kd (69 + (k : Int))), .int .i64 (tk (69 + (k : Int))), .int .i64 (gv (69 + (k : Int)))]) ∧ Grew w w') := fun w => find_any (69 + (k : Int)) w (by omega) (by omega)
      have hy : kd (69 + (k : Int)) ≠ 0 → opsTo (k + 1) = opsTo k ++ [69 + (k : Int)] := opsTo_yes
      have hn : kd (69 + (k : Int)) = 0 → opsTo (k + 1) = opsTo k := opsTo_no
      have HY : Hid (kd (69 + (k : Int)) ≠ 0 → opsTo (k + 1) = opsTo k ++ [69 + (k : Int)]) := hy
      have HN : Hid (kd (69 + (k : Int)) = 0 → opsTo (k + 1) = opsTo k) := hn
      have hlen := opsTo_len k
      clear hy hn
      generalize kd (69 + (k : Int)) = K at *
      generalize tk (69 + (k : Int)) = T at *
      generalize gv (69 + (k : Int)) = G at *
      have f0 := fld0 K T G
      by_cases hz : K = 0
      · have hb : (K != 0) = false := by rw [hz]; rfl
        have HE : Hid (opsTo (k + 1) = opsTo k) := HN.out hz
        clear hz
        go_wp2_with fail
        refine (F.out _).mono ?_
        rintro e w1 ⟨rfl, g1⟩
        have H1 : Hid (Has w.heap.size w w1 _ (opsTo k)) := HH.out.grew g1.1
        clear g1
        go_wp2_with fail
        go_roundw
        case rel => exact ⟨k + 1, by go_num, by omega, by rw [HE.out]; exact H1.out⟩
        case measure => simp [intOf]; omega
      · have hb : (K != 0) = true := by rw [bne_iff_ne]; exact hz
        have HE : Hid (opsTo (k + 1) = opsTo k ++ [69 + (k : Int)]) := HY.out hz
        clear hz
        go_wp2_with fail
        refine (F.out _).mono ?_
        rintro e w1 ⟨rfl, g1⟩
        have H1 : Hid (Has w.heap.size w w1 _ (opsTo k)) := HH.out.grew g1.1
        clear g1
        go_wp2_with (at_builtin; refine wp_app1 rfl _ _ rfl rfl rfl H1.out (by omega) ?_; intro v' w2 hh2)
        go_roundw
        case rel => exact ⟨k + 1, by go_num, by omega, by rw [HE.out]; exact hh2⟩
        case measure => simp [intOf]; omega
    · have HE : Hid (k = 128) := by show _ = _; omega
      go_wp2_with fail
      go_ret
      have hE := HE.out
      subst hE
      exact ⟨_, rfl, HH.out⟩
end Go.Proofs.Ytolllelejdnjlaa
