/-
  The walk of the statements' own spoil; no statement is proved here.
-/
import Derived.Test.YtclamdpbdafmcaaSecs
namespace Go.Proofs.Ytclamdpbdafmcaa
open Go.RowKit
set_option linter.unusedVariables false

/- Bytes of the call's own, whatever they are now. -/
def OwB (B : Nat) (w : World) (v : Value) (l : List Int) : Prop := w.ownsRow B 5 1 v l.length (U8 l)
theorem owb_has {B : Nat} {w : World} {v : Value} {l : List Int} (h : OwB B w v l) (hb : B ≤ w.heap.size) : Has B w w v l := ⟨h, Below.refl _ _, hb⟩
/- Only blocks of S, and blocks that were not there, have turned; v lies in one of them. -/
def InS (S : List Nat) (w : World) (v : Value) : Prop := ∀ k, v.ownBlock = some k → k ∈ S ∨ w.heap.size ≤ k
theorem has_turn {B : Nat} {w0 w w' : World} {v v' : Value} {l : List Int} {S : List Nat} {c : Int} (t : Turn S w0 w) (hi : InS S w0 v) (h : World.grownBy w w' v.ownBlock) : Turn S w0 w' :=
  ⟨h.os.trans t.os, h.tape.trans t.tape, h.output.trans t.output, Nat.le_trans t.size h.size, fun k hk hn => by
    have hne : some k ≠ v.ownBlock := by
      intro e
      rcases hi k e.symm with h1 | h1
      · exact hn h1
      · omega
    exact (h.block k (Nat.lt_of_lt_of_le hk t.size) hne).trans (t.block k hk hn)⟩

/- Where the answer of an append lies: where the slice lay, or in a new block. -/
theorem app_where {B : Nat} {w w' : World} {v v' : Value} {l : List Int} {c : Int} {ty : TypeId} {ad : Addr} {cp : Nat} (hh : OwB B w v l) (hc : ∀ j u, ([.int .u8 c] : List Value)[j]? = some u → w.cell? (ad.add j) = some u) (hlen : l.length ≤ 70368744177664)
    (hr : (Builtin.append_ #[22, 22] ty #[v, .slice (some ad) 1 cp]).run Try.prog w = .ok v' w') : v'.ownBlock = v.ownBlock ∨ v'.ownBlock = some w.heap.size := by
  obtain ⟨i0, hi0, hz0, hz1, hz2⟩ := info_parts Try.info5
  obtain ⟨hl, ⟨rfl, h0⟩ | ⟨g, cap, cur, rfl, hbg, hg, hnc, hcm, hcs, htake⟩⟩ := id hh
  · have h := run_append_nil (P := Try.prog) w 22 ty 5 i0 (.int .u8 0) Try.underlying22 hi0 hz0 ad 1 cp [.int .u8 c] (by rw [hz1]; rfl) hc (by omega) (by omega) (by rw [hz2]; omega)
    rw [h] at hr
    injection hr with h1 h2
    right; rw [← h1]; rfl
  · by_cases hroom : l.length + 1 ≤ cap
    · have h := run_append_room (P := Try.prog) w 22 ty 5 i0 Try.underlying22 hi0 g l.length cap cur hg ad 1 cp [.int .u8 c] (by rw [hz1]; rfl) hc (by simp [Value.oneCell']) hroom (by rw [hz1, hcs]; simp; omega)
      rw [h] at hr
      injection hr with h1 h2
      left; rw [← h1]; rfl
    · have h := run_append_grow (P := Try.prog) w 22 ty 5 i0 (.int .u8 0) Try.underlying22 hi0 hz0 ⟨g, 0, none⟩ l.length cap (U8 l) (by rw [hz1]; simpa using hl) (World.ownsRow.cells hh rfl) ad 1 cp [.int .u8 c] (by rw [hz1]; rfl) hc (by omega) (by omega) (by rw [hz2]; exact growslice_fits (by omega) (by omega))
      rw [h] at hr
      injection hr with h1 h2
      right; rw [← h1]; rfl
theorem wp_app1o {w0 w : World} {ops : Array Oper} {rest : List Oper} {o : Oper} {a : Act} {Q : Exit → Act → World → Prop} (hgd : o.guard = none) (s x : Operand)
    (ho : o.op = .call { callee := .builtin .append, args := #[s, x], argTypes := #[22, 22] }) {B : Nat} {v : Value} {l : List Int} {c : Int} {t : TypeId} {S : List Nat}
    (hs : a.eval s = v) (hx : a.eval x = .slice (some ⟨w.heap.size, 0, none⟩) 1 1) (hh : OwB B w v l) (hB : B ≤ w.heap.size) (ht : Turn S w0 w) (hi : InS S w0 v) (hlen : l.length ≤ 70368744177664)
    (h : ∀ v' w', OwB B w' v' (l ++ [c]) → Turn S w0 w' → InS S w0 v' → B ≤ w'.heap.size → wpList Try.prog ops Q rest (a.put o.dst v') w') :
    wpList Try.prog ops Q (o :: rest) a (w.alloc (.cells #[.int .u8 c] t)) := by
  obtain ⟨i0, hi0, hz0, hz1, hz2⟩ := info_parts Try.info5
  have hown : (w.alloc (.cells #[.int .u8 c] t)).ownsRow B 5 1 v l.length (U8 l) := World.ownsRow.alloc hh _
  refine wpList_plain hgd fun K hK => ?_
  obtain ⟨v', w', hr, h2, h3, h4⟩ := run_append_own (P := Try.prog) (w.alloc (.cells #[.int .u8 c] t)) B 22 o.type 5 i0 (.int .u8 0) 1 1 Try.underlying22 hi0 hz0 hz1 hz2 rfl (by decide) v l.length (U8 l) hown ⟨w.heap.size, 0, none⟩ 1 1 [.int .u8 c] rfl (cell_one_new _ _ _) (by simp [Value.oneCell']) (by unfold maxLen; omega) (by omega) (by simp; omega)
  have hwh := app_where (l := l) hown (cell_one_new _ _ _) hlen hr
  have hT : Turn S w0 w' := has_turn (B := B) (v' := v) (l := l) (c := c) (ht.alloc _) hi h3
  have hsz := ht.size
  unfold Oper.wp execOp
  simp only [ho, resolve, invoke, builtin, Sem.run_bind, Sem.run_pure, Result.andThen_ok, List.map_toArray, List.map_cons, List.map_nil, hs, hx, hr]
  refine hK _ _ (h v' w' ?_ hT ?_ (by have := h3.size; simp at this; omega))
  · unfold OwB; rw [U8_snoc, List.length_append]; exact h2
  · intro k hk
    rcases hwh with e | e
    · exact hi k (by rw [← e]; exact hk)
    · rw [e] at hk
      simp at hk
      right; omega

set_option maxRecDepth 100000 in
set_option maxHeartbeats 2000000 in
theorem spoil_any (B : Nat) (v : Value) (l : List Int) (w : World) (hO : OwB B w v l) (hB : B ≤ w.heap.size) (hlen : l.length ≤ 1048576) :
    Calls Try.prog 21 #[v] w fun en w' => en = .returned (.tuple #[]) ∧ Turn v.ownBlock.toList w w' := by
  have hsh : ∃ a c, v = .slice a l.length c := by
    obtain ⟨_, ⟨rfl, h0⟩ | ⟨g, cap, cur, rfl, _⟩⟩ := id hO
    · exact ⟨none, 0, by rw [h0]⟩
    · exact ⟨_, _, rfl⟩
  obtain ⟨S, hS⟩ : ∃ S, S = v.ownBlock.toList := ⟨_, rfl⟩
  rw [← hS]
  have hI : InS S w v := by intro k hk; left; rw [hS, hk]; simp
  have HS : Hid (S = v.ownBlock.toList) := hS
  have HO : Hid (OwB B w v l) := hO
  have HI : Hid (InS S w v) := hI
  obtain ⟨a, c, rfl⟩ := hsh
  clear hS hO hI
  go_enter Try.func21, Try.ntmps21
  go_wp2_with fail
  go_loopw [2] (fun i wr => ∃ (k : Nat) (l' : List Int), i = .int .i64 k ∧ k ≤ l.length ∧ l'.length = l.length ∧ OwB B wr (.slice a l.length c) l' ∧ Turn S w wr) (fun i _ => l.length - (intOf i).toNat)
  case atStart => exact ⟨0, l, rfl, by omega, rfl, HO.out, Turn.refl _ _⟩
  case round =>
    obtain ⟨k, l', rfl, hk, hl', hO', hT⟩ := hrel
    have HO' : Hid (OwB B wr (.slice a l.length c) l') := hO'
    have HT : Hid (Turn S w wr) := hT
    have HL : Hid (l'.length = l.length) := hl'
    clear hO' hT hl'
    by_cases hlt : k < l.length
    · obtain ⟨g, rfl, hgS⟩ : ∃ g, a = some ⟨g, 0, none⟩ ∧ g ∈ S := by
        obtain ⟨_, ⟨e, h0⟩ | ⟨g, cap, cur, e, _⟩⟩ := id HO.out
        · omega
        · injection e with e1 e2 e3
          exact ⟨g, e1, by rw [HS.out, e1]; simp [Value.ownBlock]⟩
      have ho : wr.ownsRow B 5 1 (.slice (some ⟨g, 0, none⟩) l.length c) l.length (U8 l') := by have := HO'.out; unfold OwB at this; rw [HL.out] at this; exact this
      have cb := ho.cellAt k (by omega)
      have zb := ho.frozenAt k
      have hge : k < l'.length := by rw [HL.out]; exact hlt
      rw [show (U8 l')[k]? = some (.int .u8 (l'.getD k 0)) from by simp [U8, List.getD, hge]] at cb
      obtain ⟨x, hx⟩ : ∃ x, x = l'.getD k 0 := ⟨_, rfl⟩
      rw [← hx] at cb
      have hst := fun u => (ho.stored k u)
      have HST : Hid (∀ u, (wr.setCell ⟨g, k, none⟩ u).ownsRow B 5 1 (.slice (some ⟨g, 0, none⟩) l.length c) l.length ((U8 l').set k u)) := fun u => (hst u).1
      clear hst ho hx hge
      go_wp2_with fail
      go_roundw
      case rel =>
        refine ⟨k + 1, l'.set k (bits .xor .u8 x 85), by go_num, by omega, by rw [List.length_set]; exact HL.out, ?_, HT.out.set (Or.inl hgS) _⟩
        unfold OwB
        rw [List.length_set, HL.out, show U8 (l'.set k (bits .xor .u8 x 85)) = (U8 l').set k (.int .u8 (bits .xor .u8 x 85)) from by simp [U8, List.map_set]]
        exact HST.out _
      case measure => simp [intOf]; omega
    · go_wp2_with fail
      go_loopw [0, 3] (fun b i wr => ∃ (k : Nat) (l' : List Int) (v' : Value), b = v' ∧ i = .int .i64 k ∧ k ≤ 9 ∧ l'.length = l.length + k ∧ OwB B wr v' l' ∧ Turn S w wr ∧ InS S w v' ∧ B ≤ wr.heap.size) (fun _ i _ => 9 - (intOf i).toNat)
      case atStart => exact ⟨0, l', _, rfl, rfl, by omega, HL.out, HO'.out, HT.out, HI.out, Nat.le_trans hB HT.out.size⟩
      case round =>
        obtain ⟨k, l2, v', rfl, rfl, hk9, hl2, hO2, hT2, hI2, hB2⟩ := hrel
        by_cases h9 : k < 9
        · go_wp2_with (at_builtin; refine wp_app1o (v := u0) (l := l2) rfl (.tmp 22) (.tmp 23) rfl rfl rfl hO2 hB2 hT2 hI2 (by omega) ?_; intro v3 w3 hO3 hT3 hI3 hB3)
          go_roundw
          case rel => exact ⟨k + 1, _, _, rfl, by go_num, by omega, by rw [List.length_append, hl2]; rfl, hO3, hT3, hI3, hB3⟩
          case measure => simp [intOf]; omega
        · go_wp2_with fail
          go_end0
          exact ⟨rfl, hT2⟩
end Go.Proofs.Ytclamdpbdafmcaa
