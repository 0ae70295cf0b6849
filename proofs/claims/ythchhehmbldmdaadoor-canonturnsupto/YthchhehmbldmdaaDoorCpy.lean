/-
  A map's entries laid into another; no statement is proved here.
-/
import Derived.Test.YthchhehmbldmdaaDoorCMap
import Derived.Test.YthchhehmbldmdaaDoorPlM
import Derived.Maps.RangeWalk
namespace Go.Proofs.YthchhehmbldmdaaDoor
open Go.RowKit Go.Maps
set_option linter.unusedVariables false
set_option linter.unusedSimpArgs false

def tobj (kb : Nat) (iv : Value) : Obj := .cells #[.map (some kb), iv] 53 (0, 0)
def overF (f g : FM) : FM := fun s => match g s with | some v => some v | none => f s
theorem keyS_inv {key : Value} {kl : Lit} (h : keyOf Tryd.prog 9 key = some kl) : ∃ s : ByteArray, key = .string s ∧ kl = .string s.data.toList ∧ s.size ≤ maxLen := by
  have e := keyOf_string (P := Tryd.prog) Tryd.underlying9 key
  rw [e] at h
  unfold mapKey at h
  rw [Tryd.underlying9] at h
  cases key <;> simp at h
  exact ⟨_, rfl, h.2.symm, h.1⟩
set_option maxRecDepth 100000 in
set_option maxHeartbeats 1000000 in
theorem copy_any {w : World} {kb fb nk nf : Nat} {f g : FM} (hk : MapF w kb nk f) (hf : MapF w fb nf g) (hne : kb ≠ fb) (hn : nk + nf ≤ 8388608) :
    Calls Tryd.prog 42 #[.map (some kb), .map (some fb)] w fun en w' => en = .returned UNIT ∧ MapF w' kb (nk + nf) (overF f g) ∧ TurnP (fun x => x = kb) w w' := by
  obtain ⟨D0, hown, hD0⟩ := hf
  have hsz := hown.size_le
  have hbl := hown.lt
  have hkl := hk.lt
  have HK : Hid (MapF w kb nk f) := hk
  clear hk
  go_enter Tryd.func42, Tryd.ntmps42
  go_wp2_with (first
    | (at_range; refine wpList_range_own _ rfl _ 46 rfl 9 3 lawM Tryd.underlying46 _ fb nf _ rfl hown ?_; intro w0 hrg0 hg0 hs0)
    | go_in)
  try go_frame
  have HD0 : Hid (∀ s : List UInt8, Maps.has D0 (.string s) = (g s).isSome ∧ ∀ v, g s = some v → D0.atKey (.string s) (.lit (.int .i64 0)) = .lit (.int .i64 v)) := hD0
  clear hD0
  go_loopw [4] (fun _ wr => ∃ (left : Lit → Bool) (cnt : Nat) (Fo : FM), Hid (wr.ranges Tryd.prog 9 (plainElem Tryd.prog 3) fb w.heap.size nf D0 left cnt) ∧ cnt ≤ Maps.size D0 ∧ Hid (MapF wr kb (nk + (Maps.size D0 - cnt)) Fo) ∧ Hid (∀ s : List UInt8, Fo s = if left (.string s) then f s else overF f g s) ∧ Hid (TurnP (fun x => x = kb) w wr)) (fun _ wr => wr.rangeLeft fb w.heap.size)
  case atStart =>
    have t0 : TurnP (fun x => x = kb) w w0 := ⟨hg0.os, hg0.tape, hg0.output, hg0.size, fun x hx _ => hg0.block x hx (by simp)⟩
    refine ⟨_, _, f, hrg0, Nat.le_refl _, (HK.out.same (hg0.block kb hkl (by simp))).mono (by omega), fun s => ?_, t0⟩
    unfold overF
    obtain ⟨h1, _⟩ := HD0.out s
    rw [h1]
    cases hgs : g s <;> simp
  case round =>
    obtain ⟨left, cnt, Fo, hrg, hcs, hM, hFo, hT⟩ := hrel
    go_wp2_with (first
      | (at_next; refine wpList_next_ranges _ rfl _ rfl 9 lawM (plainElem Tryd.prog 3) (fun x : ByteArray => Value.string x) (fun c : Int => Value.int .i64 c) (fun key kl h => by obtain ⟨s, e, _⟩ := keyS_inv h; exact ⟨s, e⟩) (fun v y hv => by obtain ⟨c, e, _⟩ := plainElem_int_inv Tryd.underlying3 hv; exact ⟨c, e⟩) fb w.heap.size nf D0 left cnt rfl hrg.out ?_ ?_)
      | go_in)
    · intro hc0 hl0
      go_wp2_with fail
      try go_end0
      refine ⟨rfl, ?_, hT.out⟩
      have e : Fo = overF f g := by
        funext s
        rw [hFo.out s, hl0 (.string s)]
        rfl
      rw [e] at hM
      exact hM.out.mono (by omega)
    · intro x c kl y ys w1 cnt1 hkx hlx hv hat hrg1 hlt hg1 hs1 hen
      obtain ⟨s, es, rfl, hss⟩ := keyS_inv hkx
      injection es with es
      subst es
      obtain ⟨c', ec, hz, hwc⟩ := plainElem_int_inv Tryd.underlying3 hv
      injection ec with _ ec
      subst ec
      injection hz with hz _
      subst hz
      have hgs : Hid (g x.data.toList = some c) := by
        obtain ⟨h1, h2⟩ := HD0.out x.data.toList
        have h3 : Maps.has D0 (.string x.data.toList) = true := Maps.has_true_of_atKey hat
        rw [h3] at h1
        cases hq : g x.data.toList with
        | none => rw [hq] at h1; cases h1
        | some v =>
          have := h2 v hq
          rw [hat] at this
          injection this with this
          injection this with _ this
          rw [this]
          exact rfl
      have hkr : kb ≠ w.heap.size := by omega
      have hM1 : Hid (MapF w1 kb (nk + (Maps.size D0 - cnt)) Fo) := hM.out.same (hg1.block kb hM.out.lt (fun e => hkr (by injection e)))
      have hrg1' : Hid (w1.ranges Tryd.prog 9 (plainElem Tryd.prog 3) fb w.heap.size nf D0 (fun z => left z && !z.sameKey (.string x.data.toList)) cnt1) := hrg1
      have HG1 : Hid (TurnP (fun z => z = w.heap.size) wr w1) := ⟨hg1.os, hg1.tape, hg1.output, hg1.size, fun z hz hn => hg1.block z hz (fun e => hn (by injection e))⟩
      have HL : Hid (wr.rangeLeft fb w.heap.size = cnt) := hrg.out.left_eq
      clear hrg1 hg1 hv hat hM hrg
      go_wp2_with (first
        | (at_mapUpdate; refine wp_put rfl _ _ _ rfl rfl hM1.out (by unfold maxLen; omega) hss rfl rfl hwc ?_; intro w2 hM2 hg2; go_frame)
        | go_in)
      have hrg2 := hrg1'.out.kept hg2 (fun e => hne (by injection e with e; exact e.symm)) (fun e => hkr (by injection e with e; exact e.symm))
      go_roundw
      case rel =>
        refine ⟨_, cnt1, _, hrg2, by omega, hM2.mono (by omega), fun s => ?_, ?_⟩
        · unfold putF
          by_cases he : s = x.data.toList
          · subst he
            rw [if_pos rfl]
            have : ((Lit.string x.data.toList).sameKey (.string x.data.toList)) = true := WideAt.sameKey_self (a := .string x.data.toList) trivial
            rw [this]
            simp only [Bool.not_true, Bool.and_false]
            unfold overF
            rw [hgs.out]
            rfl
          · rw [if_neg he, hFo.out s]
            have : (Lit.string s).sameKey (.string x.data.toList) = false := Maps.sameKey_ne (fun e => he (by injection e))
            rw [this]
            simp
        · have t2 : TurnP (fun z => z = kb) w1 w2 := ⟨hg2.os, hg2.tape, hg2.output, hg2.size, fun z hz hn => hg2.block z hz (fun e => hn (by injection e))⟩
          exact (hT.out.trans' HG1.out (fun z hz => Or.inr (by omega))).trans t2
      case measure => rw [hrg2.left_eq, HL.out]; exact hlt
end Go.Proofs.YthchhehmbldmdaaDoor
