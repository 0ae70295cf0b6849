/-
  The walks of the document's cursor: Bytes; no statement is proved here.
-/
import Derived.Test.YtpkccnoipbgnmaaTells
import Derived.Test.YtpkccnoipbgnmaaDTakeB
import Derived.Deep.RegionLaw
namespace Go.Proofs.Ytpkccnoipbgnmaa
open Go.RowKit
set_option linter.unusedVariables false

theorem step_app1 {w0 w : World} {ops : Array Oper} {o : Oper} {a : Act} {K : Act → World → Prop} {Q : Exit → Act → World → Prop} {E : Prop} (hgd : o.guard = none) (s x : Operand)
    (ho : o.op = .call { callee := .builtin .append, args := #[s, x], argTypes := #[22, 22] }) {base : Nat} {v : Value} {l : List Int} {c : Int} {ad : Addr} {cp : Nat}
    (hs : a.eval s = v) (hx : a.eval x = .slice (some ad) 1 cp) (hh : Has base w0 w v l) (hc : w.cell? ad = some (.int .u8 c)) (hlen : l.length ≤ 70368744177664)
    (h : ∀ v' w', Has base w0 w' v' (l ++ [c]) → K (a.put o.dst v') w') :
    if Region.wanted o (yielded ops a.tmps) = true then Oper.wp Try.prog o a w K Q else E := by
  have hw : Region.wanted o (yielded ops a.tmps) = true := by simp [Region.wanted, hgd]
  rw [if_pos hw]
  obtain ⟨i0, hi, hz0, hz1, hz2⟩ := info_parts Try.info5
  obtain ⟨hown, hb, hle⟩ := hh
  refine wp_append_own _ s x 22 ho base 5 i0 (.int .u8 0) 1 1 Try.underlying22 hi hz0 hz1 hz2 rfl (by decide) v l.length (U8 l) hs hown ad 1 cp [.int .u8 c] hx rfl ?_ (by simp [Value.oneCell']) (by unfold maxLen; omega) (by omega) hle ?_
  · intro j u hj
    match j, hj with
    | 0, hj => simp at hj; subst hj; simpa [Addr.add] using hc
  · intro v' w' ho' hg _
    refine h v' w' ⟨?_, hb.grown hg hle (fun k hk => (hown.lt k hk).1), Nat.le_trans hle hg.size⟩
    rw [U8_snoc, List.length_append]; exact ho'
theorem Has.alloc {base : Nat} {w0 w : World} {v : Value} {l : List Int} (h : Has base w0 w v l) (o : Obj) : Has base w0 (w.alloc o) v l := h.grew ((Below.refl _ _).alloc (Nat.le_refl _) _)
theorem Has.drew {base : Nat} {w0 w : World} {v : Value} {l : List Int} (h : Has base w0 w v l) : Has base w0 w.drew v l := h.grew (Below.refl _ _).drew
theorem Has.drewN {base : Nat} {w0 w : World} {v : Value} {l : List Int} (h : Has base w0 w v l) (n : Nat) : Has base w0 (w.drewN n) v l := h.grew (Below.drewN' w n)
theorem seg_snoc {l : List Int} {F k : Nat} (h : F + k < l.length) : seg l F (F + k) ++ [l.getD (F + k) 0] = seg l F (F + (k + 1)) := by
  apply List.ext_getElem?
  intro i
  simp only [seg, List.getElem?_append, List.getElem?_drop, List.getElem?_take, List.length_drop, List.length_take]
  have e : min (F + k) l.length - F = k := by omega
  rw [e]
  by_cases h1 : i < k
  · rw [if_pos h1, if_pos (by omega), if_pos (by omega)]
  · rw [if_neg h1]
    by_cases h2 : i = k
    · subst h2; rw [if_pos (by omega)]; simp [List.getD, h]
    · rw [if_neg (by omega), List.getElem?_eq_none (by simp; omega)]

set_option maxRecDepth 100000 in
set_option maxHeartbeats 2000000 in
theorem dbytes_good (bd : Nat) (l : List Int) (F T n : Nat) (pl : Int) (a : Option Addr) (cap : Nat) (w : World) (h : w.heap[bd]? = some (dcur (.slice a l.length cap) F T pl 0)) (hR : Reads w (.slice a l.length cap) l) (hft : F + n ≤ T) (ht : T ≤ l.length) (hlen : l.length ≤ 140737488351232) (hn' : n ≤ 4294967295) :
    Calls Try.prog 29 #[.pointer (some ⟨bd, 0, none⟩), .int .u32 n] w fun en w' => ∃ v', en = .returned v' ∧ Reads w' v' (seg l F (F + n)) ∧ Put bd (dcur (.slice a l.length cap) ((F : Int) + n) T pl 0) w w' := by
  have hp := Put.refl h
  have hlt := lt_of_obj h
  have c1 := cell_of h 1
  have c2 := cell_of h 2
  have c4 := cell_of h 4
  simp at c1 c2 c4
  have hd : decide ((T : Int) - (F : Int) < (n : Int)) = false := decide_eq_false (by omega)
  have HH : Hid (w.heap[bd]? = some (dcur (.slice a l.length cap) F T pl 0)) := h
  have HR : Hid (Reads w (.slice a l.length cap) l) := hR
  have HP : Hid (Put bd (dcur (.slice a l.length cap) F T pl 0) w w) := hp
  clear h hR hp
  go_enter Try.func29, Try.ntmps29
  go_wp2
  go_quiet (fail)
  go_wp2
  go_loopw [5, 6] (fun v i wr => ∃ k : Nat, k ≤ n ∧ i = .int .i64 k ∧ Has w.heap.size w wr v (seg l F (F + k)))
    (fun _ i _ => n - (intOf i).toNat)
  case atStart => exact ⟨0, by omega, rfl, by rw [Nat.add_zero, show seg l F F = [] from by simp [seg]]; exact (Has.nil w).drewN _⟩
  case round =>
    obtain ⟨k, hk, rfl, hh⟩ := hrel
    have hb := hh.below
    have hd1 : wr.heap[bd]? = some (dcur (.slice a l.length cap) F T pl 0) := (hb.block bd hlt).trans HH.out
    have d0 := cell_of hd1 0
    have d1 := cell_of hd1 1
    simp at d0 d1
    by_cases hkn : k < n
    · obtain ⟨c, hcc⟩ : ∃ c, c = l.getD (F + k) 0 := ⟨_, rfl⟩
      have HS : Hid (seg l F (F + k) ++ [c] = seg l F (F + (k + 1))) := by rw [hcc]; exact seg_snoc (by omega)
      have HL : Hid ((seg l F (F + k)).length ≤ 70368744177664) := by show _ ≤ _; rw [seg_len (by omega) (by omega)]; omega
      have hR1 := HR.out.below hb
      obtain ⟨a', cap', hv, _, _, _, hor⟩ := hR1
      rcases hor with hnil | ⟨b, off, ha, hcell⟩
      · rw [hnil] at ht; simp at ht; omega
      · injection hv with hva _ hvc
        subst hva; subst hvc; subst ha
        have hc1 := hcell (F + k) (by omega)
        rw [← hcc] at hc1
        have q1 : (0 : Int) ≤ (F : Int) + (k : Int) := by omega
        have q2 : (F : Int) + (k : Int) < (l.length : Int) := by omega
        have hwr : IntKind.i64.wrap ((F : Int) + (k : Int)) = (F : Int) + (k : Int) := by rw [IntKind.wrap_i64]; omega
        have htn : ((F : Int) + (k : Int)).toNat = F + k := by omega
        have HHh : Hid (Has w.heap.size w wr u5 (seg l F (F + k))) := hh
        have HC : Hid (∀ t, ((wr.alloc (.cells #[.int .u8 c] t)).cell? ⟨wr.heap.size, 0, none⟩ = some (.int .u8 c))) := fun t => by have := cell_of (new_obj wr (.cells #[.int .u8 c] t (0, 0))) 0; simp at this ⊢
        clear hcell hcc hh hb hd1 hd c1 c2 c4
        go_wp2
        go_region_law (refine step_app1 rfl (.tmp 37) (.tmp 50) rfl rfl rfl (HHh.out.alloc _).drew (HC.out _) HL.out ?_; intro v' w1 hh1)
        all_goals
          go_wp2
          go_roundw
          case rel => exact ⟨k + 1, by omega, by go_num, by rw [← HS.out]; exact hh1⟩
          case measure => simp [intOf]; omega
    · have hkn' : k = n := by omega
      have hR1 := hh.reads
      have HP1 : Hid (Put bd (dcur (.slice a l.length cap) F T pl 0) w wr) := Put.of_below hb HH.out
      have fz := free_of hd1 1
      have HD1 : Hid (wr.heap[bd]? = some (dcur (.slice a l.length cap) F T pl 0)) := hd1
      have HR1 : Hid (Reads wr u5 (seg l F (F + k))) := hR1
      subst hkn'
      clear hR1 hh hb hd1 hd c1 c2 c4
      go_wp2
      go_ret
      refine ⟨_, rfl, ?_, HP1.out.setOwn 1 _⟩
      exact HR1.out.put HD1.out dcur_no ((Put.refl HD1.out).setOwn 1 _)
end Go.Proofs.Ytpkccnoipbgnmaa
