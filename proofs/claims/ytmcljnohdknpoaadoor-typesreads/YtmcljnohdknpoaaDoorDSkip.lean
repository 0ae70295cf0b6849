/-
  The document's reading: the walks of blank, skip; no statement is proved here.
-/
import Derived.Test.YtmcljnohdknpoaaDoorTab
namespace Go.Proofs.YtmcljnohdknpoaaDoor
open Go.RowKit
set_option linter.unusedVariables false
set_option linter.unusedSimpArgs false

theorem blank_any (c : Nat) (w : World) :
    Calls Tryd.prog 62 #[.int .u8 (c : Int)] w fun e w' => e = .returned (.bool (bl c)) ∧ w' = w := by
  have e1 : ((c : Int) == 32) = (c == 32) := by rw [Bool.eq_iff_iff]; simp; omega
  have e2 : ((c : Int) == 9) = (c == 9) := by rw [Bool.eq_iff_iff]; simp; omega
  have e3 : ((c : Int) == 10) = (c == 10) := by rw [Bool.eq_iff_iff]; simp; omega
  unfold bl
  rw [← e1, ← e2, ← e3]
  clear e1 e2 e3
  generalize (c : Int) = x
  obtain ⟨r, hr⟩ : ∃ r, r = (x == 32 || x == 9 || x == 10) := ⟨_, rfl⟩
  rw [← hr]
  have HR : Hid (r = (x == 32 || x == 9 || x == 10)) := hr
  clear hr
  cases h1 : (x == 32) <;> cases h2 : (x == 9) <;> (go_enter Tryd.func62, Tryd.ntmps62; go_wp2; all_goals (go_ret; refine ⟨?_, rfl⟩; rw [HR.out]; simp_all))

/- The document's reading: the text, the place, whether a fault was met. -/
def rdg (s : ByteArray) (p : Nat) (bad : Bool) : Obj := .cells #[.string s, .int .i64 (p : Int), .bool bad] 50 (0, 0)
def GD (w : World) (b : Nat) (s : ByteArray) (p : Nat) : Prop := ∃ q, w.heap[b]? = some (rdg s q false) ∧ q ≤ s.size ∧ skp s q = p
def BD (w : World) (b : Nat) (s : ByteArray) (f : Nat) : Prop := w.heap[b]? = some (rdg s f true)
theorem GD.at_ {w : World} {b : Nat} {s : ByteArray} {p : Nat} (h : GD w b s p) : At s p := by
  obtain ⟨q, _, h1, rfl⟩ := h
  exact At.skp h1
theorem skp_at {s : ByteArray} {p : Nat} (h : At s p) : skp s p = p := skp_off h.2
theorem rdg_set1 {w : World} {b : Nat} {s : ByteArray} {q : Nat} {bad : Bool} (h : w.heap[b]? = some (rdg s q bad)) (k : Nat) : (w.setCell ⟨b, 1, none⟩ (.int .i64 (k : Int))).heap[b]? = some (rdg s k bad) := by
  rw [heap_set h]; rfl
theorem rdg_set2 {w : World} {b : Nat} {s : ByteArray} {q : Nat} {bad : Bool} (h : w.heap[b]? = some (rdg s q bad)) (c : Bool) : (w.setCell ⟨b, 2, none⟩ (.bool c)).heap[b]? = some (rdg s q c) := by
  rw [heap_set h]; rfl
def atD (w : World) (b : Nat) : Nat := match w.cell? ⟨b, 1, none⟩ with | some (.int _ q) => q.toNat | _ => 0
theorem atD_rdg {w : World} {b : Nat} {s : ByteArray} {q : Nat} {bad : Bool} (h : w.heap[b]? = some (rdg s q bad)) : atD w b = q := by
  unfold atD
  rw [cell_of h]
  simp
set_option maxRecDepth 100000 in
set_option maxHeartbeats 2000000 in
theorem dskip_bad (b : Nat) (s : ByteArray) (f : Nat) (w : World) (h : w.heap[b]? = some (rdg s f true)) :
    Calls Tryd.prog 44 #[.pointer (some ⟨b, 0, none⟩)] w fun en w' => en = .returned (.tuple #[]) ∧ ∃ n, w' = w.drewN n := by
  have c2 := cell_of h 2
  simp at c2
  clear h
  go_enter Tryd.func44, Tryd.ntmps44
  go_wp2
  go_loopw [] (fun w' => w' = w) (fun w' => 0)
  case atStart => rfl
  case round =>
    obtain rfl := hrel
    go_wp2
    go_quiet (fail)
    go_wp2
    go_end0
    exact ⟨rfl, _, rfl⟩
set_option maxRecDepth 100000 in
set_option maxHeartbeats 2000000 in
theorem dskip_good (b : Nat) (s : ByteArray) (p : Nat) (w : World) (h : w.heap[b]? = some (rdg s p false)) (hp : p ≤ s.size) (hs : s.size ≤ 65536) :
    Calls Tryd.prog 44 #[.pointer (some ⟨b, 0, none⟩)] w fun en w' => en = .returned (.tuple #[]) ∧ Turn [b] w w' ∧ w'.heap[b]? = some (rdg s (skp s p) false) := by
  have HH : Hid (w.heap[b]? = some (rdg s p false)) := h
  clear h
  go_enter Tryd.func44, Tryd.ntmps44
  go_wp2
  go_loopw [] (fun w' => ∃ q : Nat, q ≤ s.size ∧ Hid (skp s q = skp s p) ∧ Hid (Turn [b] w w') ∧ Hid (w'.heap[b]? = some (rdg s q false))) (fun w' => s.size - atD w' b)
  case atStart => exact ⟨p, hp, rfl, Turn.refl _ _, HH⟩
  case round =>
    obtain ⟨q, hq, HK, HT, HB⟩ := hrel
    have c0 := cell_of HB.out 0
    have c1 := cell_of HB.out 1
    have c2 := cell_of HB.out 2
    have z1 := free_of HB.out 1
    simp at c0 c1 c2
    by_cases hlt : q < s.size
    · have hb := bt_get hlt
      have C : Hid (∀ w : World, Calls Tryd.prog 62 #[.int .u8 ((s[q].toNat : Nat) : Int)] w fun e w' => e = .returned (.bool (bl (bt s q))) ∧ w' = w) := by
        intro w
        rw [hb]
        exact blank_any _ w
      have hd : decide ((q : Int) < (s.size : Int)) = true := by simpa using hlt
      by_cases hc : bl (bt s q) = true
      · rw [hc] at C
        clear hb
        go_wp2_with fail
        go_quiet ((go_at_call 62; exact Calls.quiet_of_same (C.out _)))
        rename_i nq
        go_wp2
        go_roundw
        case rel =>
          refine ⟨q + 1, by omega, (show skp s (q + 1) = skp s p by rw [← HK.out, skp_on hlt hc]), ?_, ?_⟩
          · exact (HT.out.drewN nq).set (p := ⟨b, 1, none⟩) (Or.inl (by simp)) _
          · exact rdg_set1 (rdr_drewN HB.out nq) (q + 1)
        case measure =>
          rw [atD_rdg HB.out]
          have := atD_rdg (rdg_set1 (rdr_drewN HB.out nq) (q + 1))
          rw [show ((q + 1 : Nat) : Int) = (q : Int) + 1 from by omega] at this
          rw [this]
          omega
      · have hc' : bl (bt s q) = false := by simpa using hc
        rw [hc'] at C
        have hk := skp_off (fun h => hc h.2 : ¬ (q < s.size ∧ bl (bt s q) = true))
        clear hb
        go_wp2_with fail
        go_quiet ((go_at_call 62; exact Calls.quiet_of_same (C.out _)))
        go_wp2
        go_end0
        refine ⟨rfl, HT.out.drewN _, ?_⟩
        rw [← HK.out, hk]
        exact rdr_drewN HB.out _
    · have hd : decide ((q : Int) < (s.size : Int)) = false := by simp; omega
      have hk := skp_off (fun h => hlt h.1 : ¬ (q < s.size ∧ bl (bt s q) = true))
      go_wp2_with fail
      go_quiet (fail)
      go_wp2
      go_end0
      refine ⟨rfl, HT.out.drewN _, ?_⟩
      rw [← HK.out, hk]
      exact rdr_drewN HB.out _
end Go.Proofs.YtmcljnohdknpoaaDoor
