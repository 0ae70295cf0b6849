/-
  The walk of frame.Split; no statement is proved here.
-/
import Derived.Test.YtclamdpbdafmcaaSecs
namespace Go.Proofs.Ytclamdpbdafmcaa
open Go.RowKit
set_option linter.unusedVariables false

set_option maxRecDepth 100000 in
theorem attempt40_any (bc : Nat) (R1 : Int → Int → World → Prop) (R2 : Option Addr → Nat → Nat → World → Prop) (w : World)
    (HC : Calls Try.prog 41 #[.pointer (some ⟨bc, 0, none⟩)] (w.alloc (.cells #[.int .i64 0, .int .i64 0] 65)) fun en w' => w'.heap[w.heap.size]? = some (.cells #[.int .i64 0, .int .i64 0] 65 (0, 0)) ∧
      ((∃ p e, en = .panicked (flt p e) ∧ R1 p e w') ∨ (∃ a n c, en = .returned (.slice a n c) ∧ R2 a n c w'))) :
    Calls Try.prog 40 #[.func (.func 41) #[.pointer (some ⟨bc, 0, none⟩)] #[]] w fun en w' =>
      (∃ p e, en = .returned (.tuple #[.slice none 0 0, .agg #[.int .i64 p, .int .i64 e]]) ∧ ∃ w1, R1 p e w1 ∧ Turn [w.heap.size] w1 w' ∧ w1.heap[w.heap.size]? = some (.cells #[.int .i64 0, .int .i64 0] 65 (0, 0))) ∨
      (∃ a n c, en = .returned (.tuple #[.slice a n c, .agg #[.int .i64 0, .int .i64 0]]) ∧ ∃ w1, R2 a n c w1 ∧ Turn [w.heap.size] w1 w' ∧ w1.heap[w.heap.size]? = some (.cells #[.int .i64 0, .int .i64 0] 65 (0, 0))) := by
  have hmf : ∀ (fn : Fn) (first cap : Array Value) (w : World), (Instr.makeFunc fn first cap).run Try.prog w = .ok (.func fn first cap) w := fun _ _ _ _ => rfl
  go_enter_defers Try.func40, Try.ntmps40
  go_wp2_with fail
  refine HC.mono ?_
  rintro en w1 ⟨hh, ⟨p, e, rfl, hr⟩ | ⟨a, n, c, rfl, hr⟩⟩
  · have HH : Hid (w1.heap[w.heap.size]? = some (.cells #[.int .i64 0, .int .i64 0] 65 (0, 0))) := hh
    have e0 := cell_of hh 0
    have e1 := cell_of hh 1
    simp at e0 e1
    clear hh HC
    go_wp2_with fail
    refine leaves_cons (f := 57) (args := #[.pointer (some ⟨w.heap.size, 0, none⟩)]) (by simp) (by simp [go_sem]) ?_
    refine (caught57 _ _ _ 0 0 [] _ HH.out).mono ?_
    rintro en u' w2 ⟨rfl, rfl, rfl⟩
    simp [Leaves, settle, results, Try.results40, go_sem, e0, e1]
    exact Or.inl ⟨p, e, ⟨rfl, rfl⟩, w1, hr, ((Turn.refl _ _).set (by simp) _).set (by simp) _, HH.out⟩
  · have HH : Hid (w1.heap[w.heap.size]? = some (.cells #[.int .i64 0, .int .i64 0] 65 (0, 0))) := hh
    have z0 := free_of hh 0
    have z1 := free_of hh 1
    have e0 := cell_of hh 0
    have e1 := cell_of hh 1
    simp at e0 e1
    clear hh HC
    go_wp2_with fail
    refine leaves_cons (f := 57) (args := #[.pointer (some ⟨w.heap.size, 0, none⟩)]) (by simp) (by simp [go_sem]) ?_
    refine (idle57 _ _).mono ?_
    rintro en u' w2 ⟨rfl, rfl, rfl⟩
    simp [Leaves, settle, results, Try.results40, go_sem, e0, e1]
    exact Or.inr ⟨a, n, c, ⟨rfl, rfl, rfl⟩, w1, hr, ((Turn.refl _ _).set (by simp) _).set (by simp) _, HH.out⟩

theorem OwnS.form {base : Nat} {w : World} {v : Value} {L : List (Sec × Value)} (h : OwnS base w v L) : ∃ a c, v = .slice a L.length c := by
  obtain ⟨⟨_, ⟨rfl, h0⟩ | ⟨g, cap, cur, rfl, _⟩⟩, _⟩ := h
  · exact ⟨none, 0, by rw [h0]⟩
  · exact ⟨_, _, rfl⟩

set_option maxRecDepth 100000 in
set_option maxHeartbeats 1000000 in
theorem split_any (v : Value) (l : List Int) (w : World) (hR : Reads w v l) (hb : Byt l) (hlen : l.length ≤ 140737488351232) :
    Calls Try.prog 18 #[v] w fun en w' => ∃ vs L, en = .returned (.tuple #[vs, .int .i64 (split l).2.1, .int .i64 (split l).2.2]) ∧ L.map Prod.fst = (split l).1 ∧ OwnS w.heap.size w' vs L ∧ Grew w w' := by
  obtain ⟨a, cap, rfl⟩ := hR.len
  by_cases hl : 1048576 < l.length
  · have e : split l = ([], 0, 2) := by unfold split; rw [if_pos hl]
    rw [e]
    have d : decide ((1048576 : Int) < l.length) = true := by simp; omega
    clear e hR hb
    go_enter Try.func18, Try.ntmps18
    go_wp2_with fail
    go_ret3
    exact ⟨_, [], rfl, rfl, OwnS.nil _ _, Grew.refl _⟩
  · rw [split_body (by omega)]
    have d : decide ((1048576 : Int) < l.length) = false := by simp; omega
    have hmf : ∀ (fn : Fn) (first cap : Array Value) (w : World), (Instr.makeFunc fn first cap).run Try.prog w = .ok (.func fn first cap) w := fun _ _ _ _ => rfl
    obtain ⟨W1, hW1⟩ : ∃ W1, W1 = w.alloc (rdr (.slice a l.length cap) 0) := ⟨_, rfl⟩
    have hsz : W1.heap.size = w.heap.size + 1 := by rw [hW1]; simp
    have g1 : Grew w W1 := by rw [hW1]; exact (Grew.refl w).alloc _
    have hw1 : (W1.alloc (.cells #[.int .i64 0, .int .i64 0] 65)).heap[w.heap.size]? = some (rdr (.slice a l.length cap) 0) := by rw [hW1]; exact heap_alloc (heap_alloc_last _ _) _
    have hR1 : Reads (W1.alloc (.cells #[.int .i64 0, .int .i64 0] 65)) (.slice a l.length cap) l := (g1.alloc _).reads hR
    have hf1 : (W1.alloc (.cells #[.int .i64 0, .int .i64 0] 65)).heap[W1.heap.size]? = some (.cells #[.int .i64 0, .int .i64 0] 65 (0, 0)) := heap_alloc_last _ _
    have HA := attempt40_any w.heap.size
      (fun p e w1 => body l = ([], p, e) ∧ Turn [w.heap.size] (W1.alloc (.cells #[.int .i64 0, .int .i64 0] 65)) w1)
      (fun a n c w1 => ∃ L, body l = (L.map Prod.fst, 0, 0) ∧ OwnS w.heap.size w1 (.slice a n c) L ∧ Turn [w.heap.size] (W1.alloc (.cells #[.int .i64 0, .int .i64 0] 65)) w1) W1
      ((sections_any w.heap.size a cap l _ hw1 hR1 hb (by omega)).mono fun en w' ⟨h1, h2⟩ => ⟨h1.other hf1 (by simp; omega), by
        rcases h2 with ⟨p, e, hp, he, rfl⟩ | ⟨L, v', hp, rfl, ho⟩
        · exact Or.inl ⟨p, e, rfl, hp, h1⟩
        · obtain ⟨a', c', rfl⟩ := ho.form
          refine Or.inr ⟨a', _, c', rfl, L, hp, ?_, h1⟩
          exact ⟨ho.1.mono (by simp [hsz]; omega), fun x hx => (ho.2.1 x hx).mono (by simp [hsz]; omega), ho.2.2⟩⟩)
    rw [hsz] at HA
    have hW1' : Hid (W1 = w.alloc (rdr (.slice a l.length cap) 0)) := hW1
    have G1 : Hid (Grew w (W1.alloc (.cells #[.int .i64 0, .int .i64 0] 65))) := g1.alloc _
    obtain ⟨B, hB⟩ : ∃ B, B = body l := ⟨_, rfl⟩
    rw [← hB] at HA ⊢
    subst hW1
    clear hw1 hR1 hf1 hsz hR hb g1 hB hW1'
    go_enter Try.func18, Try.ntmps18
    go_wp2_with fail
    refine HA.mono ?_
    rintro en w2 (⟨p, e, rfl, w1, ⟨hB, t1⟩, t2, hh2⟩ | ⟨a', n', c', rfl, w1, ⟨L, hB, ho, t1⟩, t2, hh2⟩)
    · clear HA
      have HG : Grew w w2 := t2.grew (t1.grew G1.out (by simp)) (by simp)
      have HB : Hid (B = ([], p, e)) := hB
      clear hB t1 t2 hh2
      go_wp2_with fail
      go_quiet (fail)
      go_wp2_with fail
      go_ret3
      refine ⟨_, [], ?_, by rw [HB.out]; rfl, OwnS.nil _ _, (HG.alloc _).drewN _⟩
      rw [HB.out]; rfl
    · clear HA
      have HG : Grew w w2 := t2.grew (t1.grew G1.out (by simp)) (by simp)
      have HB : Hid (B = (L.map Prod.fst, 0, 0)) := hB
      have HO : Hid (OwnS w.heap.size w2 (.slice a' n' c') L) := ho.turn t2 (by simp; exact NoR.of hh2 (by decide) (by decide))
      clear hB t1 t2 hh2 ho
      go_wp2_with fail
      go_quiet (fail)
      go_wp2_with fail
      go_ret3
      refine ⟨_, L, ?_, by rw [HB.out], HO.out.grew (((Grew.refl _).alloc _).drewN _), (HG.alloc _).drewN _⟩
      rw [HB.out]; rfl
end Go.Proofs.Ytclamdpbdafmcaa
