/-
  The walk of frame.Name; no statement is proved here.
-/
import Derived.Test.YtclamdpbdafmcaaNameW
import Derived.Test.YtclamdpbdafmcaaAttempt
namespace Go.Proofs.Ytclamdpbdafmcaa
open Go.RowKit
set_option linter.unusedVariables false

theorem uo_bd (l : List Int) : ∀ (g a : Nat), 0 ≤ (uo l g a).1 ∧ (uo l g a).1 ≤ l.length + 4
  | 0, a => by simp [uo]; omega
  | g + 1, a => by
    rw [uo]
    split
    · split
      · exact uo_bd l g _
      · have := stop_le l a
        simp only; omega
    · simp only; omega
theorem U_bd (l : List Int) : 0 ≤ (U l).1 ∧ (U l).1 ≤ l.length + 4 := uo_bd l _ _

theorem name_ok (bc : Nat) (a : Option Addr) (cap : Nat) (l : List Int) (p : Int) (w : World) (h : w.heap[bc]? = some (rdr (.slice a l.length cap) p)) (hR : Reads w (.slice a l.length cap) l) (hb : Byt l) (hlen : l.length ≤ 140737488351232) (s : List Int) (q : Int) (hn : nm l p = (s, q, 0)) :
    Calls Try.prog 35 #[.pointer (some ⟨bc, 0, none⟩)] w fun en w' => en = .returned (.string (strOfNums s)) ∧ Turn [bc] w w' ∧ w'.heap[bc]? = some (rdr (.slice a l.length cap) q) := by
  rcases nm_cases l p with ⟨n, q', e, h1, he, h2⟩ | ⟨n, N, Q, h1, hN, hp0, hp, hQ, ⟨_, _, h2⟩ | ⟨_, _, h2⟩ | ⟨hN', hs, i, ⟨hu, h2⟩ | ⟨hu, h2⟩⟩⟩
  · rw [h2] at hn; simp only [Prod.mk.injEq] at hn; exact absurd hn.2.2 he
  · rw [h2] at hn; simp at hn
  · rw [h2] at hn; simp at hn
  · rw [h2] at hn; simp at hn
  · rw [h2] at hn
    simp only [Prod.mk.injEq] at hn
    obtain ⟨rfl, rfl, _⟩ := hn
    refine (name_body bc a cap l p w h hR hb hlen n N Q i true h1 hN hN' hQ hs hu (fun h => by cases h)).mono ?_
    rintro en w' ⟨rfl, ht, hh⟩
    exact ⟨rfl, ht, hh⟩
theorem name_bad (bc : Nat) (a : Option Addr) (cap : Nat) (l : List Int) (p : Int) (w : World) (h : w.heap[bc]? = some (rdr (.slice a l.length cap) p)) (hR : Reads w (.slice a l.length cap) l) (hb : Byt l) (hlen : l.length ≤ 140737488351232) (s : List Int) (q e : Int) (hn : nm l p = (s, q, e)) (he : e ≠ 0) :
    Calls Try.prog 35 #[.pointer (some ⟨bc, 0, none⟩)] w fun en w' => en = .panicked (flt q e) ∧ Turn [bc] w w' := by
  rcases nm_cases l p with ⟨n, q', e', h1, he', h2⟩ | ⟨n, N, Q, h1, hN, hp0, hp, hQ, ⟨hN1, hN2, h2⟩ | ⟨hN', hs, h2⟩ | ⟨hN', hs, i, ⟨hu, h2⟩ | ⟨hu, h2⟩⟩⟩
  · rw [h2] at hn; simp only [Prod.mk.injEq] at hn
    obtain ⟨_, rfl, rfl⟩ := hn
    exact name_rd bc a cap l p w h hR hb hlen n q' e' h1 he'
  · rw [h2] at hn; simp only [Prod.mk.injEq] at hn
    obtain ⟨_, rfl, rfl⟩ := hn
    exact name_long bc a cap l p w h hR hb hlen n Q N h1 hN hN1 hN2
  · rw [h2] at hn; simp only [Prod.mk.injEq] at hn
    obtain ⟨_, rfl, rfl⟩ := hn
    exact name_short bc a cap l p w h hR hb hlen n N Q h1 hN hN' hQ hs
  · rw [h2] at hn; simp only [Prod.mk.injEq] at hn
    obtain ⟨_, rfl, rfl⟩ := hn
    have hbd := U_bd ((l.take (Q + N)).drop Q)
    rw [hu] at hbd
    have hl : ((l.take (Q + N)).drop Q).length = N := by simp; omega
    rw [hl] at hbd
    refine (name_body bc a cap l p w h hR hb hlen n N Q i false h1 hN hN' hQ hs hu (fun _ => by simp only at hbd; omega)).mono ?_
    rintro en w' ⟨rfl, ht, hh⟩
    exact ⟨rfl, ht⟩
  · rw [h2] at hn; simp only [Prod.mk.injEq] at hn; exact absurd hn.2.2.symm he
theorem nm_nil {l s : List Int} {p q e : Int} (hn : nm l p = (s, q, e)) (he : e ≠ 0) : s = [] := by
  rcases nm_cases l p with ⟨n, q', e', h1, he', h2⟩ | ⟨n, N, Q, h1, hN, hp0, hp, hQ, ⟨hN1, hN2, h2⟩ | ⟨hN', hs, h2⟩ | ⟨hN', hs, i, ⟨hu, h2⟩ | ⟨hu, h2⟩⟩⟩ <;> rw [h2] at hn <;> simp only [Prod.mk.injEq] at hn
  · exact hn.1.symm
  · exact hn.1.symm
  · exact hn.1.symm
  · exact hn.1.symm
  · exact absurd hn.2.2.symm he

set_option maxRecDepth 100000 in
set_option maxHeartbeats 1000000 in
theorem Name_any (v : Value) (l : List Int) (p : Int) (w : World) (hR : Reads w v l) (hb : Byt l) (hlen : l.length ≤ 140737488351232) :
    Calls Try.prog 12 #[v, .int .i64 p] w fun en w' => en = .returned (.tuple #[.string (strOfNums (nm l p).1), .int .i64 (nm l p).2.1, .int .i64 (nm l p).2.2]) ∧ Grew w w' := by
  obtain ⟨a, cap, rfl⟩ := hR.len
  obtain ⟨s, q, e, hn⟩ : ∃ s q e, nm l p = (s, q, e) := ⟨_, _, _, rfl⟩
  rw [hn]
  have hmf : ∀ (fn : Fn) (first cap : Array Value) (w : World), (Instr.makeFunc fn first cap).run Try.prog w = .ok (.func fn first cap) w := fun _ _ _ _ => rfl
  have hw1 : ((w.alloc (rdr (.slice a l.length cap) p)).alloc (.cells #[.int .i64 0, .int .i64 0] 65)).heap[w.heap.size]? = some (rdr (.slice a l.length cap) p) := heap_alloc (heap_alloc_last _ _) _
  have hR1 : Reads ((w.alloc (rdr (.slice a l.length cap) p)).alloc (.cells #[.int .i64 0, .int .i64 0] 65)) (.slice a l.length cap) l := (((Grew.refl w).alloc _).alloc _).reads hR
  have hf1 : ((w.alloc (rdr (.slice a l.length cap) p)).alloc (.cells #[.int .i64 0, .int .i64 0] 65)).heap[(w.alloc (rdr (.slice a l.length cap) p)).heap.size]? = some (.cells #[.int .i64 0, .int .i64 0] 65 (0, 0)) := heap_alloc_last _ _
  have hsz : (w.alloc (rdr (.slice a l.length cap) p)).heap.size = w.heap.size + 1 := by simp
  have hgr : Grew w ((w.alloc (rdr (.slice a l.length cap) p)).alloc (.cells #[.int .i64 0, .int .i64 0] 65)) := ((Grew.refl w).alloc _).alloc _
  by_cases he : e = 0
  · subst he
    have HA := attempt34_ok w.heap.size (strOfNums s) (fun w1 => Turn [w.heap.size] ((w.alloc (rdr (.slice a l.length cap) p)).alloc (.cells #[.int .i64 0, .int .i64 0] 65)) w1 ∧ w1.heap[w.heap.size]? = some (rdr (.slice a l.length cap) q)) (w.alloc (rdr (.slice a l.length cap) p))
      ((name_ok w.heap.size a cap l p _ hw1 hR1 hb hlen s q hn).mono fun en w' ⟨h1, h2, h3⟩ => ⟨h1, ⟨h2, h3⟩, h2.other hf1 (by simp)⟩)
    rw [hsz] at HA
    clear hn hw1 hR1 hf1 hsz hR hb
    generalize strOfNums s = st at *
    go_enter Try.func12, Try.ntmps12
    go_wp2_with fail
    refine HA.mono ?_
    rintro en w2 ⟨rfl, w1, ⟨ht1, hh1⟩, ht2⟩
    clear HA
    have hh2 := ht2.other hh1 (by simp)
    have c1 := cell_of hh2 1
    simp at c1
    have hlt := lt_of_obj hh2
    have HG : Grew w w2 := ht2.grew (ht1.grew hgr (by simp)) (by simp)
    have hne : w.heap.size ≠ w2.heap.size := by omega
    clear hh2 hh1 ht1 ht2 hgr
    go_wp2_with fail
    go_quiet (fail)
    go_wp2_with fail
    go_ret3
    exact ⟨rfl, (HG.alloc _).drewN _⟩
  · have hs := nm_nil hn he
    subst hs
    have HA := attempt34_bad w.heap.size q e (fun w1 => Turn [w.heap.size] ((w.alloc (rdr (.slice a l.length cap) p)).alloc (.cells #[.int .i64 0, .int .i64 0] 65)) w1) (w.alloc (rdr (.slice a l.length cap) p))
      ((name_bad w.heap.size a cap l p _ hw1 hR1 hb hlen [] q e hn he).mono fun en w' ⟨h1, h2⟩ => ⟨h1, h2, h2.other hf1 (by simp)⟩)
    rw [hsz] at HA
    have he' : (e != 0) = true := by simpa using he
    rw [show strOfNums [] = ⟨#[]⟩ from rfl]
    clear hn hw1 hR1 hf1 hsz hR hb he
    go_enter Try.func12, Try.ntmps12
    go_wp2_with fail
    refine HA.mono ?_
    rintro en w2 ⟨rfl, w1, ht1, ht2⟩
    clear HA
    have HG : Grew w w2 := ht2.grew (ht1.grew hgr (by simp)) (by simp)
    clear ht1 ht2 hgr
    go_wp2_with fail
    go_quiet (fail)
    go_wp2_with fail
    go_ret3
    exact ⟨rfl, (HG.alloc _).drewN _⟩
end Go.Proofs.Ytclamdpbdafmcaa
