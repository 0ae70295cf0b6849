/-
  The walk of frame.Name; no statement is proved here.
-/
import Derived.Test.YtchehejjdinifaaGreatDoorN2W
import Derived.Test.YtchehejjdinifaaGreatDoorN2F
import Derived.Defers
import Derived.Recover
namespace Go.Proofs.YtchehejjdinifaaGreatDoor
open Go.RowKit
set_option linter.unusedVariables false
set_option linter.unusedSimpArgs false

theorem ret_str {a b : List Int} (h : a = b) : Ending.returned (.string (strOfNums a)) = .returned (.string (strOfNums b)) := by rw [h]
theorem pan_eq {p p' e e' : Int} (h1 : p = p') (h2 : e = e') : Ending.panicked (fltF p e) = .panicked (fltF p' e') := by rw [h1, h2]
set_option maxRecDepth 100000 in
set_option maxHeartbeats 1000000 in
theorem nameF_rd (bc : Nat) (a : Option Addr) (cap : Nat) (l : List Int) (p : Int) (w : World) (h : w.heap[bc]? = some (rdr (.slice a l.length cap) p)) (hR : Reads w (.slice a l.length cap) l) (hb : Byt l) (hlen : l.length ≤ 140737488351232) (n q e : Int) (hrd : rd 32 false l p l.length = (n, q, e)) (he : e ≠ 0) :
    Calls Tryz.prog 84 #[.pointer (some ⟨bc, 0, none⟩)] w fun en w' => en = .panicked (fltF q e) ∧ Turn [bc] w w' := by
  have c1 := cell_of h 1
  simp at c1
  have HN := numF_bad bc a cap l p n q e w h hR hb hlen hrd he
  clear h hR hb hrd he
  go_enter Tryz.func84, Tryz.ntmps84
  go_wp2_with fail
  refine HN.mono ?_
  rintro en w1 ⟨rfl, ht⟩
  go_wp2_with fail
  exact ⟨rfl, rfl, (Turn.refl _ _).trans' ht (by simp)⟩
set_option maxRecDepth 100000 in
set_option maxHeartbeats 1000000 in
theorem nameF_long (bc : Nat) (a : Option Addr) (cap : Nat) (l : List Int) (p : Int) (w : World) (h : w.heap[bc]? = some (rdr (.slice a l.length cap) p)) (hR : Reads w (.slice a l.length cap) l) (hb : Byt l) (hlen : l.length ≤ 140737488351232) (n q : Int) (N : Nat) (hrd : rd 32 false l p l.length = (n, q, 0)) (hN : n % 4294967296 = N) (hl : 65536 < N) (hN' : N ≤ 4294967295) :
    Calls Tryz.prog 84 #[.pointer (some ⟨bc, 0, none⟩)] w fun en w' => en = .panicked (fltF p 2) ∧ Turn [bc] w w' := by
  have c1 := cell_of h 1
  simp at c1
  have HN := numF_ok bc a cap l p n q w h hR hb hlen hrd
  rw [hN] at HN
  clear h hR hb hrd hN
  go_enter Tryz.func84, Tryz.ntmps84
  go_wp2_with fail
  refine HN.mono ?_
  rintro en w1 ⟨rfl, ht, hh⟩
  clear HN
  go_wp2_with fail
  refine (giveF_any _ 2 _).mono ?_
  rintro en w2 ⟨rfl, rfl⟩
  go_wp2_with fail
  exact ⟨rfl, rfl, ht⟩
set_option maxRecDepth 100000 in
set_option maxHeartbeats 1000000 in
theorem nameF_short (bc : Nat) (a : Option Addr) (cap : Nat) (l : List Int) (p : Int) (w : World) (h : w.heap[bc]? = some (rdr (.slice a l.length cap) p)) (hR : Reads w (.slice a l.length cap) l) (hb : Byt l) (hlen : l.length ≤ 140737488351232) (n : Int) (N Q : Nat) (hrd : rd 32 false l p l.length = (n, (Q : Int), 0)) (hN : n % 4294967296 = N) (hl : N ≤ 65536) (hQ : Q ≤ l.length) (hs : ¬ Q + N ≤ l.length) :
    Calls Tryz.prog 84 #[.pointer (some ⟨bc, 0, none⟩)] w fun en w' => en = .panicked (fltF l.length 3) ∧ Turn [bc] w w' := by
  have c1 := cell_of h 1
  simp at c1
  have HN := numF_ok bc a cap l p n Q w h hR hb hlen hrd
  rw [hN] at HN
  clear h hR hb hrd hN
  go_enter Tryz.func84, Tryz.ntmps84
  go_wp2_with fail
  refine HN.mono ?_
  rintro en w1 ⟨rfl, ht, hh⟩
  clear HN
  go_wp2_with fail
  refine (partF_bad bc a cap l Q N _ hh hQ hs hlen (by omega)).mono ?_
  rintro en w2 ⟨rfl, ht2⟩
  go_wp2_with fail
  exact ⟨rfl, rfl, ht.trans' ht2 (by simp)⟩
set_option maxRecDepth 100000 in
set_option maxHeartbeats 2000000 in
theorem nameF_body (bc : Nat) (a : Option Addr) (cap : Nat) (l : List Int) (p : Int) (w : World) (h : w.heap[bc]? = some (rdr (.slice a l.length cap) p)) (hR : Reads w (.slice a l.length cap) l) (hb : Byt l) (hlen : l.length ≤ 140737488351232) (n : Int) (N Q : Nat) (i : Int) (g : Bool) (hrd : rd 32 false l p l.length = (n, (Q : Int), 0)) (hN : n % 4294967296 = N) (hl : N ≤ 65536) (hQ : Q ≤ l.length) (hs : Q + N ≤ l.length)
    (hu : U ((l.take (Q + N)).drop Q) = (i, g)) (hi : g = false → 0 ≤ i ∧ i ≤ 140737488351232) :
    Calls Tryz.prog 84 #[.pointer (some ⟨bc, 0, none⟩)] w fun en w' => (en = if g then .returned (.string (strOfNums ((l.take (Q + N)).drop Q))) else .panicked (fltF (Q + i) 21)) ∧ Turn [bc] w w' ∧ w'.heap[bc]? = some (rdr (.slice a l.length cap) ((Q + N : Nat) : Int)) := by
  have c1 := cell_of h 1
  simp at c1
  have HN := numF_ok bc a cap l p n Q w h hR hb hlen hrd
  rw [hN] at HN
  have hnob : NoB w bc := NoB.rdr h
  have HR : Hid (Reads w (.slice a l.length cap) l) := hR
  have HB : Hid (Byt l) := hb
  have HU : Hid (U ((l.take (Q + N)).drop Q) = (i, g)) := hu
  have hlt := lt_of_obj h
  clear h hR hb hrd hN hu
  go_enter Tryz.func84, Tryz.ntmps84
  go_wp2_with fail
  refine HN.mono ?_
  rintro en w1 ⟨rfl, ht, hh⟩
  clear HN
  go_wp2_with fail
  have hR1 : Reads w1 (.slice a l.length cap) l := HR.out.turn ht (by simpa using hnob)
  have hlt1 := lt_of_obj hh
  have hnob1 : NoB w1 bc := NoB.rdr hh
  refine (partF_ok bc a cap l Q N _ hh hR1 hQ hs hlen (by omega)).mono ?_
  rintro en w2 ⟨a', c', rfl, hr2, ht2, hh2⟩
  have hr2' : Reads w2 (.slice a' (Q + N) c') (l.take (Q + N)) := hr2.turn ht2 (by simpa using hnob1)
  have hlen2 : (l.take (Q + N)).length = Q + N := by simp; omega
  have hlt2 := lt_of_obj hh2
  clear hR1 hr2
  go_wp2_with fail
  have hb3 : (w2.alloc (.cells #[.slice a' (Q + N) c', .int .i64 Q] 142)).heap[w2.heap.size]? = some (rdr (.slice a' (l.take (Q + N)).length c') Q) := by
    rw [hlen2]; exact heap_alloc_last _ _
  have hr3 : Reads (w2.alloc (.cells #[.slice a' (Q + N) c', .int .i64 Q] 142)) (.slice a' (l.take (Q + N)).length c') (l.take (Q + N)) := by
    rw [hlen2]; exact ((Grew.refl _).alloc _).reads hr2'
  refine (restF_any w2.heap.size a' c' (l.take (Q + N)) Q _ hb3 hr3 (by omega) (by omega)).mono ?_
  rintro en w3 ⟨a3, c3, rfl, hr4, nd, rfl⟩
  rw [hlen2, Nat.add_sub_cancel_left] at hr4
  have hstr := (hr4.drewN nd).str
  clear hr3 hr2'
  go_wp2_with fail
  refine (wf_any ((l.take (Q + N)).drop Q) _ ((HB.out.take _).drop _) (by simp; omega)).mono ?_
  rw [HU.out]
  rintro en w4 ⟨rfl, hg⟩
  have hc4 : w4.cell? ⟨w2.heap.size, 1, none⟩ = some (.int .i64 Q) := by
    have := (hg.turn []).other (b := w2.heap.size) (heap_drewN hb3 nd) (by simp)
    rw [cell_of this]; rfl
  have hT : Turn [bc] w w4 := ((ht.trans ht2).alloc _).drewN _ |>.trans' (hg.turn []) (by simp)
  have hH : w4.heap[bc]? = some (rdr (.slice a l.length cap) ((Q + N : Nat) : Int)) := by
    have e : ((Q + N : Nat) : Int) = (Q : Int) + N := by omega
    rw [e]
    exact (hg.turn []).other (heap_drewN (heap_alloc hh2 _) nd) (by simp)
  clear hb3 hr4 hstr
  cases g with
  | true =>
    go_wp2_with fail
    go_ret
    exact ⟨rfl, hT, hH⟩
  | false =>
    obtain ⟨i0, i1⟩ := hi rfl
    go_wp2_with fail
    refine (giveF_any _ 21 _).mono ?_
    rintro en w5 ⟨rfl, rfl⟩
    go_wp2_with fail
    exact ⟨rfl, rfl, hT, hH⟩
end Go.Proofs.YtchehejjdinifaaGreatDoor

namespace Go.Proofs.YtchehejjdinifaaGreatDoor
open Go.RowKit
set_option linter.unusedVariables false
set_option linter.unusedSimpArgs false

theorem assertN (v : Value) (w : World) : (Instr.typeAssert (.iface 144 v) 20 144 false).run Tryz.prog w = .ok v w := by kernel_rfl
set_option maxRecDepth 100000 in
theorem caughtN (b : Nat) (p e x y : Int) (older : List PanicEntry) (w : World) (h : w.heap[b]? = some (.cells #[.int .i64 x, .int .i64 y] 144 (0, 0))) :
    CallsD Tryz.prog 100 #[.pointer (some ⟨b, 0, none⟩)] (.panicking ({ v := .iface 144 (.agg #[.int .i64 p, .int .i64 e]), recovered := false } :: older)) w fun en u' w' =>
      en = .returned (.tuple #[]) ∧ u' = .panicking ({ v := .iface 144 (.agg #[.int .i64 p, .int .i64 e]), recovered := true } :: older) ∧ w' = (w.setCell ⟨b, 0, none⟩ (.int .i64 p)).setCell ⟨b, 1, none⟩ (.int .i64 e) := by
  have c0 := cell_of h 0
  have c1 := cell_of h 1
  have z0 := free_of h 0
  have z1 := free_of h 1
  simp at c0 c1
  clear h
  refine callsD_of_wpS Tryz.func100 rfl fun c₀ cs hu => ?_
  apply wpS_seq
  apply wpS_region
  simp [wpOpsS, go_sem, recoverD, hu, Tryz.ntmps100, Exit.thenS]
  refine wpS_of_wp ?_
  rw [show (#[Value.pointer (some { block := b, off := 0 })] ++
          ((Array.replicate 6 undef).setIfInBounds 1
                (Value.iface 144 (Value.agg #[Value.int IntKind.i64 p, Value.int IntKind.i64 e]))).setIfInBounds
            0 (Value.iface 144 (Value.agg #[Value.int IntKind.i64 p, Value.int IntKind.i64 e])) : Array Value) = #[Value.pointer (some { block := b, off := 0 }), Value.iface 144 (Value.agg #[Value.int IntKind.i64 p, Value.int IntKind.i64 e]), Value.iface 144 (Value.agg #[Value.int IntKind.i64 p, Value.int IntKind.i64 e]), undef, undef, undef, undef] from rfl]
  clear hu
  have ha := assertN
  go_wp2
  simp [bodyPostS, results, Tryz.results100]
theorem idleN (b : Nat) (w : World) :
    CallsD Tryz.prog 100 #[.pointer (some ⟨b, 0, none⟩)] .returning w fun en u' w' => en = .returned (.tuple #[]) ∧ u' = .returning ∧ w' = w := by
  refine callsD_of_wpS Tryz.func100 rfl fun c₀ cs hu => ?_
  apply wpS_seq
  apply wpS_region
  simp [wpOpsS, go_sem, recoverD, hu, Tryz.ntmps100, Exit.thenS]
  refine wpS_of_wp ?_
  rw [show (#[Value.pointer (some { block := b, off := 0 })] ++
          ((Array.replicate 6 undef).setIfInBounds 1 Value.nilIface).setIfInBounds 0 Value.nilIface : Array Value) = #[Value.pointer (some { block := b, off := 0 }), .nilIface, .nilIface, undef, undef, undef, undef] from rfl]
  go_wp2
  cases c₀
  simp_all [bodyPostS, results, Tryz.results100]
set_option maxRecDepth 100000 in
theorem attN_ok (bc : Nat) (s : ByteArray) (R : World → Prop) (w : World)
    (HC : Calls Tryz.prog 84 #[.pointer (some ⟨bc, 0, none⟩)] (w.alloc (.cells #[.int .i64 0, .int .i64 0] 144)) fun en w' => en = .returned (.string s) ∧ R w' ∧ w'.heap[w.heap.size]? = some (.cells #[.int .i64 0, .int .i64 0] 144 (0, 0))) :
    Calls Tryz.prog 83 #[.func (.func 84) #[.pointer (some ⟨bc, 0, none⟩)] #[]] w fun en w' => en = .returned (.tuple #[.string s, .agg #[.int .i64 0, .int .i64 0]]) ∧ ∃ w1, R w1 ∧ Turn [w.heap.size] w1 w' := by
  have hmf : ∀ (fn : Fn) (first cap : Array Value) (w : World), (Instr.makeFunc fn first cap).run Tryz.prog w = .ok (.func fn first cap) w := fun _ _ _ _ => rfl
  go_enter_defers Tryz.func83, Tryz.ntmps83
  go_wp2_with fail
  refine HC.mono ?_
  rintro en w1 ⟨rfl, hr, hh⟩
  have z0 := free_of hh 0
  have z1 := free_of hh 1
  have e0 := cell_of hh 0
  have e1 := cell_of hh 1
  simp at e0 e1
  clear hh HC
  go_wp2_with fail
  refine leaves_cons (f := 100) (args := #[.pointer (some ⟨w.heap.size, 0, none⟩)]) (by simp) (by simp [go_sem]) ?_
  refine (idleN _ _).mono ?_
  rintro en u' w2 ⟨rfl, rfl, rfl⟩
  simp [Leaves, settle, results, Tryz.results83, go_sem, e0, e1]
  exact ⟨w1, hr, ((Turn.refl _ _).set (by simp) _).set (by simp) _⟩
set_option maxRecDepth 100000 in
theorem attN_bad (bc : Nat) (p e : Int) (R : World → Prop) (w : World)
    (HC : Calls Tryz.prog 84 #[.pointer (some ⟨bc, 0, none⟩)] (w.alloc (.cells #[.int .i64 0, .int .i64 0] 144)) fun en w' => en = .panicked (fltF p e) ∧ R w' ∧ w'.heap[w.heap.size]? = some (.cells #[.int .i64 0, .int .i64 0] 144 (0, 0))) :
    Calls Tryz.prog 83 #[.func (.func 84) #[.pointer (some ⟨bc, 0, none⟩)] #[]] w fun en w' => en = .returned (.tuple #[.string ⟨#[]⟩, .agg #[.int .i64 p, .int .i64 e]]) ∧ ∃ w1, R w1 ∧ Turn [w.heap.size] w1 w' := by
  have hmf : ∀ (fn : Fn) (first cap : Array Value) (w : World), (Instr.makeFunc fn first cap).run Tryz.prog w = .ok (.func fn first cap) w := fun _ _ _ _ => rfl
  go_enter_defers Tryz.func83, Tryz.ntmps83
  go_wp2_with fail
  refine HC.mono ?_
  rintro en w1 ⟨rfl, hr, hh⟩
  have HH : Hid (w1.heap[w.heap.size]? = some (.cells #[.int .i64 0, .int .i64 0] 144 (0, 0))) := hh
  have e0 := cell_of hh 0
  have e1 := cell_of hh 1
  simp at e0 e1
  clear hh HC
  go_wp2_with fail
  refine leaves_cons (f := 100) (args := #[.pointer (some ⟨w.heap.size, 0, none⟩)]) (by simp) (by simp [go_sem]) ?_
  refine (caughtN _ _ _ 0 0 [] _ HH.out).mono ?_
  rintro en u' w2 ⟨rfl, rfl, rfl⟩
  simp [Leaves, settle, results, Tryz.results83, go_sem, e0, e1]
  exact ⟨w1, hr, ((Turn.refl _ _).set (by simp) _).set (by simp) _⟩
end Go.Proofs.YtchehejjdinifaaGreatDoor

namespace Go.Proofs.YtchehejjdinifaaGreatDoor
open Go.RowKit
set_option linter.unusedVariables false
set_option linter.unusedSimpArgs false

theorem uo_bd (l : List Int) : ∀ (g a : Nat), 0 ≤ (uo l g a).1 ∧ (uo l g a).1 ≤ l.length + 4
  | 0, a => by simp [uo]; omega
  | g + 1, a => by
    rw [uo]
    split
    · split
      · exact uo_bd l g _
      · have := stop_le l a
        simp only; omega
    · simp only; omega
theorem U_bd (l : List Int) : 0 ≤ (U l).1 ∧ (U l).1 ≤ l.length + 4 := uo_bd l _ _
theorem nameF_ok (bc : Nat) (a : Option Addr) (cap : Nat) (l : List Int) (p : Int) (w : World) (h : w.heap[bc]? = some (rdr (.slice a l.length cap) p)) (hR : Reads w (.slice a l.length cap) l) (hb : Byt l) (hlen : l.length ≤ 140737488351232) (s : List Int) (q : Int) (hn : nm l p = (s, q, 0)) :
    Calls Tryz.prog 84 #[.pointer (some ⟨bc, 0, none⟩)] w fun en w' => en = .returned (.string (strOfNums s)) ∧ Turn [bc] w w' ∧ w'.heap[bc]? = some (rdr (.slice a l.length cap) q) := by
  rcases nm_cases l p with ⟨n, q', e, h1, he, h2⟩ | ⟨n, N, Q, h1, hN, hp0, hp, hQ, ⟨_, _, h2⟩ | ⟨_, _, h2⟩ | ⟨hN', hs, i, ⟨hu, h2⟩ | ⟨hu, h2⟩⟩⟩
  · rw [h2] at hn; simp only [Prod.mk.injEq] at hn; exact absurd hn.2.2 he
  · rw [h2] at hn; simp at hn
  · rw [h2] at hn; simp at hn
  · rw [h2] at hn; simp at hn
  · rw [h2] at hn
    simp only [Prod.mk.injEq] at hn
    obtain ⟨rfl, rfl, _⟩ := hn
    refine (nameF_body bc a cap l p w h hR hb hlen n N Q i true h1 hN hN' hQ hs hu (fun h => by cases h)).mono ?_
    rintro en w' ⟨rfl, ht, hh⟩
    exact ⟨rfl, ht, hh⟩
theorem nameF_bad (bc : Nat) (a : Option Addr) (cap : Nat) (l : List Int) (p : Int) (w : World) (h : w.heap[bc]? = some (rdr (.slice a l.length cap) p)) (hR : Reads w (.slice a l.length cap) l) (hb : Byt l) (hlen : l.length ≤ 140737488351232) (s : List Int) (q e : Int) (hn : nm l p = (s, q, e)) (he : e ≠ 0) :
    Calls Tryz.prog 84 #[.pointer (some ⟨bc, 0, none⟩)] w fun en w' => en = .panicked (fltF q e) ∧ Turn [bc] w w' := by
  rcases nm_cases l p with ⟨n, q', e', h1, he', h2⟩ | ⟨n, N, Q, h1, hN, hp0, hp, hQ, ⟨hN1, hN2, h2⟩ | ⟨hN', hs, h2⟩ | ⟨hN', hs, i, ⟨hu, h2⟩ | ⟨hu, h2⟩⟩⟩
  · rw [h2] at hn; simp only [Prod.mk.injEq] at hn
    obtain ⟨_, rfl, rfl⟩ := hn
    exact nameF_rd bc a cap l p w h hR hb hlen n q' e' h1 he'
  · rw [h2] at hn; simp only [Prod.mk.injEq] at hn
    obtain ⟨_, rfl, rfl⟩ := hn
    exact nameF_long bc a cap l p w h hR hb hlen n Q N h1 hN hN1 hN2
  · rw [h2] at hn; simp only [Prod.mk.injEq] at hn
    obtain ⟨_, rfl, rfl⟩ := hn
    exact nameF_short bc a cap l p w h hR hb hlen n N Q h1 hN hN' hQ hs
  · rw [h2] at hn; simp only [Prod.mk.injEq] at hn
    obtain ⟨_, rfl, rfl⟩ := hn
    have hbd := U_bd ((l.take (Q + N)).drop Q)
    rw [hu] at hbd
    have hl : ((l.take (Q + N)).drop Q).length = N := by simp; omega
    rw [hl] at hbd
    refine (nameF_body bc a cap l p w h hR hb hlen n N Q i false h1 hN hN' hQ hs hu (fun _ => by simp only at hbd; omega)).mono ?_
    rintro en w' ⟨rfl, ht, hh⟩
    exact ⟨rfl, ht⟩
  · rw [h2] at hn; simp only [Prod.mk.injEq] at hn; exact absurd hn.2.2.symm he
theorem nm_nil {l s : List Int} {p q e : Int} (hn : nm l p = (s, q, e)) (he : e ≠ 0) : s = [] := by
  rcases nm_cases l p with ⟨n, q', e', h1, he', h2⟩ | ⟨n, N, Q, h1, hN, hp0, hp, hQ, ⟨hN1, hN2, h2⟩ | ⟨hN', hs, h2⟩ | ⟨hN', hs, i, ⟨hu, h2⟩ | ⟨hu, h2⟩⟩⟩ <;> rw [h2] at hn <;> simp only [Prod.mk.injEq] at hn
  · exact hn.1.symm
  · exact hn.1.symm
  · exact hn.1.symm
  · exact hn.1.symm
  · exact absurd hn.2.2.symm he
set_option maxRecDepth 100000 in
set_option maxHeartbeats 1000000 in
theorem Name_any (v : Value) (l : List Int) (p : Int) (w : World) (hR : Reads w v l) (hb : Byt l) (hlen : l.length ≤ 140737488351232) :
    Calls Tryz.prog 57 #[v, .int .i64 p] w fun en w' => en = .returned (.tuple #[.string (strOfNums (nm l p).1), .int .i64 (nm l p).2.1, .int .i64 (nm l p).2.2]) ∧ Grew w w' := by
  obtain ⟨a, cap, rfl⟩ := hR.len
  obtain ⟨s, q, e, hn⟩ : ∃ s q e, nm l p = (s, q, e) := ⟨_, _, _, rfl⟩
  rw [hn]
  have hmf : ∀ (fn : Fn) (first cap : Array Value) (w : World), (Instr.makeFunc fn first cap).run Tryz.prog w = .ok (.func fn first cap) w := fun _ _ _ _ => rfl
  have hw1 : ((w.alloc (rdr (.slice a l.length cap) p)).alloc (.cells #[.int .i64 0, .int .i64 0] 144)).heap[w.heap.size]? = some (rdr (.slice a l.length cap) p) := heap_alloc (heap_alloc_last _ _) _
  have hR1 : Reads ((w.alloc (rdr (.slice a l.length cap) p)).alloc (.cells #[.int .i64 0, .int .i64 0] 144)) (.slice a l.length cap) l := (((Grew.refl w).alloc _).alloc _).reads hR
  have hf1 : ((w.alloc (rdr (.slice a l.length cap) p)).alloc (.cells #[.int .i64 0, .int .i64 0] 144)).heap[(w.alloc (rdr (.slice a l.length cap) p)).heap.size]? = some (.cells #[.int .i64 0, .int .i64 0] 144 (0, 0)) := heap_alloc_last _ _
  have hsz : (w.alloc (rdr (.slice a l.length cap) p)).heap.size = w.heap.size + 1 := by simp
  have hgr : Grew w ((w.alloc (rdr (.slice a l.length cap) p)).alloc (.cells #[.int .i64 0, .int .i64 0] 144)) := ((Grew.refl w).alloc _).alloc _
  by_cases he : e = 0
  · subst he
    have HA := attN_ok w.heap.size (strOfNums s) (fun w1 => Turn [w.heap.size] ((w.alloc (rdr (.slice a l.length cap) p)).alloc (.cells #[.int .i64 0, .int .i64 0] 144)) w1 ∧ w1.heap[w.heap.size]? = some (rdr (.slice a l.length cap) q)) (w.alloc (rdr (.slice a l.length cap) p))
      ((nameF_ok w.heap.size a cap l p _ hw1 hR1 hb hlen s q hn).mono fun en w' ⟨h1, h2, h3⟩ => ⟨h1, ⟨h2, h3⟩, h2.other hf1 (by simp)⟩)
    rw [hsz] at HA
    clear hn hw1 hR1 hf1 hsz hR hb
    generalize strOfNums s = st at *
    go_enter Tryz.func57, Tryz.ntmps57
    go_wp2_with fail
    refine HA.mono ?_
    rintro en w2 ⟨rfl, w1, ⟨ht1, hh1⟩, ht2⟩
    clear HA
    have hh2 := ht2.other hh1 (by simp)
    have c1 := cell_of hh2 1
    simp at c1
    have hlt := lt_of_obj hh2
    have HG : Grew w w2 := ht2.grew (ht1.grew hgr (by simp)) (by simp)
    have hne : w.heap.size ≠ w2.heap.size := by omega
    clear hh2 hh1 ht1 ht2 hgr
    go_wp2_with fail
    go_quiet (fail)
    go_wp2_with fail
    go_ret3
    exact ⟨rfl, (HG.alloc _).drewN _⟩
  · have hs := nm_nil hn he
    subst hs
    have HA := attN_bad w.heap.size q e (fun w1 => Turn [w.heap.size] ((w.alloc (rdr (.slice a l.length cap) p)).alloc (.cells #[.int .i64 0, .int .i64 0] 144)) w1) (w.alloc (rdr (.slice a l.length cap) p))
      ((nameF_bad w.heap.size a cap l p _ hw1 hR1 hb hlen [] q e hn he).mono fun en w' ⟨h1, h2⟩ => ⟨h1, h2, h2.other hf1 (by simp)⟩)
    rw [hsz] at HA
    have he' : (e != 0) = true := by simpa using he
    rw [show strOfNums [] = ⟨#[]⟩ from rfl]
    clear hn hw1 hR1 hf1 hsz hR hb he
    go_enter Tryz.func57, Tryz.ntmps57
    go_wp2_with fail
    refine HA.mono ?_
    rintro en w2 ⟨rfl, w1, ht1, ht2⟩
    clear HA
    have HG : Grew w w2 := ht2.grew (ht1.grew hgr (by simp)) (by simp)
    clear ht1 ht2 hgr
    go_wp2_with fail
    go_quiet (fail)
    go_wp2_with fail
    go_ret3
    exact ⟨rfl, (HG.alloc _).drewN _⟩
end Go.Proofs.YtchehejjdinifaaGreatDoor
