/-
  Code's cursor: its block; the walks of giveUp, number, one, atMost; no statement is proved here.
-/
import Derived.Test.YtfedijclhlchbaaGreatDoorTopV
import Derived.Test.YtfedijclhlchbaaGreatDoorCdM
import Derived.Deep.RegionHeld3
namespace Go.Proofs.YtfedijclhlchbaaGreatDoor
open Go.RowKit
set_option linter.unusedVariables false
set_option linter.unusedSimpArgs false

/- What code's cursor gives up with. -/
def fltK (p e : Int) : List PanicEntry := [{ v := .iface 69 (.agg #[.int .i64 p, .int .i64 e]), recovered := false }]
theorem giveUpK_any (p e : Int) (w : World) :
    Calls Tryz.prog 29 #[.int .i64 p, .int .i64 e] w fun en w' => en = .panicked (fltK p e) ∧ w' = w := by
  go_enter Tryz.func29, Tryz.ntmps29
  go_wp2
  exact ⟨rfl, rfl, rfl⟩
/- The cursor's block. -/
def curK (v : Value) (p : Int) : Obj := .cells #[v, .int .i64 p] 57 (0, 0)
structure KU (w : World) (b : Nat) (v : Value) (l : List Int) (p : Nat) : Prop where
  obj : w.heap[b]? = some (curK v p)
  rd : Reads w v l
  byt : Byt l
  len : l.length ≤ 140737488351232
  le : p ≤ l.length
  tab : Tab w
  ne : 0 ≠ b
theorem KU.lt {w : World} {b : Nat} {v : Value} {l : List Int} {p : Nat} (h : KU w b v l p) : b < w.heap.size := lt_of_obj h.obj
theorem KU.nob {w : World} {b : Nat} {v : Value} {l : List Int} {p : Nat} (h : KU w b v l p) : NoB w b := by
  obtain ⟨a, cap, rfl⟩ := h.rd.len
  intro j m
  rw [cell_of h.obj]
  rcases j with _ | _ | j <;> simp
theorem KU.of {w0 w : World} {b : Nat} {v : Value} {l : List Int} {p0 q : Nat} (h : KU w0 b v l p0) (t : Turn [b] w0 w) (ho : w.heap[b]? = some (curK v q)) (hq : q ≤ l.length) : KU w b v l q :=
  ⟨ho, h.rd.turn t (by intro x hx; simp at hx; subst hx; exact h.nob), h.byt, h.len, hq, h.tab.turn t (by simp; exact h.ne), h.ne⟩
theorem KU.grew {w w' : World} {b : Nat} {v : Value} {l : List Int} {p : Nat} (h : KU w b v l p) (g : Grew w w') : KU w' b v l p :=
  h.of (g.turn [b]) ((g.turn []).other h.obj (by simp)) h.le
theorem KU.set1 {w : World} {b : Nat} {v : Value} {l : List Int} {p : Nat} (h : KU w b v l p) {q : Nat} (hq : q ≤ l.length) : KU (w.setCell ⟨b, 1, none⟩ (.int .i64 q)) b v l q :=
  h.of ((Turn.refl [b] w).set (Or.inl (by simp)) _) (by rw [heap_set h.obj]; rfl) hq
theorem KU.setN {w0 w : World} {b : Nat} {v : Value} {l : List Int} {p0 p : Nat} (h0 : KU w0 b v l p0) (t : Turn [b] w0 w) (h : KU w b v l p) (N j : Nat) (hN : w0.heap.size ≤ N) (x : Value) : KU (w.setCell ⟨N, j, none⟩ x) b v l p :=
  h0.of (t.set (p := ⟨N, j, none⟩) (Or.inr hN) x) (heap_other h.obj (by have := h0.lt; simp; omega) x) h.le
theorem KU.c0 {w : World} {b : Nat} {v : Value} {l : List Int} {p : Nat} (h : KU w b v l p) : w.cell? ⟨b, 0, none⟩ = some v := by rw [cell_of h.obj]; rfl
theorem KU.c1 {w : World} {b : Nat} {v : Value} {l : List Int} {p : Nat} (h : KU w b v l p) : w.cell? ⟨b, 1, none⟩ = some (.int .i64 p) := by rw [cell_of h.obj]; rfl
theorem KU.z1 {w : World} {b : Nat} {v : Value} {l : List Int} {p : Nat} (h : KU w b v l p) : w.frozen? ⟨b, 1, none⟩ = false := free_of h.obj 1
/- What a call answers of a reading. -/
def AnsK {α : Type} (enc : α → Value) (b : Nat) (v : Value) (l : List Int) (w : World) (r : RS α) (en : Ending) (w' : World) : Prop := match r with
  | .ok (x, q) => en = .returned (enc x) ∧ Turn [b] w w' ∧ KU w' b v l q
  | .error (f, e) => en = .panicked (fltK f e) ∧ Turn [b] w w'
theorem cell_grew {w w' : World} {b j : Nat} {v : Value} (h : w.cell? ⟨b, j, none⟩ = some v) (g : Grew w w') : w'.cell? ⟨b, j, none⟩ = some v := by
  rw [g.1.cell (block_lt_of_cell h)]; exact h

set_option maxRecDepth 100000 in
theorem number_any (v : Value) (l : List Int) (x : Int) (w : World) (hR : Reads w v l) (hB : Byt l) (hl : l.length ≤ 140737488351232) :
    Calls Tryz.prog 28 #[v, .int .i64 x] w fun e w' => e = .returned (.tuple #[.int .u32 ((rd 32 false l x l.length).1 % 4294967296), .int .i64 (rd 32 false l x l.length).2.1, .int .i64 (rd 32 false l x l.length).2.2]) ∧ w' = w := by
  have C := u32_any v l x l.length w hR hB hl
  obtain ⟨sa, cap, rfl⟩ := hR.len
  clear hR hB
  generalize rd 32 false l x l.length = R at *
  go_enter Tryz.func28, Tryz.ntmps28
  go_wp2_with fail
  refine C.mono ?_
  rintro en w1 ⟨rfl, h1⟩
  obtain rfl := h1.symm
  go_wp2_with fail
  go_ret3
  exact ⟨rfl, rfl⟩
set_option maxRecDepth 100000 in
set_option maxHeartbeats 1000000 in
theorem oneU_any {w : World} {b : Nat} {v : Value} {l : List Int} {p : Nat} (h : KU w b v l p) :
    Calls Tryz.prog 27 #[.pointer (some ⟨b, 0, none⟩), .func (.func 28) #[] #[]] w (AnsK (fun n => .int .u32 n) b v l w (numR 32 false l p)) := by
  have c0 := h.c0
  have c1 := h.c1
  have z1 := h.z1
  obtain ⟨a, cap, rfl⟩ := h.rd.len
  have H : Hid (KU w b (.slice a l.length cap) l p) := h
  have hl := h.len
  have HC : Hid (∀ k, Calls Tryz.prog 28 #[.slice a l.length cap, .int .i64 (p : Int)] (w.drewN k) fun e w' => e = .returned (.tuple #[.int .u32 ((rd 32 false l p l.length).1 % 4294967296), .int .i64 (rd 32 false l p l.length).2.1, .int .i64 (rd 32 false l p l.length).2.2]) ∧ w' = w.drewN k) := fun k => number_any _ l p _ (h.rd.drewN k) h.byt h.len
  rcases numR_ways (b := 32) (sg := false) h.le with ⟨n, q, hr, h1, h2, h3⟩ | ⟨n, f, e, hr, h1, h2, h3, h4⟩
  · rw [h3]
    have hb := rd_32 h.byt hr
    have hmod : n % 4294967296 = n := by omega
    rw [hr] at HC
    simp only [hmod] at HC
    clear h hr h3
    go_enter Tryz.func27, Tryz.ntmps27
    go_wp2_with fail
    go_quiet ((go_at_call 28; exact q0_same HC.out))
    go_wp2_with fail
    go_ret
    exact ⟨rfl, ((Turn.refl _ _).drewN _).set (Or.inl (by simp)) _, (H.out.grew ((Grew.refl w).drewN _)).set1 h2⟩
  · rw [h4]
    rw [hr] at HC
    simp only at HC
    have he : ((e : Int) != 0) = true := by
      rcases h3 with rfl | rfl <;> rfl
    clear h hr h4 h3
    go_enter Tryz.func27, Tryz.ntmps27
    go_wp2_with fail
    go_quiet ((go_at_call 28; exact q0_same HC.out))
    go_wp2_with fail
    refine (giveUpK_any _ _ _).mono ?_
    rintro en w1 ⟨rfl, h1⟩
    obtain rfl := h1.symm
    go_wp2_with fail
    exact ⟨rfl, rfl, (Turn.refl _ _).drewN _⟩
set_option maxRecDepth 100000 in
set_option maxHeartbeats 1000000 in
theorem atMost_any {w : World} {b : Nat} {v : Value} {l : List Int} {p : Nat} (h : KU w b v l p) (lim : Int) :
    Calls Tryz.prog 18 #[.pointer (some ⟨b, 0, none⟩), .int .u32 lim] w (AnsK (fun n => .int .u32 n) b v l w (limR p lim (numR 32 false l p))) := by
  have C := oneU_any h
  have c1 := h.c1
  clear h
  cases hx : numR 32 false l p with
  | error y =>
    obtain ⟨f, e⟩ := y
    rw [hx] at C
    unfold limR
    go_enter Tryz.func18, Tryz.ntmps18
    go_wp2_with fail
    refine C.mono ?_
    rintro en w1 ⟨rfl, t1⟩
    go_wp2_with fail
    exact ⟨rfl, rfl, t1⟩
  | ok y =>
    obtain ⟨n, q⟩ := y
    rw [hx] at C
    unfold limR
    simp only
    clear hx
    by_cases h3 : lim < n
    · rw [if_pos h3]
      have d3 : decide (lim < n) = true := by simpa using h3
      go_enter Tryz.func18, Tryz.ntmps18
      go_wp2_with fail
      refine C.mono ?_
      rintro en w1 ⟨rfl, t1, u1⟩
      have T1 : Hid (Turn [b] w w1) := t1
      clear C t1 u1
      go_wp2_with fail
      refine (giveUpK_any _ 2 _).mono ?_
      rintro en w2 ⟨rfl, h2⟩
      obtain rfl := h2.symm
      go_wp2_with fail
      exact ⟨rfl, rfl, T1.out⟩
    · rw [if_neg h3]
      have d3 : decide (lim < n) = false := by simpa using h3
      go_enter Tryz.func18, Tryz.ntmps18
      go_wp2_with fail
      refine C.mono ?_
      rintro en w1 ⟨rfl, t1, u1⟩
      have F1 : Hid (Turn [b] w w1 ∧ KU w1 b v l q) := ⟨t1, u1⟩
      clear C t1 u1
      go_wp2_with fail
      go_ret
      exact ⟨rfl, F1.out⟩
set_option maxRecDepth 100000 in
set_option maxHeartbeats 1000000 in
theorem oneV_any {w : World} {b : Nat} {v : Value} {l : List Int} {p : Nat} (h : KU w b v l p) :
    Calls Tryz.prog 19 #[.pointer (some ⟨b, 0, none⟩), .func (.func 20) #[] #[]] w (AnsK VT.v b v l w (valR l p)) := by
  have H : Hid (KU w b v l p) := h
  have hlt := h.lt
  have C : Hid (∀ X, Grew w X → Calls Tryz.prog 20 #[v, .int .i64 (p : Int)] X fun en w' => en = .returned (ansV (topR (valR l) ⟨0, false, 0⟩ l (p : Int))) ∧ Grew X w') := fun X g => topV_any v l p X (g.reads h.rd) h.byt h.len (h.tab.grew g)
  rw [topR_in h.le] at C
  have hadv := val_adv l p h.le
  have gx : Hid (Grew w ((w.alloc (.cells #[.int .i64 0, .bool false, .int .i64 0] 36)).alloc (.cells #[.int .i64 0, .bool false, .int .i64 0] 36)).drew) := (((Grew.refl w).alloc _).alloc _).drew
  have ax : Hid (((w.alloc (.cells #[.int .i64 0, .bool false, .int .i64 0] 36)).alloc (.cells #[.int .i64 0, .bool false, .int .i64 0] 36)).drew.heap[w.heap.size]? = some (.cells #[.int .i64 0, .bool false, .int .i64 0] 36 (0, 0))) := heap_alloc (heap_alloc_last w _) _
  have bx : Hid (((w.alloc (.cells #[.int .i64 0, .bool false, .int .i64 0] 36)).alloc (.cells #[.int .i64 0, .bool false, .int .i64 0] 36)).drew.heap[w.heap.size + 1]? = some (.cells #[.int .i64 0, .bool false, .int .i64 0] 36 (0, 0))) := by
    have := heap_alloc_last (w.alloc (.cells #[.int .i64 0, .bool false, .int .i64 0] 36)) (.cells #[.int .i64 0, .bool false, .int .i64 0] 36)
    rwa [alloc_size] at this
  have g0 : Hid (Grew w (w.alloc (.cells #[.int .i64 0, .bool false, .int .i64 0] 36))) := (Grew.refl w).alloc _
  have a0 : Hid ((w.alloc (.cells #[.int .i64 0, .bool false, .int .i64 0] 36)).drew.heap[w.heap.size]? = some (.cells #[.int .i64 0, .bool false, .int .i64 0] 36 (0, 0))) := heap_alloc_last w _
  have hn0 : ¬ (b = w.heap.size) := by omega
  have hn1 : ¬ (b = w.heap.size + 1) := by omega
  have hn2 : ¬ (w.heap.size = b) := by omega
  have hn3 : ¬ (w.heap.size + 1 = b) := by omega
  have c0 := h.c0
  have c1 := h.c1
  obtain ⟨sa, cap, hv⟩ := h.rd.len
  subst hv
  clear h
  cases hx : valR l p with
  | error y =>
    obtain ⟨f, e⟩ := y
    have he : ((e : Int) != 0) = true := by
      have := (hadv.2 f e hx).2.1
      simp; omega
    rw [hx] at C
    unfold ansV VT.v vt at C
    simp only at C
    clear hx hadv
    go_enter Tryz.func19, Tryz.ntmps19
    go_wp2_with fail
    go_region_held3 (fun w' => w'.cell? ⟨b, 0, none⟩ = some (.slice sa l.length cap) ∧ w'.cell? ⟨b, 1, none⟩ = some (.int .i64 (p : Int))) (go_keep)
      (first
       | (go_at_call 20
          refine (C.out _ (by first | exact gx.out | exact g0.out.drew)).mono ?_
          rintro en w1 ⟨rfl, g1⟩
          have G1 : Hid (Grew w w1) := (by first | exact gx.out.trans g1 | exact g0.out.drew.trans g1)
          have A1 : Hid (w1.heap[w.heap.size]? = some (.cells #[.int .i64 0, .bool false, .int .i64 0] 36 (0, 0))) := (by first | exact (g1.turn []).other ax.out (by simp) | exact (g1.turn []).other a0.out (by simp))
          have j0 := cell_grew c0 G1.out
          have j1 := cell_grew c1 G1.out
          have hs0 := lt_of_obj A1.out
          have hn4 : ¬ (b = w1.heap.size) := by omega
          have hn5 : ¬ (w1.heap.size = b) := by omega
          first
            | (have B1 : Hid (w1.heap[w.heap.size + 1]? = some (.cells #[.int .i64 0, .bool false, .int .i64 0] 36 (0, 0))) := (g1.turn []).other bx.out (by simp)
               have e0 := cell_of B1.out 0
               have e1 := cell_of B1.out 1
               have e2 := cell_of B1.out 2
               have f0 := free_of B1.out 0
               have f1 := free_of B1.out 1
               have f2 := free_of B1.out 2
               simp at e0 e1 e2
               have hs1 := lt_of_obj B1.out)
            | skip
          clear g1))
    all_goals
      go_wp2_with fail
      refine (giveUpK_any _ _ _).mono ?_
      rintro en w2 ⟨rfl, h2⟩
      obtain rfl := h2.symm
      go_wp2_with fail
      refine ⟨rfl, rfl, ?_⟩
      first
        | exact (G1.out.alloc _).turn _
        | exact ((((G1.out.set (p := ⟨w.heap.size + 1, 0, none⟩) (by simp) _).set (p := ⟨w.heap.size + 1, 1, none⟩) (by simp) _).set (p := ⟨w.heap.size + 1, 2, none⟩) (by simp) _).turn _)
  | ok y =>
    obtain ⟨⟨n, nul, hp⟩, q⟩ := y
    have hq := hadv.1 _ _ hx
    rw [hx] at C
    unfold ansV VT.v vt at C
    simp only at C
    clear hx hadv
    go_enter Tryz.func19, Tryz.ntmps19
    go_wp2_with fail
    go_region_held3 (fun w' => w'.cell? ⟨b, 0, none⟩ = some (.slice sa l.length cap) ∧ w'.cell? ⟨b, 1, none⟩ = some (.int .i64 (p : Int))) (go_keep)
      (first
       | (go_at_call 20
          refine (C.out _ (by first | exact gx.out | exact g0.out.drew)).mono ?_
          rintro en w1 ⟨rfl, g1⟩
          have G1 : Hid (Grew w w1) := (by first | exact gx.out.trans g1 | exact g0.out.drew.trans g1)
          have A1 : Hid (w1.heap[w.heap.size]? = some (.cells #[.int .i64 0, .bool false, .int .i64 0] 36 (0, 0))) := (by first | exact (g1.turn []).other ax.out (by simp) | exact (g1.turn []).other a0.out (by simp))
          have j0 := cell_grew c0 G1.out
          have j1 := cell_grew c1 G1.out
          have hs0 := lt_of_obj A1.out
          have hn4 : ¬ (b = w1.heap.size) := by omega
          have hn5 : ¬ (w1.heap.size = b) := by omega
          first
            | (have B1 : Hid (w1.heap[w.heap.size + 1]? = some (.cells #[.int .i64 0, .bool false, .int .i64 0] 36 (0, 0))) := (g1.turn []).other bx.out (by simp)
               have e0 := cell_of B1.out 0
               have e1 := cell_of B1.out 1
               have e2 := cell_of B1.out 2
               have f0 := free_of B1.out 0
               have f1 := free_of B1.out 1
               have f2 := free_of B1.out 2
               simp at e0 e1 e2
               have hs1 := lt_of_obj B1.out)
            | skip
          clear g1))
    · generalize hW : w1.alloc (Obj.cells #[.int .i64 n, .bool nul, .int .i64 hp] 36) = W
      have D3 : Hid (W.heap[w1.heap.size]? = some (.cells #[.int .i64 n, .bool nul, .int .i64 hp] 36 (0, 0))) := by rw [← hW]; exact heap_alloc_last _ _
      have A3 : Hid (W.heap[w.heap.size]? = some (.cells #[.int .i64 0, .bool false, .int .i64 0] 36 (0, 0))) := by rw [← hW]; exact heap_alloc A1.out _
      have G3 : Hid (Grew w W) := by rw [← hW]; exact G1.out.alloc _
      have hN : w.heap.size + 1 ≤ w1.heap.size := hs0
      clear hW
      have UK : Hid (KU W b (.slice sa l.length cap) l p) := H.out.grew G3.out
      have k1 := UK.out.c1
      have y1 := UK.out.z1
      have d0 := cell_of D3.out 0
      have d1 := cell_of D3.out 1
      have d2 := cell_of D3.out 2
      have a0 := cell_of A3.out 0
      have a1 := cell_of A3.out 1
      have a2 := cell_of A3.out 2
      have x0 := free_of A3.out 0
      have x1 := free_of A3.out 1
      have x2 := free_of A3.out 2
      simp at d0 d1 d2 a0 a1 a2
      have hb1 : ¬ (b = w1.heap.size) := by omega
      have hb2 : ¬ (w1.heap.size = b) := by omega
      have hb3 : ¬ (w1.heap.size = w.heap.size) := by omega
      have hb4 : ¬ (w.heap.size = w1.heap.size) := by omega
      generalize w1.heap.size = N at *
      go_wp2_with fail
      refine bodyPost_ret (v := VT.v ⟨n, nul, hp⟩) (by simp [results, Tryz.results19, go_sem, VT.v, vt, hn0, hn2, a0, a1, a2]) rfl ?_
      have T1 : Turn [b] w (W.setCell ⟨b, 1, none⟩ (.int .i64 (q : Int))) := (G3.out.turn [b]).set (p := ⟨b, 1, none⟩) (Or.inl (by simp)) _
      have K1 := UK.out.set1 (q := q) hq.2
      have K2 := H.out.setN T1 K1 w.heap.size 0 (Nat.le_refl _) (.int .i64 n)
      have T2 := T1.set (p := ⟨w.heap.size, 0, none⟩) (Or.inr (Nat.le_refl _)) (.int .i64 n)
      have K3 := H.out.setN T2 K2 w.heap.size 1 (Nat.le_refl _) (.bool nul)
      have T3 := T2.set (p := ⟨w.heap.size, 1, none⟩) (Or.inr (Nat.le_refl _)) (.bool nul)
      exact ⟨rfl, T3.set (p := ⟨w.heap.size, 2, none⟩) (Or.inr (Nat.le_refl _)) (.int .i64 hp), H.out.setN T3 K3 w.heap.size 2 (Nat.le_refl _) (.int .i64 hp)⟩
    · generalize hW : ((w1.setCell ⟨w.heap.size + 1, 0, none⟩ (.int .i64 n)).setCell ⟨w.heap.size + 1, 1, none⟩ (.bool nul)).setCell ⟨w.heap.size + 1, 2, none⟩ (.int .i64 hp) = W
      have D3 : Hid (W.heap[(w.heap.size + 1)]? = some (.cells #[.int .i64 n, .bool nul, .int .i64 hp] 36 (0, 0))) := by rw [← hW]; exact heap_set (heap_set (heap_set B1.out 0 _) 1 _) 2 _
      have A3 : Hid (W.heap[w.heap.size]? = some (.cells #[.int .i64 0, .bool false, .int .i64 0] 36 (0, 0))) := by rw [← hW]; exact heap_other (heap_other (heap_other A1.out (by simp) _) (by simp) _) (by simp) _
      have G3 : Hid (Grew w W) := by rw [← hW]; exact ((G1.out.set (p := ⟨w.heap.size + 1, 0, none⟩) (by simp) _).set (p := ⟨w.heap.size + 1, 1, none⟩) (by simp) _).set (p := ⟨w.heap.size + 1, 2, none⟩) (by simp) _
      have hN : w.heap.size + 1 ≤ (w.heap.size + 1) := Nat.le_refl _
      clear hW
      have UK : Hid (KU W b (.slice sa l.length cap) l p) := H.out.grew G3.out
      have k1 := UK.out.c1
      have y1 := UK.out.z1
      have d0 := cell_of D3.out 0
      have d1 := cell_of D3.out 1
      have d2 := cell_of D3.out 2
      have a0 := cell_of A3.out 0
      have a1 := cell_of A3.out 1
      have a2 := cell_of A3.out 2
      have x0 := free_of A3.out 0
      have x1 := free_of A3.out 1
      have x2 := free_of A3.out 2
      simp at d0 d1 d2 a0 a1 a2
      have hb1 : ¬ (b = (w.heap.size + 1)) := by omega
      have hb2 : ¬ ((w.heap.size + 1) = b) := by omega
      have hb3 : ¬ ((w.heap.size + 1) = w.heap.size) := by omega
      have hb4 : ¬ (w.heap.size = (w.heap.size + 1)) := by omega
      generalize (w.heap.size + 1) = N at *
      go_wp2_with fail
      refine bodyPost_ret (v := VT.v ⟨n, nul, hp⟩) (by simp [results, Tryz.results19, go_sem, VT.v, vt, hn0, hn2, a0, a1, a2]) rfl ?_
      have T1 : Turn [b] w (W.setCell ⟨b, 1, none⟩ (.int .i64 (q : Int))) := (G3.out.turn [b]).set (p := ⟨b, 1, none⟩) (Or.inl (by simp)) _
      have K1 := UK.out.set1 (q := q) hq.2
      have K2 := H.out.setN T1 K1 w.heap.size 0 (Nat.le_refl _) (.int .i64 n)
      have T2 := T1.set (p := ⟨w.heap.size, 0, none⟩) (Or.inr (Nat.le_refl _)) (.int .i64 n)
      have K3 := H.out.setN T2 K2 w.heap.size 1 (Nat.le_refl _) (.bool nul)
      have T3 := T2.set (p := ⟨w.heap.size, 1, none⟩) (Or.inr (Nat.le_refl _)) (.bool nul)
      exact ⟨rfl, T3.set (p := ⟨w.heap.size, 2, none⟩) (Or.inr (Nat.le_refl _)) (.int .i64 hp), H.out.setN T3 K3 w.heap.size 2 (Nat.le_refl _) (.int .i64 hp)⟩
end Go.Proofs.YtfedijclhlchbaaGreatDoor
