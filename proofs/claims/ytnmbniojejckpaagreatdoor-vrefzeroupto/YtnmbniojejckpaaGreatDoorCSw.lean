/-
  The program's swapped: what counts of a type, with others in the place of its numbers; no statement is proved here.
-/
import Derived.Test.YtnmbniojejckpaaGreatDoorCEach
import Derived.Test.YtnmbniojejckpaaGreatDoorClo
import Derived.Laws.EntriesVeiled
set_option maxRecDepth 100000
set_option maxHeartbeats 8000000
namespace Go.Proofs.YtnmbniojejckpaaGreatDoor
open Go.RowKit
set_option linter.unusedVariables false
set_option linter.unusedSimpArgs false
/- All numbers that count lie in D. -/
structure In (D : Int → Prop) (x : SB) : Prop where
  s : ∀ n ∈ x.supers, D n
  p : x.comp.kind = 1 → ∀ v ∈ x.comp.params, v.num = 5 → 0 ≤ v.heap → D v.heap
  r : x.comp.kind = 1 → ∀ v ∈ x.comp.results, v.num = 5 → 0 ≤ v.heap → D v.heap
  f : x.comp.kind = 2 ∨ x.comp.kind = 3 → ∀ v ∈ x.comp.fields, v.ty.num = 5 → 0 ≤ v.ty.heap → D v.ty.heap
/- The rows of a type, wherever they lie. -/
def SubT (B : Nat) (w : World) (x : SB) (q : Q4) : Prop := RowI B w q.s x.supers ∧ RowV B w q.p x.comp.params ∧ RowV B w q.r x.comp.results ∧ RowF B w q.f x.comp.fields
theorem SubT.rd {B : Nat} {w : World} {x : SB} {q : Q4} (h : SubT B w x q) : SubR w x q.s q.p q.r q.f := ⟨h.1.lst, h.2.1.lst, h.2.2.1.lst, h.2.2.2.lst⟩
theorem SubT.grew {B : Nat} {w w' : World} {x : SB} {q : Q4} (h : SubT B w x q) (g : Grew w w') : SubT B w' x q := ⟨h.1.grew g, h.2.1.grew g, h.2.2.1.grew g, row_grew h.2.2.2 g⟩
theorem SubT.turn {B : Nat} {w w' : World} {x : SB} {q : Q4} {S : List Nat} (h : SubT B w x q) (t : Turn S w w') (hS : ∀ x ∈ S, NoT w x 3 ∧ NoT w x 46 ∧ NoT w x 112) : SubT B w' x q :=
  ⟨row_turn h.1 t (fun y hy => (hS y hy).1), row_turn h.2.1 t (fun y hy => (hS y hy).2.1), row_turn h.2.2.1 t (fun y hy => (hS y hy).2.1), row_turn h.2.2.2 t (fun y hy => (hS y hy).2.2)⟩
theorem SubT.keep {B : Nat} {w w' : World} {x : SB} {q : Q4} {b : Nat} {cs : Array Value} {t : TypeId} {fr : Nat × Nat} (h : SubT B w x q) (hb : w.heap[b]? = some (.cells cs t fr)) (ht : t ≠ 3 ∧ t ≠ 46 ∧ t ≠ 112) (hk : ∀ y < w.heap.size, y ≠ b → w'.heap[y]? = w.heap[y]?) : SubT B w' x q := by
  have key : ∀ {e k v n ds}, w.ownsRow B e k v n ds → t ≠ e → w'.ownsRow B e k v n ds := by
    intro e k v n ds hr hne
    refine row_same hr (fun g hg => hk g (hr.lt g hg).2 (fun hx => ?_))
    obtain ⟨cur, hc⟩ := row_tag hr hg
    subst hx
    rw [hb] at hc
    simp at hc
    exact hne hc.2.1
  exact ⟨key h.1 ht.1, key h.2.1 ht.2.1, key h.2.2.1 ht.2.1, key h.2.2.2 ht.2.2⟩
theorem SubT.low {B B' : Nat} {w : World} {x : SB} {q : Q4} (h : SubT B w x q) (hb : B' ≤ B) : SubT B' w x q := ⟨row_low h.1 hb, row_low h.2.1 hb, row_low h.2.2.1 hb, row_low h.2.2.2 hb⟩
theorem five (w : World) (o1 o2 o3 o4 o5 : Obj) : Grew w (((((w.alloc o1).alloc o2).alloc o3).alloc o4).alloc o5) ∧ (((((w.alloc o1).alloc o2).alloc o3).alloc o4).alloc o5).heap[w.heap.size]? = some o1 ∧ (((((w.alloc o1).alloc o2).alloc o3).alloc o4).alloc o5).heap[w.heap.size + 1]? = some o2 ∧
    (((((w.alloc o1).alloc o2).alloc o3).alloc o4).alloc o5).heap[w.heap.size + 1 + 1]? = some o3 ∧ (((((w.alloc o1).alloc o2).alloc o3).alloc o4).alloc o5).heap[w.heap.size + 1 + 1 + 1]? = some o4 ∧ (((((w.alloc o1).alloc o2).alloc o3).alloc o4).alloc o5).heap[w.heap.size + 1 + 1 + 1 + 1]? = some o5 := by
  have h1 : (w.alloc o1).heap.size = w.heap.size + 1 := alloc_size _ _
  have h2 : ((w.alloc o1).alloc o2).heap.size = w.heap.size + 1 + 1 := by rw [alloc_size, h1]
  have h3 : (((w.alloc o1).alloc o2).alloc o3).heap.size = w.heap.size + 1 + 1 + 1 := by rw [alloc_size, h2]
  have h4 : ((((w.alloc o1).alloc o2).alloc o3).alloc o4).heap.size = w.heap.size + 1 + 1 + 1 + 1 := by rw [alloc_size, h3]
  refine ⟨(((((Grew.refl w).alloc _).alloc _).alloc _).alloc _).alloc _, heap_alloc (heap_alloc (heap_alloc (heap_alloc (heap_alloc_last _ _) _) _) _) _, ?_, ?_, ?_, ?_⟩
  · rw [← h1]; exact heap_alloc (heap_alloc (heap_alloc (heap_alloc_last _ _) _) _) _
  · rw [← h2]; exact heap_alloc (heap_alloc (heap_alloc_last _ _) _) _
  · rw [← h3]; exact heap_alloc (heap_alloc_last _ _) _
  · rw [← h4]; exact heap_alloc_last _ _
theorem swapped_fun {w : World} {x : SB} {sv pv rv fv k1 k2 : Value} {f : Int → Int} {D : Int → Prop} (h : SubR w x sv pv rv fv) (hm : Sml x) (ht : Tells w k1 k2 f D) (hd : In D x) (hk : x.comp.kind = 1) :
    Calls Tryz.prog 161 #[.agg #[.bool x.final_, sv, .int .i64 x.comp.kind, pv, rv, fv], SWAP k1 k2] w fun en w' => ∃ s' p' r' f', en = .returned (.agg #[.bool x.final_, s', .int .i64 x.comp.kind, p', r', f']) ∧ SubT w.heap.size w' (x.sw f) ⟨s', p', r', f'⟩ ∧ Grew w w' := by
  have hmf : ∀ (fn : Fn) (first cap : Array Value) (w : World), (Instr.makeFunc fn first cap).run Tryz.prog w = .ok (.func fn first cap) w := fun _ _ _ _ => rfl
  obtain ⟨fin, sup, ⟨kind, ps, rs, fs⟩⟩ := x
  obtain ⟨hs, hp, hr, hf⟩ := h
  obtain ⟨ds, dp, dr, df⟩ := hd
  obtain ⟨ms, mp, mr, mf⟩ := hm
  simp only at hs hp hr hf hk ds dp dr df ms mp mr mf ⊢
  obtain ⟨sa, scap, rfl, hscap, hsmax⟩ := hs.one
  obtain ⟨pa, pcap, rfl, hpcap, hpmax⟩ := hp.one
  obtain ⟨ra, rcap, rfl, hrcap, hrmax⟩ := hr.one
  obtain ⟨fa, fcap, rfl, hfcap, hfmax⟩ := hf.one
  clear hscap hsmax hpcap hpmax hrcap hrmax hfcap hfmax
  subst hk
  have CP : Hid (∀ W, Grew w W → ∀ sb, BX W sb 219 (SWAP k1 k2) → Calls Tryz.prog 172 #[.slice pa ps.length pcap, VALC sb] W fun en w' => ∃ u, en = .returned u ∧ RowV W.heap.size w' u (ps.map (VT.sw f)) ∧ Grew W w') := fun W g sb hb => eachV_any (hp.grew g) mp (ht.grew g) hb (dp rfl)
  have CR : Hid (∀ W, Grew w W → ∀ sb, BX W sb 219 (SWAP k1 k2) → Calls Tryz.prog 172 #[.slice ra rs.length rcap, VALC sb] W fun en w' => ∃ u, en = .returned u ∧ RowV W.heap.size w' u (rs.map (VT.sw f)) ∧ Grew W w') := fun W g sb hb => eachV_any (hr.grew g) mr (ht.grew g) hb (dr rfl)
  have CS : Hid (∀ W, Grew w W → Calls Tryz.prog 174 #[.slice sa sup.length scap, SWAP k1 k2] W fun en w' => ∃ u, en = .returned u ∧ RowI W.heap.size w' u (sup.map f) ∧ Grew W w') := fun W g => eachI_any (hs.grew g) ms (ht.grew g) ds
  clear hs hp hr hf ds dp dr df ht
  obtain ⟨P, hP⟩ : ∃ P, ps.map (VT.sw f) = P := ⟨_, rfl⟩
  obtain ⟨R, hR⟩ : ∃ R, rs.map (VT.sw f) = R := ⟨_, rfl⟩
  obtain ⟨S, hS⟩ : ∃ S, sup.map f = S := ⟨_, rfl⟩
  rw [hP] at CP
  rw [hR] at CR
  rw [hS] at CS
  have HX : Hid (SB.sw f ⟨fin, sup, ⟨1, ps, rs, fs⟩⟩ = ⟨fin, S, ⟨1, P, R, []⟩⟩) := (by rw [← hP, ← hR, ← hS]; rfl : SB.sw f ⟨fin, sup, ⟨1, ps, rs, fs⟩⟩ = ⟨fin, S, ⟨1, P, R, []⟩⟩)
  rw [HX.out]
  clear hP hR hS HX
  unfold SWAP VALC at *
  go_enter Tryz.func161, Tryz.ntmps161
  go_wp2_with fail
  generalize hW : (((((w.alloc (.cells #[.bool fin, .slice sa sup.length scap, .int .i64 1, .slice pa ps.length pcap, .slice ra rs.length rcap, .slice fa fs.length fcap] 108)).alloc (.cells #[.func (.func 158) #[] #[k1, k2]] 219)).alloc (.cells #[.bool false, .slice none 0 0, .int .i64 0, .slice none 0 0, .slice none 0 0, .slice none 0 0] 108)).alloc (.cells #[.func (.func 169) #[] #[.pointer (some ⟨w.heap.size + 1, 0, none⟩)]] 91)).alloc (.cells #[.int .i64 1, .slice none 0 0, .slice none 0 0, .slice none 0 0] 106)) = W
  obtain ⟨G0, A0, A1, A2, A3, A4⟩ : Hid (Grew w W) ∧ Hid (W.heap[w.heap.size]? = some (sobj fin (.slice sa sup.length scap) 1 (.slice pa ps.length pcap) (.slice ra rs.length rcap) (.slice fa fs.length fcap))) ∧ Hid (BX W (w.heap.size + 1) 219 (SWAP k1 k2)) ∧ Hid (W.heap[w.heap.size + 1 + 1]? = some (sobj false NILS 0 NILS NILS NILS)) ∧ Hid (BX W (w.heap.size + 1 + 1 + 1) 91 (VALC (w.heap.size + 1))) ∧ Hid (W.heap[w.heap.size + 1 + 1 + 1 + 1]? = some (cobj 1 NILS NILS NILS)) := by
    rw [← hW]; exact five w _ _ _ _ _
  clear hW
  unfold SWAP VALC at *
  have A4' : Hid (W.heap[w.heap.size + 1 + 1 + 1 + 1]? = some (.cells #[.int .i64 1, .slice none 0 0, .slice none 0 0, .slice none 0 0] 106 (0, 0))) := A4.out
  have v0 := cell_of A3.out 0
  have s3 := cell_of A0.out 3
  have s4 := cell_of A0.out 4
  simp at v0 s3 s4
  have hk0 : w.heap.size < W.heap.size := lt_of_obj A0.out
  have n1 : ¬ w.heap.size = w.heap.size + 1 + 1 + 1 + 1 := by omega
  have n2 : ¬ w.heap.size + 1 + 1 + 1 + 1 = w.heap.size := by omega
  go_region_held3 (fun w' => w'.cell? ⟨w.heap.size, 3, none⟩ = some (.slice pa ps.length pcap) ∧ w'.cell? ⟨w.heap.size, 4, none⟩ = some (.slice ra rs.length rcap) ∧ w'.cell? ⟨w.heap.size + 1 + 1 + 1, 0, none⟩ = some (.func (.func 169) #[] #[.pointer (some ⟨w.heap.size + 1, 0, none⟩)])) (go_keep)
    (first
     | (go_at_call 172
        refine (CR.out w6 (G0.out.trans G6.out) _ (A1.out.grew G6.out)).mono ?_
        rintro en w7 ⟨u7, rfl, hR7, g7⟩
        obtain ⟨a7, c7, rfl, _, _, _⟩ := row_max hR7
        have G7 : Hid (Grew W w7) := G6.out.trans g7
        have R7 : Hid (RowV W.heap.size w7 (.slice a7 R.length c7) R) := row_low hR7 G6.out.2
        have R6' : Hid (RowV W.heap.size w7 (.slice a6 P.length c6) P) := R6.out.grew g7
        have i0 := cell_grew j0 g7
        have i1 := cell_grew j1 g7
        have i2 := cell_grew j2 g7
        have B4 := G7.out.other A4'.out
        have y0 := cell_of B4 0
        have y1 := cell_of B4 1
        have y2 := cell_of B4 2
        have y3 := cell_of B4 3
        have z1 := free_of B4 1
        have z2 := free_of B4 2
        have z3 := free_of B4 3
        simp at y0 y1 y2 y3
        have hl1 := lt_of_obj B4
        have BB : Hid (w7.heap[w.heap.size + 1 + 1 + 1 + 1]? = some (.cells #[.int .i64 1, .slice none 0 0, .slice none 0 0, .slice none 0 0] 106 (0, 0))) := B4
        clear g7 hR7 B4)
     | (go_at_call 172
        refine (CP.out W.drew G0.out.drew _ (A1.out.grew (Grew.refl _).drew)).mono ?_
        rintro en w6 ⟨u6, rfl, hR6, g6⟩
        obtain ⟨a6, c6, rfl, _, _, _⟩ := row_max hR6
        have g6' : Grew W w6 := ((Grew.refl _).drew).trans g6
        have G6 : Hid (Grew W w6) := g6'
        have R6 : Hid (RowV W.heap.size w6 (.slice a6 P.length c6) P) := hR6
        have j0 := cell_grew s3 g6'
        have j1 := cell_grew s4 g6'
        have j2 := cell_grew v0 g6'
        clear g6 g6' hR6))
  all_goals go_wp2_with fail
  have e1 := heap_set BB.out 1 (.slice a6 P.length c6)
  have e2 := heap_set e1 2 (.slice a7 R.length c7)
  have tq : Turn [w.heap.size + 1 + 1 + 1 + 1] w7 ((w7.setCell ⟨w.heap.size + 1 + 1 + 1 + 1, 1, none⟩ (.slice a6 P.length c6)).setCell ⟨w.heap.size + 1 + 1 + 1 + 1, 2, none⟩ (.slice a7 R.length c7)) := ((Turn.refl [w.heap.size + 1 + 1 + 1 + 1] w7).set (by simp) _).set (by simp) _
  have nu : ∀ e, 106 ≠ e → ∀ x ∈ [w.heap.size + 1 + 1 + 1 + 1], NoT w7 x e := fun e he x hx => by
    rw [List.mem_singleton] at hx
    subst hx
    exact NoT.of BB.out he
  obtain ⟨B, hB⟩ : ∃ B, W.heap.size = B := ⟨_, rfl⟩
  have hBw : w.heap.size ≤ B := by rw [← hB]; first | exact G0.out.2 | exact GX.out.2
  rw [hB] at R6' R7
  have RP : Hid (RowV B ((w7.setCell ⟨w.heap.size + 1 + 1 + 1 + 1, 1, none⟩ (.slice a6 P.length c6)).setCell ⟨w.heap.size + 1 + 1 + 1 + 1, 2, none⟩ (.slice a7 R.length c7)) (.slice a6 P.length c6) P) := row_turn R6'.out tq (nu _ (by decide))
  have RR : Hid (RowV B ((w7.setCell ⟨w.heap.size + 1 + 1 + 1 + 1, 1, none⟩ (.slice a6 P.length c6)).setCell ⟨w.heap.size + 1 + 1 + 1 + 1, 2, none⟩ (.slice a7 R.length c7)) (.slice a7 R.length c7) R) := row_turn R7.out tq (nu _ (by decide))
  have GX : Hid (Grew w ((w7.setCell ⟨w.heap.size + 1 + 1 + 1 + 1, 1, none⟩ (.slice a6 P.length c6)).setCell ⟨w.heap.size + 1 + 1 + 1 + 1, 2, none⟩ (.slice a7 R.length c7))) := tq.grew (G0.out.trans G7.out) (fun x hx => by simp at hx; omega)
  have X0 : Hid (((w7.setCell ⟨w.heap.size + 1 + 1 + 1 + 1, 1, none⟩ (.slice a6 P.length c6)).setCell ⟨w.heap.size + 1 + 1 + 1 + 1, 2, none⟩ (.slice a7 R.length c7)).heap[w.heap.size]? = some (.cells #[.bool fin, .slice sa sup.length scap, .int .i64 1, .slice pa ps.length pcap, .slice ra rs.length rcap, .slice fa fs.length fcap] 108 (0, 0))) := tq.other (G7.out.other A0.out) (by simp; omega)
  have X1 : Hid (BX ((w7.setCell ⟨w.heap.size + 1 + 1 + 1 + 1, 1, none⟩ (.slice a6 P.length c6)).setCell ⟨w.heap.size + 1 + 1 + 1 + 1, 2, none⟩ (.slice a7 R.length c7)) (w.heap.size + 1) 219 (SWAP k1 k2)) := tq.other (G7.out.other A1.out) (by simp)
  have X2 : Hid (((w7.setCell ⟨w.heap.size + 1 + 1 + 1 + 1, 1, none⟩ (.slice a6 P.length c6)).setCell ⟨w.heap.size + 1 + 1 + 1 + 1, 2, none⟩ (.slice a7 R.length c7)).heap[w.heap.size + 1 + 1]? = some (.cells #[.bool false, .slice none 0 0, .int .i64 0, .slice none 0 0, .slice none 0 0, .slice none 0 0] 108 (0, 0))) := tq.other (G7.out.other A2.out) (by simp)
  have X4 : Hid (((w7.setCell ⟨w.heap.size + 1 + 1 + 1 + 1, 1, none⟩ (.slice a6 P.length c6)).setCell ⟨w.heap.size + 1 + 1 + 1 + 1, 2, none⟩ (.slice a7 R.length c7)).heap[w.heap.size + 1 + 1 + 1 + 1]? = some (.cells #[.int .i64 1, .slice a6 P.length c6, .slice a7 R.length c7, .slice none 0 0] 106 (0, 0))) := e2
  generalize ((w7.setCell ⟨w.heap.size + 1 + 1 + 1 + 1, 1, none⟩ (.slice a6 P.length c6)).setCell ⟨w.heap.size + 1 + 1 + 1 + 1, 2, none⟩ (.slice a7 R.length c7)) = X at *
  have RF : Hid (RowF B X (.slice none 0 0) ([] : List FT)) := RowF.nil _ _
  clear e1 e2 tq nu hB R6 R6' R7 BB y0 y1 y2 y3 z1 z2 z3 hl1 i0 i1 i2 j0 j1 j2 G6 G7 G0 A0 A1 A2 A3 A4 A4' v0 s3 s4 hk0 CP CR
  unfold SWAP at X1
  have s0 := cell_of X0.out 0
  have s1 := cell_of X0.out 1
  have x0 := cell_of X1.out 0
  have t0 := cell_of X4.out 0
  have t1 := cell_of X4.out 1
  have t2 := cell_of X4.out 2
  have t3 := cell_of X4.out 3
  simp at s0 s1 x0 t0 t1 t2 t3
  have hx0 : w.heap.size < X.heap.size := lt_of_obj X0.out
  have m1 : ¬ w.heap.size = w.heap.size + 1 + 1 := by omega
  have m2 : ¬ w.heap.size + 1 + 1 = w.heap.size := by omega
  have m3 : ¬ w.heap.size + 1 = w.heap.size + 1 + 1 := by omega
  have m4 : ¬ w.heap.size + 1 + 1 = w.heap.size + 1 := by omega
  have m5 : ¬ w.heap.size + 1 + 1 + 1 + 1 = w.heap.size + 1 + 1 := by omega
  have m6 : ¬ w.heap.size + 1 + 1 = w.heap.size + 1 + 1 + 1 + 1 := by omega
  go_region_held3 (fun w' => w'.cell? ⟨w.heap.size, 0, none⟩ = some (.bool fin) ∧ w'.cell? ⟨w.heap.size, 1, none⟩ = some (.slice sa sup.length scap) ∧ w'.cell? ⟨w.heap.size + 1, 0, none⟩ = some (.func (.func 158) #[] #[k1, k2]) ∧ w'.cell? ⟨w.heap.size + 1 + 1 + 1 + 1, 0, none⟩ = some (.int .i64 1) ∧ w'.cell? ⟨w.heap.size + 1 + 1 + 1 + 1, 1, none⟩ = some (.slice a6 P.length c6) ∧ w'.cell? ⟨w.heap.size + 1 + 1 + 1 + 1, 2, none⟩ = some (.slice a7 R.length c7) ∧ w'.cell? ⟨w.heap.size + 1 + 1 + 1 + 1, 3, none⟩ = some (.slice none 0 0)) (go_keep)
    (first
     | (go_at_call 174
        refine (CS.out X.drew GX.out.drew).mono ?_
        rintro en w8 ⟨u8, rfl, hR8, g8⟩
        obtain ⟨a8, c8, rfl, _, _, _⟩ := row_max hR8
        have g8' : Grew X w8 := ((Grew.refl _).drew).trans g8
        have G8 : Hid (Grew w w8) := GX.out.trans g8'
        have R8 : Hid (RowI X.heap.size w8 (.slice a8 S.length c8) S) := hR8
        have RP8 : Hid (RowV B w8 (.slice a6 P.length c6) P) := RP.out.grew g8'
        have RR8 : Hid (RowV B w8 (.slice a7 R.length c7) R) := RR.out.grew g8'
        have RF8 : Hid (RowF B w8 (.slice none 0 0) []) := RF.out.grew g8'
        have o0 := cell_grew s0 g8'
        have o1 := cell_grew s1 g8'
        have o2 := cell_grew x0 g8'
        have o3 := cell_grew t0 g8'
        have o4 := cell_grew t1 g8'
        have o5 := cell_grew t2 g8'
        have o6 := cell_grew t3 g8'
        have B2 := g8'.other X2.out
        have y0 := cell_of B2 0
        have y1 := cell_of B2 1
        have y2 := cell_of B2 2
        have y3 := cell_of B2 3
        have y4 := cell_of B2 4
        have y5 := cell_of B2 5
        have z0 := free_of B2 0
        have z1 := free_of B2 1
        have z2 := free_of B2 2
        have z3 := free_of B2 3
        have z4 := free_of B2 4
        have z5 := free_of B2 5
        simp at y0 y1 y2 y3 y4 y5
        have hl2 := lt_of_obj B2
        have BB2 : Hid (w8.heap[w.heap.size + 1 + 1]? = some (.cells #[.bool false, .slice none 0 0, .int .i64 0, .slice none 0 0, .slice none 0 0, .slice none 0 0] 108 (0, 0))) := B2
        clear g8 g8' hR8 B2))
  all_goals go_wp2_with fail
  all_goals
    have e0 := heap_set BB2.out 0 (.bool fin)
    have e1 := heap_set e0 1 (.slice a8 S.length c8)
    have e2 := heap_set e1 2 (.int .i64 1)
    have e3 := heap_set e2 3 (.slice a6 P.length c6)
    have e4 := heap_set e3 4 (.slice a7 R.length c7)
    have e5 := heap_set e4 5 (.slice none 0 0)
    have q0 := cell_of e0 0
    have q1 := cell_of e1 1
    have q2 := cell_of e2 2
    have q3 := cell_of e3 3
    have q4 := cell_of e4 4
    have q5 := cell_of e5 5
    simp at q0 q1 q2 q3 q4 q5
    refine bodyPost_ret (v := .agg #[.bool fin, .slice a8 S.length c8, .int .i64 1, .slice a6 P.length c6, .slice a7 R.length c7, .slice none 0 0]) (by simp [results, Tryz.results161, go_sem, q0, q1, q2, q3, q4, q5]) rfl ?_
    have tn : Turn [w.heap.size + 1 + 1] w8 ((((((w8.setCell ⟨w.heap.size + 1 + 1, 0, none⟩ (.bool fin)).setCell ⟨w.heap.size + 1 + 1, 1, none⟩ (.slice a8 S.length c8)).setCell ⟨w.heap.size + 1 + 1, 2, none⟩ (.int .i64 1)).setCell ⟨w.heap.size + 1 + 1, 3, none⟩ (.slice a6 P.length c6)).setCell ⟨w.heap.size + 1 + 1, 4, none⟩ (.slice a7 R.length c7)).setCell ⟨w.heap.size + 1 + 1, 5, none⟩ (.slice none 0 0)) := ((((((Turn.refl [w.heap.size + 1 + 1] w8).set (by simp) _).set (by simp) _).set (by simp) _).set (by simp) _).set (by simp) _).set (by simp) _
    have nt : ∀ e, 108 ≠ e → ∀ x ∈ [w.heap.size + 1 + 1], NoT w8 x e := fun e he x hx => by
      rw [List.mem_singleton] at hx
      subst hx
      exact NoT.of BB2.out he
    have r1 : RowI X.heap.size _ (.slice a8 S.length c8) S := row_turn R8.out tn (nt _ (by decide))
    have r2 : RowV B _ (.slice a6 P.length c6) P := row_turn RP8.out tn (nt _ (by decide))
    have r3 : RowV B _ (.slice a7 R.length c7) R := row_turn RR8.out tn (nt _ (by decide))
    have r4 : RowF B _ (.slice none 0 0) [] := row_turn RF8.out tn (nt _ (by decide))
    exact ⟨_, _, _, _, rfl, ⟨row_low r1 (by omega), row_low r2 hBw, row_low r3 hBw, row_low r4 hBw⟩, tn.grew G8.out (fun x hx => by simp at hx; omega)⟩
theorem swapped_two {w : World} {x : SB} {sv pv rv fv k1 k2 : Value} {f : Int → Int} {D : Int → Prop} (h : SubR w x sv pv rv fv) (hm : Sml x) (ht : Tells w k1 k2 f D) (hd : In D x) (hk : x.comp.kind = 2) :
    Calls Tryz.prog 161 #[.agg #[.bool x.final_, sv, .int .i64 x.comp.kind, pv, rv, fv], SWAP k1 k2] w fun en w' => ∃ s' p' r' f', en = .returned (.agg #[.bool x.final_, s', .int .i64 x.comp.kind, p', r', f']) ∧ SubT w.heap.size w' (x.sw f) ⟨s', p', r', f'⟩ ∧ Grew w w' := by
  have hmf : ∀ (fn : Fn) (first cap : Array Value) (w : World), (Instr.makeFunc fn first cap).run Tryz.prog w = .ok (.func fn first cap) w := fun _ _ _ _ => rfl
  obtain ⟨fin, sup, ⟨kind, ps, rs, fs⟩⟩ := x
  obtain ⟨hs, hp, hr, hf⟩ := h
  obtain ⟨ds, dp, dr, df⟩ := hd
  obtain ⟨ms, mp, mr, mf⟩ := hm
  simp only at hs hp hr hf hk ds dp dr df ms mp mr mf ⊢
  obtain ⟨sa, scap, rfl, hscap, hsmax⟩ := hs.one
  obtain ⟨pa, pcap, rfl, hpcap, hpmax⟩ := hp.one
  obtain ⟨ra, rcap, rfl, hrcap, hrmax⟩ := hr.one
  obtain ⟨fa, fcap, rfl, hfcap, hfmax⟩ := hf.one
  clear hscap hsmax hpcap hpmax hrcap hrmax hfcap hfmax
  subst hk
  have CF : Hid (∀ W, Grew w W → ∀ sb vb, BX W sb 219 (SWAP k1 k2) → BX W vb 91 (VALC sb) → Calls Tryz.prog 173 #[.slice fa fs.length fcap, FLDC vb] W fun en w' => ∃ u, en = .returned u ∧ RowF W.heap.size w' u (fs.map (FT.sw f)) ∧ Grew W w') := fun W g sb vb hb hv => eachF_any (hf.grew g) mf (ht.grew g) hb hv (df (by decide))
  have CS : Hid (∀ W, Grew w W → Calls Tryz.prog 174 #[.slice sa sup.length scap, SWAP k1 k2] W fun en w' => ∃ u, en = .returned u ∧ RowI W.heap.size w' u (sup.map f) ∧ Grew W w') := fun W g => eachI_any (hs.grew g) ms (ht.grew g) ds
  clear hs hp hr hf ds dp dr df ht
  obtain ⟨R, hR⟩ : ∃ R, fs.map (FT.sw f) = R := ⟨_, rfl⟩
  obtain ⟨S, hS⟩ : ∃ S, sup.map f = S := ⟨_, rfl⟩
  rw [hR] at CF
  rw [hS] at CS
  have HX : Hid (SB.sw f ⟨fin, sup, ⟨2, ps, rs, fs⟩⟩ = ⟨fin, S, ⟨2, [], [], R⟩⟩) := (by rw [← hR, ← hS]; rfl : SB.sw f ⟨fin, sup, ⟨2, ps, rs, fs⟩⟩ = ⟨fin, S, ⟨2, [], [], R⟩⟩)
  rw [HX.out]
  clear hR hS HX
  unfold SWAP VALC FLDC at *
  go_enter Tryz.func161, Tryz.ntmps161
  go_wp2_with fail
  generalize hW : (((((w.alloc (.cells #[.bool fin, .slice sa sup.length scap, .int .i64 2, .slice pa ps.length pcap, .slice ra rs.length rcap, .slice fa fs.length fcap] 108)).alloc (.cells #[.func (.func 158) #[] #[k1, k2]] 219)).alloc (.cells #[.bool false, .slice none 0 0, .int .i64 0, .slice none 0 0, .slice none 0 0, .slice none 0 0] 108)).alloc (.cells #[.func (.func 169) #[] #[.pointer (some ⟨w.heap.size + 1, 0, none⟩)]] 91)).alloc (.cells #[.int .i64 2, .slice none 0 0, .slice none 0 0, .slice none 0 0] 106)) = W
  obtain ⟨G0, A0, A1, A2, A3, A4⟩ : Hid (Grew w W) ∧ Hid (W.heap[w.heap.size]? = some (sobj fin (.slice sa sup.length scap) 2 (.slice pa ps.length pcap) (.slice ra rs.length rcap) (.slice fa fs.length fcap))) ∧ Hid (BX W (w.heap.size + 1) 219 (SWAP k1 k2)) ∧ Hid (W.heap[w.heap.size + 1 + 1]? = some (sobj false NILS 0 NILS NILS NILS)) ∧ Hid (BX W (w.heap.size + 1 + 1 + 1) 91 (VALC (w.heap.size + 1))) ∧ Hid (W.heap[w.heap.size + 1 + 1 + 1 + 1]? = some (cobj 2 NILS NILS NILS)) := by
    rw [← hW]; exact five w _ _ _ _ _
  clear hW
  unfold SWAP VALC at *
  have A4' : Hid (W.heap[w.heap.size + 1 + 1 + 1 + 1]? = some (.cells #[.int .i64 2, .slice none 0 0, .slice none 0 0, .slice none 0 0] 106 (0, 0))) := A4.out
  have s5 := cell_of A0.out 5
  simp at s5
  have hk0 : w.heap.size < W.heap.size := lt_of_obj A0.out
  have n1 : ¬ w.heap.size = w.heap.size + 1 + 1 + 1 + 1 := by omega
  have n2 : ¬ w.heap.size + 1 + 1 + 1 + 1 = w.heap.size := by omega
  refine (CF.out W G0.out _ _ A1.out A3.out).mono ?_
  rintro en w7 ⟨u7, rfl, hR7, g7⟩
  obtain ⟨a7, c7, rfl, _, _, _⟩ := row_max hR7
  have G7 : Hid (Grew W w7) := g7
  have R7 : Hid (RowF W.heap.size w7 (.slice a7 R.length c7) R) := hR7
  have i0 := cell_grew s5 g7
  have B4 := G7.out.other A4'.out
  have y3 := cell_of B4 3
  have z3 := free_of B4 3
  simp at y3
  have hl1 := lt_of_obj B4
  have BB : Hid (w7.heap[w.heap.size + 1 + 1 + 1 + 1]? = some (.cells #[.int .i64 2, .slice none 0 0, .slice none 0 0, .slice none 0 0] 106 (0, 0))) := B4
  clear g7 hR7 B4
  all_goals go_wp2_with fail
  have e1 := heap_set BB.out 3 (.slice a7 R.length c7)
  have tq : Turn [w.heap.size + 1 + 1 + 1 + 1] w7 (w7.setCell ⟨w.heap.size + 1 + 1 + 1 + 1, 3, none⟩ (.slice a7 R.length c7)) := (Turn.refl [w.heap.size + 1 + 1 + 1 + 1] w7).set (by simp) _
  have nu : ∀ e, 106 ≠ e → ∀ x ∈ [w.heap.size + 1 + 1 + 1 + 1], NoT w7 x e := fun e he x hx => by
    rw [List.mem_singleton] at hx
    subst hx
    exact NoT.of BB.out he
  obtain ⟨B, hB⟩ : ∃ B, W.heap.size = B := ⟨_, rfl⟩
  have hBw : w.heap.size ≤ B := by rw [← hB]; first | exact G0.out.2 | exact GX.out.2
  rw [hB] at R7
  have RF : Hid (RowF B (w7.setCell ⟨w.heap.size + 1 + 1 + 1 + 1, 3, none⟩ (.slice a7 R.length c7)) (.slice a7 R.length c7) R) := row_turn R7.out tq (nu _ (by decide))
  have GX : Hid (Grew w (w7.setCell ⟨w.heap.size + 1 + 1 + 1 + 1, 3, none⟩ (.slice a7 R.length c7))) := tq.grew (G0.out.trans G7.out) (fun x hx => by simp at hx; omega)
  have X0 : Hid ((w7.setCell ⟨w.heap.size + 1 + 1 + 1 + 1, 3, none⟩ (.slice a7 R.length c7)).heap[w.heap.size]? = some (.cells #[.bool fin, .slice sa sup.length scap, .int .i64 2, .slice pa ps.length pcap, .slice ra rs.length rcap, .slice fa fs.length fcap] 108 (0, 0))) := tq.other (G7.out.other A0.out) (by simp; omega)
  have X1 : Hid (BX (w7.setCell ⟨w.heap.size + 1 + 1 + 1 + 1, 3, none⟩ (.slice a7 R.length c7)) (w.heap.size + 1) 219 (SWAP k1 k2)) := tq.other (G7.out.other A1.out) (by simp)
  have X2 : Hid ((w7.setCell ⟨w.heap.size + 1 + 1 + 1 + 1, 3, none⟩ (.slice a7 R.length c7)).heap[w.heap.size + 1 + 1]? = some (.cells #[.bool false, .slice none 0 0, .int .i64 0, .slice none 0 0, .slice none 0 0, .slice none 0 0] 108 (0, 0))) := tq.other (G7.out.other A2.out) (by simp)
  have X4 : Hid ((w7.setCell ⟨w.heap.size + 1 + 1 + 1 + 1, 3, none⟩ (.slice a7 R.length c7)).heap[w.heap.size + 1 + 1 + 1 + 1]? = some (.cells #[.int .i64 2, .slice none 0 0, .slice none 0 0, .slice a7 R.length c7] 106 (0, 0))) := e1
  generalize (w7.setCell ⟨w.heap.size + 1 + 1 + 1 + 1, 3, none⟩ (.slice a7 R.length c7)) = X at *
  have RP : Hid (RowV B X (.slice none 0 0) ([] : List VT)) := RowV.nil _ _
  have RR : Hid (RowV B X (.slice none 0 0) ([] : List VT)) := RowV.nil _ _
  clear e1 tq nu hB R7 BB y3 z3 hl1 i0 G7 G0 A0 A1 A2 A3 A4 A4' s5 hk0 CF
  unfold SWAP at X1
  have s0 := cell_of X0.out 0
  have s1 := cell_of X0.out 1
  have x0 := cell_of X1.out 0
  have t0 := cell_of X4.out 0
  have t1 := cell_of X4.out 1
  have t2 := cell_of X4.out 2
  have t3 := cell_of X4.out 3
  simp at s0 s1 x0 t0 t1 t2 t3
  have hx0 : w.heap.size < X.heap.size := lt_of_obj X0.out
  have m1 : ¬ w.heap.size = w.heap.size + 1 + 1 := by omega
  have m2 : ¬ w.heap.size + 1 + 1 = w.heap.size := by omega
  have m3 : ¬ w.heap.size + 1 = w.heap.size + 1 + 1 := by omega
  have m4 : ¬ w.heap.size + 1 + 1 = w.heap.size + 1 := by omega
  have m5 : ¬ w.heap.size + 1 + 1 + 1 + 1 = w.heap.size + 1 + 1 := by omega
  have m6 : ¬ w.heap.size + 1 + 1 = w.heap.size + 1 + 1 + 1 + 1 := by omega
  go_region_held3 (fun w' => w'.cell? ⟨w.heap.size, 0, none⟩ = some (.bool fin) ∧ w'.cell? ⟨w.heap.size, 1, none⟩ = some (.slice sa sup.length scap) ∧ w'.cell? ⟨w.heap.size + 1, 0, none⟩ = some (.func (.func 158) #[] #[k1, k2]) ∧ w'.cell? ⟨w.heap.size + 1 + 1 + 1 + 1, 0, none⟩ = some (.int .i64 2) ∧ w'.cell? ⟨w.heap.size + 1 + 1 + 1 + 1, 1, none⟩ = some (.slice none 0 0) ∧ w'.cell? ⟨w.heap.size + 1 + 1 + 1 + 1, 2, none⟩ = some (.slice none 0 0) ∧ w'.cell? ⟨w.heap.size + 1 + 1 + 1 + 1, 3, none⟩ = some (.slice a7 R.length c7)) (go_keep)
    (first
     | (go_at_call 174
        refine (CS.out X.drew GX.out.drew).mono ?_
        rintro en w8 ⟨u8, rfl, hR8, g8⟩
        obtain ⟨a8, c8, rfl, _, _, _⟩ := row_max hR8
        have g8' : Grew X w8 := ((Grew.refl _).drew).trans g8
        have G8 : Hid (Grew w w8) := GX.out.trans g8'
        have R8 : Hid (RowI X.heap.size w8 (.slice a8 S.length c8) S) := hR8
        have RP8 : Hid (RowV B w8 (.slice none 0 0) []) := RP.out.grew g8'
        have RR8 : Hid (RowV B w8 (.slice none 0 0) []) := RR.out.grew g8'
        have RF8 : Hid (RowF B w8 (.slice a7 R.length c7) R) := RF.out.grew g8'
        have o0 := cell_grew s0 g8'
        have o1 := cell_grew s1 g8'
        have o2 := cell_grew x0 g8'
        have o3 := cell_grew t0 g8'
        have o4 := cell_grew t1 g8'
        have o5 := cell_grew t2 g8'
        have o6 := cell_grew t3 g8'
        have B2 := g8'.other X2.out
        have y0 := cell_of B2 0
        have y1 := cell_of B2 1
        have y2 := cell_of B2 2
        have y3 := cell_of B2 3
        have y4 := cell_of B2 4
        have y5 := cell_of B2 5
        have z0 := free_of B2 0
        have z1 := free_of B2 1
        have z2 := free_of B2 2
        have z3 := free_of B2 3
        have z4 := free_of B2 4
        have z5 := free_of B2 5
        simp at y0 y1 y2 y3 y4 y5
        have hl2 := lt_of_obj B2
        have BB2 : Hid (w8.heap[w.heap.size + 1 + 1]? = some (.cells #[.bool false, .slice none 0 0, .int .i64 0, .slice none 0 0, .slice none 0 0, .slice none 0 0] 108 (0, 0))) := B2
        clear g8 g8' hR8 B2))
  all_goals go_wp2_with fail
  all_goals
    have e0 := heap_set BB2.out 0 (.bool fin)
    have e1 := heap_set e0 1 (.slice a8 S.length c8)
    have e2 := heap_set e1 2 (.int .i64 2)
    have e3 := heap_set e2 3 (.slice none 0 0)
    have e4 := heap_set e3 4 (.slice none 0 0)
    have e5 := heap_set e4 5 (.slice a7 R.length c7)
    have q0 := cell_of e0 0
    have q1 := cell_of e1 1
    have q2 := cell_of e2 2
    have q3 := cell_of e3 3
    have q4 := cell_of e4 4
    have q5 := cell_of e5 5
    simp at q0 q1 q2 q3 q4 q5
    refine bodyPost_ret (v := .agg #[.bool fin, .slice a8 S.length c8, .int .i64 2, .slice none 0 0, .slice none 0 0, .slice a7 R.length c7]) (by simp [results, Tryz.results161, go_sem, q0, q1, q2, q3, q4, q5]) rfl ?_
    have tn : Turn [w.heap.size + 1 + 1] w8 ((((((w8.setCell ⟨w.heap.size + 1 + 1, 0, none⟩ (.bool fin)).setCell ⟨w.heap.size + 1 + 1, 1, none⟩ (.slice a8 S.length c8)).setCell ⟨w.heap.size + 1 + 1, 2, none⟩ (.int .i64 2)).setCell ⟨w.heap.size + 1 + 1, 3, none⟩ (.slice none 0 0)).setCell ⟨w.heap.size + 1 + 1, 4, none⟩ (.slice none 0 0)).setCell ⟨w.heap.size + 1 + 1, 5, none⟩ (.slice a7 R.length c7)) := ((((((Turn.refl [w.heap.size + 1 + 1] w8).set (by simp) _).set (by simp) _).set (by simp) _).set (by simp) _).set (by simp) _).set (by simp) _
    have nt : ∀ e, 108 ≠ e → ∀ x ∈ [w.heap.size + 1 + 1], NoT w8 x e := fun e he x hx => by
      rw [List.mem_singleton] at hx
      subst hx
      exact NoT.of BB2.out he
    have r1 : RowI X.heap.size _ (.slice a8 S.length c8) S := row_turn R8.out tn (nt _ (by decide))
    have r2 : RowV B _ (.slice none 0 0) [] := row_turn RP8.out tn (nt _ (by decide))
    have r3 : RowV B _ (.slice none 0 0) [] := row_turn RR8.out tn (nt _ (by decide))
    have r4 : RowF B _ (.slice a7 R.length c7) R := row_turn RF8.out tn (nt _ (by decide))
    exact ⟨_, _, _, _, rfl, ⟨row_low r1 (by omega), row_low r2 hBw, row_low r3 hBw, row_low r4 hBw⟩, tn.grew G8.out (fun x hx => by simp at hx; omega)⟩
theorem swapped_three {w : World} {x : SB} {sv pv rv fv k1 k2 : Value} {f : Int → Int} {D : Int → Prop} (h : SubR w x sv pv rv fv) (hm : Sml x) (ht : Tells w k1 k2 f D) (hd : In D x) (hk : x.comp.kind = 3) :
    Calls Tryz.prog 161 #[.agg #[.bool x.final_, sv, .int .i64 x.comp.kind, pv, rv, fv], SWAP k1 k2] w fun en w' => ∃ s' p' r' f', en = .returned (.agg #[.bool x.final_, s', .int .i64 x.comp.kind, p', r', f']) ∧ SubT w.heap.size w' (x.sw f) ⟨s', p', r', f'⟩ ∧ Grew w w' := by
  have hmf : ∀ (fn : Fn) (first cap : Array Value) (w : World), (Instr.makeFunc fn first cap).run Tryz.prog w = .ok (.func fn first cap) w := fun _ _ _ _ => rfl
  obtain ⟨fin, sup, ⟨kind, ps, rs, fs⟩⟩ := x
  obtain ⟨hs, hp, hr, hf⟩ := h
  obtain ⟨ds, dp, dr, df⟩ := hd
  obtain ⟨ms, mp, mr, mf⟩ := hm
  simp only at hs hp hr hf hk ds dp dr df ms mp mr mf ⊢
  obtain ⟨sa, scap, rfl, hscap, hsmax⟩ := hs.one
  obtain ⟨pa, pcap, rfl, hpcap, hpmax⟩ := hp.one
  obtain ⟨ra, rcap, rfl, hrcap, hrmax⟩ := hr.one
  obtain ⟨fa, fcap, rfl, hfcap, hfmax⟩ := hf.one
  clear hscap hsmax hpcap hpmax hrcap hrmax hfcap hfmax
  subst hk
  have CF : Hid (∀ W, Grew w W → ∀ sb vb, BX W sb 219 (SWAP k1 k2) → BX W vb 91 (VALC sb) → Calls Tryz.prog 173 #[.slice fa fs.length fcap, FLDC vb] W fun en w' => ∃ u, en = .returned u ∧ RowF W.heap.size w' u (fs.map (FT.sw f)) ∧ Grew W w') := fun W g sb vb hb hv => eachF_any (hf.grew g) mf (ht.grew g) hb hv (df (by decide))
  have CS : Hid (∀ W, Grew w W → Calls Tryz.prog 174 #[.slice sa sup.length scap, SWAP k1 k2] W fun en w' => ∃ u, en = .returned u ∧ RowI W.heap.size w' u (sup.map f) ∧ Grew W w') := fun W g => eachI_any (hs.grew g) ms (ht.grew g) ds
  clear hs hp hr hf ds dp dr df ht
  obtain ⟨R, hR⟩ : ∃ R, fs.map (FT.sw f) = R := ⟨_, rfl⟩
  obtain ⟨S, hS⟩ : ∃ S, sup.map f = S := ⟨_, rfl⟩
  rw [hR] at CF
  rw [hS] at CS
  have HX : Hid (SB.sw f ⟨fin, sup, ⟨3, ps, rs, fs⟩⟩ = ⟨fin, S, ⟨3, [], [], R⟩⟩) := (by rw [← hR, ← hS]; rfl : SB.sw f ⟨fin, sup, ⟨3, ps, rs, fs⟩⟩ = ⟨fin, S, ⟨3, [], [], R⟩⟩)
  rw [HX.out]
  clear hR hS HX
  unfold SWAP VALC FLDC at *
  go_enter Tryz.func161, Tryz.ntmps161
  go_wp2_with fail
  generalize hW : (((((w.alloc (.cells #[.bool fin, .slice sa sup.length scap, .int .i64 3, .slice pa ps.length pcap, .slice ra rs.length rcap, .slice fa fs.length fcap] 108)).alloc (.cells #[.func (.func 158) #[] #[k1, k2]] 219)).alloc (.cells #[.bool false, .slice none 0 0, .int .i64 0, .slice none 0 0, .slice none 0 0, .slice none 0 0] 108)).alloc (.cells #[.func (.func 169) #[] #[.pointer (some ⟨w.heap.size + 1, 0, none⟩)]] 91)).alloc (.cells #[.int .i64 3, .slice none 0 0, .slice none 0 0, .slice none 0 0] 106)) = W
  obtain ⟨G0, A0, A1, A2, A3, A4⟩ : Hid (Grew w W) ∧ Hid (W.heap[w.heap.size]? = some (sobj fin (.slice sa sup.length scap) 3 (.slice pa ps.length pcap) (.slice ra rs.length rcap) (.slice fa fs.length fcap))) ∧ Hid (BX W (w.heap.size + 1) 219 (SWAP k1 k2)) ∧ Hid (W.heap[w.heap.size + 1 + 1]? = some (sobj false NILS 0 NILS NILS NILS)) ∧ Hid (BX W (w.heap.size + 1 + 1 + 1) 91 (VALC (w.heap.size + 1))) ∧ Hid (W.heap[w.heap.size + 1 + 1 + 1 + 1]? = some (cobj 3 NILS NILS NILS)) := by
    rw [← hW]; exact five w _ _ _ _ _
  clear hW
  unfold SWAP VALC at *
  have A4' : Hid (W.heap[w.heap.size + 1 + 1 + 1 + 1]? = some (.cells #[.int .i64 3, .slice none 0 0, .slice none 0 0, .slice none 0 0] 106 (0, 0))) := A4.out
  have s5 := cell_of A0.out 5
  simp at s5
  have hk0 : w.heap.size < W.heap.size := lt_of_obj A0.out
  have n1 : ¬ w.heap.size = w.heap.size + 1 + 1 + 1 + 1 := by omega
  have n2 : ¬ w.heap.size + 1 + 1 + 1 + 1 = w.heap.size := by omega
  refine (CF.out W G0.out _ _ A1.out A3.out).mono ?_
  rintro en w7 ⟨u7, rfl, hR7, g7⟩
  obtain ⟨a7, c7, rfl, _, _, _⟩ := row_max hR7
  have G7 : Hid (Grew W w7) := g7
  have R7 : Hid (RowF W.heap.size w7 (.slice a7 R.length c7) R) := hR7
  have i0 := cell_grew s5 g7
  have B4 := G7.out.other A4'.out
  have y3 := cell_of B4 3
  have z3 := free_of B4 3
  simp at y3
  have hl1 := lt_of_obj B4
  have BB : Hid (w7.heap[w.heap.size + 1 + 1 + 1 + 1]? = some (.cells #[.int .i64 3, .slice none 0 0, .slice none 0 0, .slice none 0 0] 106 (0, 0))) := B4
  clear g7 hR7 B4
  all_goals go_wp2_with fail
  have e1 := heap_set BB.out 3 (.slice a7 R.length c7)
  have tq : Turn [w.heap.size + 1 + 1 + 1 + 1] w7 (w7.setCell ⟨w.heap.size + 1 + 1 + 1 + 1, 3, none⟩ (.slice a7 R.length c7)) := (Turn.refl [w.heap.size + 1 + 1 + 1 + 1] w7).set (by simp) _
  have nu : ∀ e, 106 ≠ e → ∀ x ∈ [w.heap.size + 1 + 1 + 1 + 1], NoT w7 x e := fun e he x hx => by
    rw [List.mem_singleton] at hx
    subst hx
    exact NoT.of BB.out he
  obtain ⟨B, hB⟩ : ∃ B, W.heap.size = B := ⟨_, rfl⟩
  have hBw : w.heap.size ≤ B := by rw [← hB]; first | exact G0.out.2 | exact GX.out.2
  rw [hB] at R7
  have RF : Hid (RowF B (w7.setCell ⟨w.heap.size + 1 + 1 + 1 + 1, 3, none⟩ (.slice a7 R.length c7)) (.slice a7 R.length c7) R) := row_turn R7.out tq (nu _ (by decide))
  have GX : Hid (Grew w (w7.setCell ⟨w.heap.size + 1 + 1 + 1 + 1, 3, none⟩ (.slice a7 R.length c7))) := tq.grew (G0.out.trans G7.out) (fun x hx => by simp at hx; omega)
  have X0 : Hid ((w7.setCell ⟨w.heap.size + 1 + 1 + 1 + 1, 3, none⟩ (.slice a7 R.length c7)).heap[w.heap.size]? = some (.cells #[.bool fin, .slice sa sup.length scap, .int .i64 3, .slice pa ps.length pcap, .slice ra rs.length rcap, .slice fa fs.length fcap] 108 (0, 0))) := tq.other (G7.out.other A0.out) (by simp; omega)
  have X1 : Hid (BX (w7.setCell ⟨w.heap.size + 1 + 1 + 1 + 1, 3, none⟩ (.slice a7 R.length c7)) (w.heap.size + 1) 219 (SWAP k1 k2)) := tq.other (G7.out.other A1.out) (by simp)
  have X2 : Hid ((w7.setCell ⟨w.heap.size + 1 + 1 + 1 + 1, 3, none⟩ (.slice a7 R.length c7)).heap[w.heap.size + 1 + 1]? = some (.cells #[.bool false, .slice none 0 0, .int .i64 0, .slice none 0 0, .slice none 0 0, .slice none 0 0] 108 (0, 0))) := tq.other (G7.out.other A2.out) (by simp)
  have X4 : Hid ((w7.setCell ⟨w.heap.size + 1 + 1 + 1 + 1, 3, none⟩ (.slice a7 R.length c7)).heap[w.heap.size + 1 + 1 + 1 + 1]? = some (.cells #[.int .i64 3, .slice none 0 0, .slice none 0 0, .slice a7 R.length c7] 106 (0, 0))) := e1
  generalize (w7.setCell ⟨w.heap.size + 1 + 1 + 1 + 1, 3, none⟩ (.slice a7 R.length c7)) = X at *
  have RP : Hid (RowV B X (.slice none 0 0) ([] : List VT)) := RowV.nil _ _
  have RR : Hid (RowV B X (.slice none 0 0) ([] : List VT)) := RowV.nil _ _
  clear e1 tq nu hB R7 BB y3 z3 hl1 i0 G7 G0 A0 A1 A2 A3 A4 A4' s5 hk0 CF
  unfold SWAP at X1
  have s0 := cell_of X0.out 0
  have s1 := cell_of X0.out 1
  have x0 := cell_of X1.out 0
  have t0 := cell_of X4.out 0
  have t1 := cell_of X4.out 1
  have t2 := cell_of X4.out 2
  have t3 := cell_of X4.out 3
  simp at s0 s1 x0 t0 t1 t2 t3
  have hx0 : w.heap.size < X.heap.size := lt_of_obj X0.out
  have m1 : ¬ w.heap.size = w.heap.size + 1 + 1 := by omega
  have m2 : ¬ w.heap.size + 1 + 1 = w.heap.size := by omega
  have m3 : ¬ w.heap.size + 1 = w.heap.size + 1 + 1 := by omega
  have m4 : ¬ w.heap.size + 1 + 1 = w.heap.size + 1 := by omega
  have m5 : ¬ w.heap.size + 1 + 1 + 1 + 1 = w.heap.size + 1 + 1 := by omega
  have m6 : ¬ w.heap.size + 1 + 1 = w.heap.size + 1 + 1 + 1 + 1 := by omega
  go_region_held3 (fun w' => w'.cell? ⟨w.heap.size, 0, none⟩ = some (.bool fin) ∧ w'.cell? ⟨w.heap.size, 1, none⟩ = some (.slice sa sup.length scap) ∧ w'.cell? ⟨w.heap.size + 1, 0, none⟩ = some (.func (.func 158) #[] #[k1, k2]) ∧ w'.cell? ⟨w.heap.size + 1 + 1 + 1 + 1, 0, none⟩ = some (.int .i64 3) ∧ w'.cell? ⟨w.heap.size + 1 + 1 + 1 + 1, 1, none⟩ = some (.slice none 0 0) ∧ w'.cell? ⟨w.heap.size + 1 + 1 + 1 + 1, 2, none⟩ = some (.slice none 0 0) ∧ w'.cell? ⟨w.heap.size + 1 + 1 + 1 + 1, 3, none⟩ = some (.slice a7 R.length c7)) (go_keep)
    (first
     | (go_at_call 174
        refine (CS.out X.drew GX.out.drew).mono ?_
        rintro en w8 ⟨u8, rfl, hR8, g8⟩
        obtain ⟨a8, c8, rfl, _, _, _⟩ := row_max hR8
        have g8' : Grew X w8 := ((Grew.refl _).drew).trans g8
        have G8 : Hid (Grew w w8) := GX.out.trans g8'
        have R8 : Hid (RowI X.heap.size w8 (.slice a8 S.length c8) S) := hR8
        have RP8 : Hid (RowV B w8 (.slice none 0 0) []) := RP.out.grew g8'
        have RR8 : Hid (RowV B w8 (.slice none 0 0) []) := RR.out.grew g8'
        have RF8 : Hid (RowF B w8 (.slice a7 R.length c7) R) := RF.out.grew g8'
        have o0 := cell_grew s0 g8'
        have o1 := cell_grew s1 g8'
        have o2 := cell_grew x0 g8'
        have o3 := cell_grew t0 g8'
        have o4 := cell_grew t1 g8'
        have o5 := cell_grew t2 g8'
        have o6 := cell_grew t3 g8'
        have B2 := g8'.other X2.out
        have y0 := cell_of B2 0
        have y1 := cell_of B2 1
        have y2 := cell_of B2 2
        have y3 := cell_of B2 3
        have y4 := cell_of B2 4
        have y5 := cell_of B2 5
        have z0 := free_of B2 0
        have z1 := free_of B2 1
        have z2 := free_of B2 2
        have z3 := free_of B2 3
        have z4 := free_of B2 4
        have z5 := free_of B2 5
        simp at y0 y1 y2 y3 y4 y5
        have hl2 := lt_of_obj B2
        have BB2 : Hid (w8.heap[w.heap.size + 1 + 1]? = some (.cells #[.bool false, .slice none 0 0, .int .i64 0, .slice none 0 0, .slice none 0 0, .slice none 0 0] 108 (0, 0))) := B2
        clear g8 g8' hR8 B2))
  all_goals go_wp2_with fail
  all_goals
    have e0 := heap_set BB2.out 0 (.bool fin)
    have e1 := heap_set e0 1 (.slice a8 S.length c8)
    have e2 := heap_set e1 2 (.int .i64 3)
    have e3 := heap_set e2 3 (.slice none 0 0)
    have e4 := heap_set e3 4 (.slice none 0 0)
    have e5 := heap_set e4 5 (.slice a7 R.length c7)
    have q0 := cell_of e0 0
    have q1 := cell_of e1 1
    have q2 := cell_of e2 2
    have q3 := cell_of e3 3
    have q4 := cell_of e4 4
    have q5 := cell_of e5 5
    simp at q0 q1 q2 q3 q4 q5
    refine bodyPost_ret (v := .agg #[.bool fin, .slice a8 S.length c8, .int .i64 3, .slice none 0 0, .slice none 0 0, .slice a7 R.length c7]) (by simp [results, Tryz.results161, go_sem, q0, q1, q2, q3, q4, q5]) rfl ?_
    have tn : Turn [w.heap.size + 1 + 1] w8 ((((((w8.setCell ⟨w.heap.size + 1 + 1, 0, none⟩ (.bool fin)).setCell ⟨w.heap.size + 1 + 1, 1, none⟩ (.slice a8 S.length c8)).setCell ⟨w.heap.size + 1 + 1, 2, none⟩ (.int .i64 3)).setCell ⟨w.heap.size + 1 + 1, 3, none⟩ (.slice none 0 0)).setCell ⟨w.heap.size + 1 + 1, 4, none⟩ (.slice none 0 0)).setCell ⟨w.heap.size + 1 + 1, 5, none⟩ (.slice a7 R.length c7)) := ((((((Turn.refl [w.heap.size + 1 + 1] w8).set (by simp) _).set (by simp) _).set (by simp) _).set (by simp) _).set (by simp) _).set (by simp) _
    have nt : ∀ e, 108 ≠ e → ∀ x ∈ [w.heap.size + 1 + 1], NoT w8 x e := fun e he x hx => by
      rw [List.mem_singleton] at hx
      subst hx
      exact NoT.of BB2.out he
    have r1 : RowI X.heap.size _ (.slice a8 S.length c8) S := row_turn R8.out tn (nt _ (by decide))
    have r2 : RowV B _ (.slice none 0 0) [] := row_turn RP8.out tn (nt _ (by decide))
    have r3 : RowV B _ (.slice none 0 0) [] := row_turn RR8.out tn (nt _ (by decide))
    have r4 : RowF B _ (.slice a7 R.length c7) R := row_turn RF8.out tn (nt _ (by decide))
    exact ⟨_, _, _, _, rfl, ⟨row_low r1 (by omega), row_low r2 hBw, row_low r3 hBw, row_low r4 hBw⟩, tn.grew G8.out (fun x hx => by simp at hx; omega)⟩
theorem swapped_none {w : World} {x : SB} {sv pv rv fv k1 k2 : Value} {f : Int → Int} {D : Int → Prop} (h : SubR w x sv pv rv fv) (hm : Sml x) (ht : Tells w k1 k2 f D) (hd : In D x) (hk : x.comp.kind ≠ 1 ∧ x.comp.kind ≠ 2 ∧ x.comp.kind ≠ 3) :
    Calls Tryz.prog 161 #[.agg #[.bool x.final_, sv, .int .i64 x.comp.kind, pv, rv, fv], SWAP k1 k2] w fun en w' => ∃ s' p' r' f', en = .returned (.agg #[.bool x.final_, s', .int .i64 x.comp.kind, p', r', f']) ∧ SubT w.heap.size w' (x.sw f) ⟨s', p', r', f'⟩ ∧ Grew w w' := by
  have hmf : ∀ (fn : Fn) (first cap : Array Value) (w : World), (Instr.makeFunc fn first cap).run Tryz.prog w = .ok (.func fn first cap) w := fun _ _ _ _ => rfl
  obtain ⟨fin, sup, ⟨kind, ps, rs, fs⟩⟩ := x
  obtain ⟨hs, hp, hr, hf⟩ := h
  obtain ⟨ds, dp, dr, df⟩ := hd
  obtain ⟨ms, mp, mr, mf⟩ := hm
  simp only at hs hp hr hf hk ds dp dr df ms mp mr mf ⊢
  obtain ⟨sa, scap, rfl, hscap, hsmax⟩ := hs.one
  obtain ⟨pa, pcap, rfl, hpcap, hpmax⟩ := hp.one
  obtain ⟨ra, rcap, rfl, hrcap, hrmax⟩ := hr.one
  obtain ⟨fa, fcap, rfl, hfcap, hfmax⟩ := hf.one
  clear hscap hsmax hpcap hpmax hrcap hrmax hfcap hfmax
  obtain ⟨hk1, hk2, hk3⟩ := hk
  have CS : Hid (∀ W, Grew w W → Calls Tryz.prog 174 #[.slice sa sup.length scap, SWAP k1 k2] W fun en w' => ∃ u, en = .returned u ∧ RowI W.heap.size w' u (sup.map f) ∧ Grew W w') := fun W g => eachI_any (hs.grew g) ms (ht.grew g) ds
  clear hs hp hr hf ds dp dr df ht
  obtain ⟨S, hS⟩ : ∃ S, sup.map f = S := ⟨_, rfl⟩
  rw [hS] at CS
  have HX : Hid (SB.sw f ⟨fin, sup, ⟨kind, ps, rs, fs⟩⟩ = ⟨fin, S, ⟨kind, [], [], []⟩⟩) := (by rw [← hS]; unfold SB.sw CT.sw; simp [hk1, hk2, hk3] : SB.sw f ⟨fin, sup, ⟨kind, ps, rs, fs⟩⟩ = ⟨fin, S, ⟨kind, [], [], []⟩⟩)
  rw [HX.out]
  clear hS HX
  have b1 : (kind == 1) = false := by simpa using hk1
  have b2 : (kind == 2) = false := by simpa using hk2
  have b3 : (kind == 3) = false := by simpa using hk3
  unfold SWAP at *
  go_enter Tryz.func161, Tryz.ntmps161
  go_wp2_with fail
  generalize hW : (((((w.alloc (.cells #[.bool fin, .slice sa sup.length scap, .int .i64 kind, .slice pa ps.length pcap, .slice ra rs.length rcap, .slice fa fs.length fcap] 108)).alloc (.cells #[.func (.func 158) #[] #[k1, k2]] 219)).alloc (.cells #[.bool false, .slice none 0 0, .int .i64 0, .slice none 0 0, .slice none 0 0, .slice none 0 0] 108)).alloc (.cells #[.func (.func 169) #[] #[.pointer (some ⟨w.heap.size + 1, 0, none⟩)]] 91)).alloc (.cells #[.int .i64 kind, .slice none 0 0, .slice none 0 0, .slice none 0 0] 106)) = X
  obtain ⟨GX, X0, X1, X2, X3, X4⟩ : Hid (Grew w X) ∧ Hid (X.heap[w.heap.size]? = some (sobj fin (.slice sa sup.length scap) kind (.slice pa ps.length pcap) (.slice ra rs.length rcap) (.slice fa fs.length fcap))) ∧ Hid (BX X (w.heap.size + 1) 219 (SWAP k1 k2)) ∧ Hid (X.heap[w.heap.size + 1 + 1]? = some (sobj false NILS 0 NILS NILS NILS)) ∧ Hid (BX X (w.heap.size + 1 + 1 + 1) 91 (VALC (w.heap.size + 1))) ∧ Hid (X.heap[w.heap.size + 1 + 1 + 1 + 1]? = some (cobj kind NILS NILS NILS)) := by
    rw [← hW]; exact five w _ _ _ _ _
  clear hW
  obtain ⟨B, hB⟩ : ∃ B, X.heap.size = B := ⟨_, rfl⟩
  have hBw : w.heap.size ≤ B := by rw [← hB]; first | exact G0.out.2 | exact GX.out.2
  have RP : Hid (RowV B X (.slice none 0 0) ([] : List VT)) := RowV.nil _ _
  have RR : Hid (RowV B X (.slice none 0 0) ([] : List VT)) := RowV.nil _ _
  have RF : Hid (RowF B X (.slice none 0 0) ([] : List FT)) := RowF.nil _ _
  unfold sobj at X0 X2
  unfold NILS at X2
  unfold cobj NILS at X4
  clear hB X3
  unfold SWAP at X1
  have s0 := cell_of X0.out 0
  have s1 := cell_of X0.out 1
  have x0 := cell_of X1.out 0
  have t0 := cell_of X4.out 0
  have t1 := cell_of X4.out 1
  have t2 := cell_of X4.out 2
  have t3 := cell_of X4.out 3
  simp at s0 s1 x0 t0 t1 t2 t3
  have hx0 : w.heap.size < X.heap.size := lt_of_obj X0.out
  have m1 : ¬ w.heap.size = w.heap.size + 1 + 1 := by omega
  have m2 : ¬ w.heap.size + 1 + 1 = w.heap.size := by omega
  have m3 : ¬ w.heap.size + 1 = w.heap.size + 1 + 1 := by omega
  have m4 : ¬ w.heap.size + 1 + 1 = w.heap.size + 1 := by omega
  have m5 : ¬ w.heap.size + 1 + 1 + 1 + 1 = w.heap.size + 1 + 1 := by omega
  have m6 : ¬ w.heap.size + 1 + 1 = w.heap.size + 1 + 1 + 1 + 1 := by omega
  go_region_held3 (fun w' => w'.cell? ⟨w.heap.size, 0, none⟩ = some (.bool fin) ∧ w'.cell? ⟨w.heap.size, 1, none⟩ = some (.slice sa sup.length scap) ∧ w'.cell? ⟨w.heap.size + 1, 0, none⟩ = some (.func (.func 158) #[] #[k1, k2]) ∧ w'.cell? ⟨w.heap.size + 1 + 1 + 1 + 1, 0, none⟩ = some (.int .i64 kind) ∧ w'.cell? ⟨w.heap.size + 1 + 1 + 1 + 1, 1, none⟩ = some (.slice none 0 0) ∧ w'.cell? ⟨w.heap.size + 1 + 1 + 1 + 1, 2, none⟩ = some (.slice none 0 0) ∧ w'.cell? ⟨w.heap.size + 1 + 1 + 1 + 1, 3, none⟩ = some (.slice none 0 0)) (go_keep)
    (first
     | (go_at_call 174
        refine (CS.out X.drew GX.out.drew).mono ?_
        rintro en w8 ⟨u8, rfl, hR8, g8⟩
        obtain ⟨a8, c8, rfl, _, _, _⟩ := row_max hR8
        have g8' : Grew X w8 := ((Grew.refl _).drew).trans g8
        have G8 : Hid (Grew w w8) := GX.out.trans g8'
        have R8 : Hid (RowI X.heap.size w8 (.slice a8 S.length c8) S) := hR8
        have RP8 : Hid (RowV B w8 (.slice none 0 0) []) := RP.out.grew g8'
        have RR8 : Hid (RowV B w8 (.slice none 0 0) []) := RR.out.grew g8'
        have RF8 : Hid (RowF B w8 (.slice none 0 0) []) := RF.out.grew g8'
        have o0 := cell_grew s0 g8'
        have o1 := cell_grew s1 g8'
        have o2 := cell_grew x0 g8'
        have o3 := cell_grew t0 g8'
        have o4 := cell_grew t1 g8'
        have o5 := cell_grew t2 g8'
        have o6 := cell_grew t3 g8'
        have B2 := g8'.other X2.out
        have y0 := cell_of B2 0
        have y1 := cell_of B2 1
        have y2 := cell_of B2 2
        have y3 := cell_of B2 3
        have y4 := cell_of B2 4
        have y5 := cell_of B2 5
        have z0 := free_of B2 0
        have z1 := free_of B2 1
        have z2 := free_of B2 2
        have z3 := free_of B2 3
        have z4 := free_of B2 4
        have z5 := free_of B2 5
        simp at y0 y1 y2 y3 y4 y5
        have hl2 := lt_of_obj B2
        have BB2 : Hid (w8.heap[w.heap.size + 1 + 1]? = some (.cells #[.bool false, .slice none 0 0, .int .i64 0, .slice none 0 0, .slice none 0 0, .slice none 0 0] 108 (0, 0))) := B2
        clear g8 g8' hR8 B2))
  all_goals go_wp2_with fail
  all_goals
    have e0 := heap_set BB2.out 0 (.bool fin)
    have e1 := heap_set e0 1 (.slice a8 S.length c8)
    have e2 := heap_set e1 2 (.int .i64 kind)
    have e3 := heap_set e2 3 (.slice none 0 0)
    have e4 := heap_set e3 4 (.slice none 0 0)
    have e5 := heap_set e4 5 (.slice none 0 0)
    have q0 := cell_of e0 0
    have q1 := cell_of e1 1
    have q2 := cell_of e2 2
    have q3 := cell_of e3 3
    have q4 := cell_of e4 4
    have q5 := cell_of e5 5
    simp at q0 q1 q2 q3 q4 q5
    refine bodyPost_ret (v := .agg #[.bool fin, .slice a8 S.length c8, .int .i64 kind, .slice none 0 0, .slice none 0 0, .slice none 0 0]) (by simp [results, Tryz.results161, go_sem, q0, q1, q2, q3, q4, q5]) rfl ?_
    have tn : Turn [w.heap.size + 1 + 1] w8 ((((((w8.setCell ⟨w.heap.size + 1 + 1, 0, none⟩ (.bool fin)).setCell ⟨w.heap.size + 1 + 1, 1, none⟩ (.slice a8 S.length c8)).setCell ⟨w.heap.size + 1 + 1, 2, none⟩ (.int .i64 kind)).setCell ⟨w.heap.size + 1 + 1, 3, none⟩ (.slice none 0 0)).setCell ⟨w.heap.size + 1 + 1, 4, none⟩ (.slice none 0 0)).setCell ⟨w.heap.size + 1 + 1, 5, none⟩ (.slice none 0 0)) := ((((((Turn.refl [w.heap.size + 1 + 1] w8).set (by simp) _).set (by simp) _).set (by simp) _).set (by simp) _).set (by simp) _).set (by simp) _
    have nt : ∀ e, 108 ≠ e → ∀ x ∈ [w.heap.size + 1 + 1], NoT w8 x e := fun e he x hx => by
      rw [List.mem_singleton] at hx
      subst hx
      exact NoT.of BB2.out he
    have r1 : RowI X.heap.size _ (.slice a8 S.length c8) S := row_turn R8.out tn (nt _ (by decide))
    have r2 : RowV B _ (.slice none 0 0) [] := row_turn RP8.out tn (nt _ (by decide))
    have r3 : RowV B _ (.slice none 0 0) [] := row_turn RR8.out tn (nt _ (by decide))
    have r4 : RowF B _ (.slice none 0 0) [] := row_turn RF8.out tn (nt _ (by decide))
    exact ⟨_, _, _, _, rfl, ⟨row_low r1 (by omega), row_low r2 hBw, row_low r3 hBw, row_low r4 hBw⟩, tn.grew G8.out (fun x hx => by simp at hx; omega)⟩
theorem swapped_any {w : World} {x : SB} {sv pv rv fv k1 k2 : Value} {f : Int → Int} {D : Int → Prop} (h : SubR w x sv pv rv fv) (hm : Sml x) (ht : Tells w k1 k2 f D) (hd : In D x) :
    Calls Tryz.prog 161 #[.agg #[.bool x.final_, sv, .int .i64 x.comp.kind, pv, rv, fv], SWAP k1 k2] w fun en w' => ∃ s' p' r' f', en = .returned (.agg #[.bool x.final_, s', .int .i64 x.comp.kind, p', r', f']) ∧ SubT w.heap.size w' (x.sw f) ⟨s', p', r', f'⟩ ∧ Grew w w' := by
  by_cases h1 : x.comp.kind = 1
  · exact swapped_fun h hm ht hd h1
  · by_cases h2 : x.comp.kind = 2
    · exact swapped_two h hm ht hd h2
    · by_cases h3 : x.comp.kind = 3
      · exact swapped_three h hm ht hd h3
      · exact swapped_none h hm ht hd ⟨h1, h2, h3⟩
end Go.Proofs.YtnmbniojejckpaaGreatDoor
