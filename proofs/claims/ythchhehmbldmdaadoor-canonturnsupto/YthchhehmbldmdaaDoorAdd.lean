/-
  A table's Add; no statement is proved here.
-/
import Derived.Test.YthchhehmbldmdaaDoorLay
import Derived.Test.YthchhehmbldmdaaDoorTbl
namespace Go.Proofs.YthchhehmbldmdaaDoor
open Go.RowKit
set_option linter.unusedVariables false
set_option linter.unusedSimpArgs false

/- A table: its catalog answers as f, it has n ids. -/
def TbI (tb kb : Nat) (iv : Value) (W : World) (f : FM) (n nk : Nat) : Prop := W.heap[tb]? = some (tobj kb iv) ∧ MapF W kb nk f ∧ ∃ cs, W.ownsRow 0 84 8 iv n cs
structure GoodT (f : FM) (n : Nat) : Prop where
  le : n ≤ 10000
  f : ∀ m v, f (txt m) = some v → 0 ≤ v ∧ v + (m.length : Int) ≤ (n : Int)
/- The draft behind a table. -/
def D0 (f : FM) (n : Nat) : Dr := ⟨f, NOF, [], (n : Int), 10000, (n : Int)⟩
theorem good_D0 {f : FM} {n : Nat} (h : GoodT f n) : GoodD (D0 f n) 0 0 :=
  ⟨by simp [D0], by have := h.le; simp [D0]; omega, by simp [D0], by simp [D0], by have := h.le; simp [D0]; omega, by simp [D0], (fun m hm => by cases hm), by simp [D0], fun m v hv => by
    rcases hv with hv | hv
    · exact h.f m v hv
    · simp [D0, NOF] at hv⟩
def TbF (tb kb : Nat) (iv : Value) (x : Nat) : Prop := x = tb ∨ x = kb ∨ iv.ownBlock = some x
theorem TbI.grew {tb kb : Nat} {iv : Value} {W W' : World} {f : FM} {n nk : Nat} (h : TbI tb kb iv W f n nk) (g : Grew W W') : TbI tb kb iv W' f n nk := by
  obtain ⟨h1, h2, cs, h3⟩ := h
  exact ⟨g.other h1, h2.grew g, cs, row_grew h3 g⟩
set_option maxRecDepth 100000 in
set_option maxHeartbeats 1000000 in
theorem add_open {w : World} {tb kb n nk : Nat} {iv v : Value} {f : FM} {L : List RT} (hT : TbI tb kb iv w f n nk) (h : LR w v L) (hf : Fit L) (hc : closedP 0 L = false) :
    Calls Tryd.prog 9 #[.pointer (some ⟨tb, 0, none⟩), v] w fun en w' => ∃ p : Int, en = .returned (.tuple #[NILS, .int .i64 p, .int .i64 50]) ∧ Grew w w' := by
  have C1 : Hid (Calls Tryd.prog 24 #[.pointer (some ⟨tb, 0, none⟩)] w fun en w' => en = .returned (.bool true) ∧ Grew w w') := made_yes hT.1
  have C2 : Hid (∀ W, Grew w W → Calls Tryd.prog 11 #[v] W fun en w' => ∃ p : Int, en = .returned (.tuple #[.int .i64 p, .int .i64 50]) ∧ Grew W w') := fun W g => by
    have := closed_any (h.grew g) hf.sml
    rw [hc] at this
    exact this
  obtain ⟨va, vc, ev, _⟩ := h.one
  subst ev
  clear h hf hT hc
  generalize L.length = N at *
  go_enter Tryd.func9, Tryd.ntmps9
  go_wp2_with fail
  refine C1.out.mono ?_
  rintro en w1 ⟨rfl, g1⟩
  have G1 : Hid (Grew w w1) := g1
  clear g1 C1
  go_wp2_with fail
  refine (C2.out w1 G1.out).mono ?_
  rintro en w2 ⟨p, rfl, g2⟩
  have G2 : Hid (Grew w w2) := G1.out.trans g2
  clear g2 C2
  go_wp2_with fail
  go_ret3
  exact ⟨p, rfl, G2.out⟩
set_option maxRecDepth 100000 in
set_option maxHeartbeats 2000000 in
theorem add_yes {w0 w : World} {tb kb n nk : Nat} {iv v : Value} {f : FM} {L : List RT} {ids : List Int} {s' : Dr} (ht : Tab w0) (hT : TbI tb kb iv w f n nk) (hnk : nk ≤ 4194304) (hG : GoodT f n) (h : ∀ W, TurnP (TbF tb kb iv) w W → LR W v L) (hf : Fit L) (hc : closedP 0 L = true) (hg : Grew w0 w) (hb : w0.heap.size ≤ kb) (hn : numF stepD L [] (D0 f n) = (some ids, s')) :
    Calls Tryd.prog 9 #[.pointer (some ⟨tb, 0, none⟩), v] w fun en w' => ∃ (ri iv' : Value) (n' : Nat), en = .returned (.tuple #[ri, .int .i64 0, .int .i64 0]) ∧ RowI w.heap.size w' ri ids ∧ (n' : Int) = s'.count ∧ TbI tb kb iv' w' (overF f s'.f1) n' (nk + L.length) ∧ TurnP (TbF tb kb iv) w w' ∧ (iv'.ownBlock = iv.ownBlock ∨ ∃ g, iv'.ownBlock = some g ∧ w.heap.size ≤ g) := by
  have hTw := hT
  obtain ⟨t1, t2, cs, t3⟩ := hT
  obtain ⟨ia, ic, hiv, _⟩ := row_max t3
  subst hiv
  have C1 : Hid (Calls Tryd.prog 24 #[.pointer (some ⟨tb, 0, none⟩)] w fun en w' => en = .returned (.bool true) ∧ Grew w w') := made_yes t1
  have C2 : Hid (∀ W, Grew w W → Calls Tryd.prog 11 #[v] W fun en w' => ∃ p : Int, en = .returned (.tuple #[.int .i64 p, .int .i64 0]) ∧ Grew W w') := fun W g => by
    have := closed_any (h W (g.turnP _)) hf.sml
    rw [hc] at this
    exact this
  have C3 : Hid (∀ W, Grew w W → Calls Tryd.prog 26 #[.pointer (some ⟨tb, 1, none⟩)] W fun en w' => en = .returned (.int .i64 (n : Int)) ∧ w' = W) := fun W g => countS_any (g.other t1)
  have C4 : Hid (∀ W, Calls Tryd.prog 25 #[.agg #[.map (some kb)], .int .i64 (n : Int), .int .i64 10000] W fun en w' => ∃ db fb, en = .returned (.pointer (some ⟨db, 0, none⟩)) ∧ W.heap.size ≤ db ∧ W.heap.size ≤ fb ∧ w'.heap[db]? = some (dobj kb fb NILS (n : Int) 10000) ∧ MapF w' fb 0 NOF ∧ Grew W w') := fun W => newDraft_any
  have C5 : Hid (∀ W db F, Grew w W → InvD db kb nk W (D0 f n) F → (∀ x, F x → w0.heap.size ≤ x) → (∀ x, F x → TbF tb kb (.slice ia n ic) x ∨ w.heap.size ≤ x) → Calls Tryd.prog 27 #[.pointer (some ⟨db, 0, none⟩), v] W fun en w' => ∃ iv F', en = .returned (.tuple #[iv, .int .i64 0, .bool true]) ∧ RowI W.heap.size w' iv ids ∧ (∀ g, iv.ownBlock = some g → ¬ F' g) ∧ Num' db kb nk W w' F F' s' ∧ GoodD s' (0 + cntT L) (0 + L.length)) := fun W db F g hI hF hF2 => numberD_yes ht (fun W' t => h W' ((g.turnP _).trans' t hF2)) hf hc (hg.trans g) hI hF (good_D0 hG) (by decide) (by decide) hn
  have HT : Hid (w.heap[tb]? = some (tobj kb (.slice ia n ic))) := t1
  have htk : tb ≠ kb := fun e => by
    obtain ⟨es, ck, he⟩ := t2.obj
    rw [← e, t1] at he
    cases he
  have HOW : Hid (∀ g, (Value.slice ia n ic).ownBlock = some g → g ≠ tb ∧ g ≠ kb ∧ g < w.heap.size) := fun g hg => by
    obtain ⟨cur, hc⟩ := row_tag t3 hg
    refine ⟨fun e => ?_, fun e => ?_, (t3.lt g hg).2⟩
    · rw [e, t1] at hc; unfold tobj at hc; injection hc with hc; injection hc with _ hc _; revert hc; decide
    · obtain ⟨es, ck, he⟩ := t2.obj
      rw [← e, hc] at he
      cases he
  have htl := lt_of_obj t1
  have hkl := t2.lt
  have HM : Hid (MapF w kb nk f) := t2
  have HR : Hid (w.ownsRow 0 84 8 (.slice ia n ic) n cs) := t3
  have HTW : Hid (TbI tb kb (.slice ia n ic) w f n nk) := hTw
  have HG0 : Hid (Grew w0 w) := hg
  have hle := hG.le
  obtain ⟨va, vc, ev, _⟩ := (h w (TurnP.refl _ _)).one
  subst ev
  have hLl := hf.sml.1
  have hcn := hf.sml.2.1
  obtain ⟨hmost, hbase, hf0⟩ := num_rest _ _ _ _ _ hn
  have HMost : Hid (s'.most = 10000) := hmost
  have HF0 : Hid (s'.f0 = f) := hf0
  have HBase : Hid (s'.base = (n : Int)) := hbase
  clear h hf hc hg ht hn hG t1 t2 t3 hTw hbase hf0 hmost
  generalize hLL : L.length = N at *
  clear hLL
  generalize cntT L = K at *
  go_enter Tryd.func9, Tryd.ntmps9
  go_wp2_with fail
  refine C1.out.mono ?_
  rintro en w1 ⟨rfl, g1⟩
  have G1 : Hid (Grew w w1) := g1
  clear g1 C1
  go_wp2_with fail
  refine (C2.out w1 G1.out).mono ?_
  rintro en w2 ⟨p, rfl, g2⟩
  have G2 : Hid (Grew w w2) := G1.out.trans g2
  have T2 := G2.out.other HT.out
  have c0 := cell_of T2 0
  have c1 := cell_of T2 1
  simp at c0 c1
  have hl2 := lt_of_obj T2
  clear g2 C2 T2
  go_wp2_with fail
  go_region_held3 (fun w' => w'.cell? ⟨tb, 0, none⟩ = some (.map (some kb)) ∧ w'.cell? ⟨tb, 1, none⟩ = some (.slice ia n ic)) (go_keep)
    (first
     | (go_at_call 26
        refine (C3.out _ (by first | exact G2.out | exact G2.out.drew | exact G2.out.drewN _)).mono ?_
        rintro en w3 ⟨rfl, h3⟩
        obtain rfl := h3.symm)
     | (go_at_call 25
        refine (C4.out _).mono ?_
        rintro en w3 ⟨db, fb, rfl, hdb, hfb, hd3, hM3, g3⟩
        have g3' : Grew w2 w3 := (by first | exact g3 | exact ((Grew.refl _).drew).trans g3 | exact ((Grew.refl _).drewN _).trans g3)
        have hdb' : w2.heap.size ≤ db := by first | exact hdb | simpa using hdb
        have hfb' : w2.heap.size ≤ fb := by first | exact hfb | simpa using hfb
        have G3 : Hid (Grew w w3) := G2.out.trans g3'
        have D3 : Hid (w3.heap[db]? = some (dobj kb fb NILS (n : Int) 10000)) := hd3
        have M3 : Hid (MapF w3 fb 0 NOF) := hM3
        have j0 := cell_grew c0 g3'
        have j1 := cell_grew c1 g3'
        clear g3 g3' hd3 hM3 hdb hfb))
  all_goals go_wp2_with fail
  have hw2 := G2.out.2
  have I3 : InvD db kb nk w3 (D0 f n) (fun x => x = db ∨ x = kb ∨ x = fb) := by
    refine ⟨fun x hx => ?_, fb, NILS, [], D3.out, HM.out.grew G3.out, M3.out, by omega, World.ownsRow_nil _ _ _ _, rfl, (fun g hg => by cases hg), Or.inl rfl, Or.inr (Or.inl rfl), Or.inr (Or.inr rfl), (fun g hg => by cases hg), (fun g hg => by cases hg)⟩
    have := G3.out.2
    rcases hx with rfl | rfl | rfl
    · exact lt_of_obj D3.out
    · omega
    · exact M3.out.lt
  have hw0 := HG0.out.2
  refine (C5.out w3 db _ G3.out I3 (fun x hx => by rcases hx with rfl | rfl | rfl <;> omega) (fun x hx => by
    rcases hx with h | h | h
    · exact Or.inr (by omega)
    · exact Or.inl (Or.inr (Or.inl h))
    · exact Or.inr (by omega))).mono ?_
  rintro en w4 ⟨ri, F', rfl, hri, _, hN, hGd⟩
  obtain ⟨ra, rc, hrv, _⟩ := row_max hri
  subst hrv
  have hsz3 := G3.out.2
  have tF := hN.turn
  obtain ⟨_, fb', gv, G, d1, d2, d3, d4, d5, d6, d7, _⟩ := hN.inv
  rw [HF0.out] at d2
  obtain ⟨ga, gc, hgv, _⟩ := row_max d5
  subst hgv
  have T4 : w4.heap[tb]? = some (tobj kb (.slice ia n ic)) := tF.other (G3.out.other HT.out) (fun hx => by rcases hx with h | h | h <;> omega)
  have HT4 : Hid (w4.heap[tb]? = some (tobj kb (.slice ia n ic))) := T4
  have HR4 : Hid (w4.ownsRow 0 84 8 (.slice ia n ic) n cs) := row_turnP (row_grew HR.out G3.out) tF (fun g hg hx => by have := HOW.out g hg; rcases hx with h | h | h <;> omega)
  have HU4 : Hid (TurnP (TbF tb kb (.slice ia n ic)) w w4) := (G3.out.turnP _).trans' tF (fun x hx => by
    rcases hx with h | h | h
    · exact Or.inr (by omega)
    · exact Or.inl (Or.inr (Or.inl h))
    · exact Or.inr (by omega))
  have HRI4 : Hid (RowI w.heap.size w4 (.slice ra ids.length rc) ids) := row_low hri hsz3
  have HD4 : Hid (w4.heap[db]? = some (dobj kb fb' (.slice ga G.length gc) s'.count s'.most)) := d1
  have HM4 : Hid (MapF w4 kb nk f) := d2
  have HF4 : Hid (MapF w4 fb' s'.groups.length s'.f1) := d3
  have HV4 : Hid (w4.ownsRow 0 38 2 (.slice ga G.length gc) G.length (G.flatMap g2)) := d5
  have HG4 : Hid (G.map (fun g => g.2.map Prod.fst) = s'.groups) := d6
  have HS4 : Hid (∀ g ∈ G, SubsT 0 w4 g.1 g.2) := d7
  have HGd : Hid (GoodD s' (0 + K) (0 + N)) := hGd
  have hGl : G.length = s'.groups.length := by rw [← d6, List.length_map]
  have hgN := hGd.gl
  have hdk : db ≠ kb := fun e => by
    obtain ⟨es, ck, he⟩ := d2.obj
    rw [← e, d1] at he
    cases he
  have a0 := cell_of T4 0
  have a1 := cell_of T4 1
  have b0 := cell_of d1 0
  have b1 := cell_of d1 1
  have b2 := cell_of d1 2
  simp at a0 a1 b0 b1 b2
  have l4 := lt_of_obj T4
  have l4' := lt_of_obj d1
  have CE : Hid (∀ W, Grew w4 W → Calls Tryd.prog 28 #[.agg #[.map (some kb)], .agg #[.map (some fb')]] W fun en w' => en = .returned UNIT ∧ MapF w' kb (nk + s'.groups.length) (overF f s'.f1) ∧ TurnP (fun x => x = kb) W w') := fun W g => enter_any (HM4.out.grew g) (HF4.out.grew g) d4 (by omega)
  clear hri hN hGd tF d1 d2 d3 d5 d6 d7 T4 C5 C4 C3 I3 j0 j1 D3 M3 HM
  go_wp2_with fail
  unfold UNIT at CE
  first | go_region_with (first
    | (go_at_call 28
       refine (CE.out _ (by first | exact Grew.refl _ | exact (Grew.refl _).drew | exact (Grew.refl _).drewN _)).mono ?_
       rintro en w5 ⟨rfl, m5, t5'⟩
       have t5 : TurnP (fun x => x = kb) w4 w5 := (by first | exact t5' | exact (((Grew.refl w4).drew).turnP _).trans t5' | exact (((Grew.refl w4).drewN _).turnP _).trans t5')
       have HT5 : Hid (w5.heap[tb]? = some (tobj kb (.slice ia n ic))) := t5.other HT4.out htk
       have HR5 : Hid (w5.ownsRow 0 84 8 (.slice ia n ic) n cs) := row_turnP HR4.out t5 (fun g hg hx => (HOW.out g hg).2.1 hx)
       have kp : ∀ {B e k v n ds}, w4.ownsRow B e k v n ds → w5.ownsRow B e k v n ds := fun hr => row_turnP hr t5 (fun g hg hx => by
         obtain ⟨cur, hc⟩ := row_tag hr hg
         obtain ⟨es, ck, he⟩ := HM4.out.obj
         rw [hx, he] at hc
         cases hc)
       have HRI5 : Hid (RowI w.heap.size w5 (.slice ra ids.length rc) ids) := kp HRI4.out
       have HV5 : Hid (w5.ownsRow 0 38 2 (.slice ga G.length gc) G.length (G.flatMap g2)) := kp HV4.out
       have HS5 : Hid (∀ g ∈ G, SubsT 0 w5 g.1 g.2) := fun g hg => ⟨kp (HS4.out g hg).1, fun y hy => ⟨kp ((HS4.out g hg).2 y hy).1, kp ((HS4.out g hg).2 y hy).2.1, kp ((HS4.out g hg).2 y hy).2.2.1, kp ((HS4.out g hg).2 y hy).2.2.2⟩⟩
       have d5 := t5.other HD4.out hdk
       have M5 : Hid (MapF w5 kb (nk + s'.groups.length) (overF f s'.f1)) := m5
       have HU5 : Hid (TurnP (TbF tb kb (.slice ia n ic)) w w5) := HU4.out.trans (t5.mono (fun x _ hx => Or.inr (Or.inl hx)))
       have f2' := cell_of d5 2
       simp at f2'
       have l5 := lt_of_obj d5
       have l5' := lt_of_obj HT5.out
       clear kp t5 t5' m5 d5)) | fail
  all_goals go_wp2_with fail
  all_goals
    have hSum : Hid ((n : Int) + ((G.map (fun g => g.2.length)).sum : Nat) = s'.count) := by
      have h1 := HGd.out.gs
      rw [HBase.out] at h1
      rw [h1, ← HG4.out, List.map_map]
      have e : (List.length ∘ fun g : Value × List (SB × Q4) => g.2.map Prod.fst) = fun g => g.2.length := by funext g; simp
      rw [e]
      exact rfl
    have hbd : n + (G.map (fun g => g.2.length)).sum ≤ 10000 := by
      have h1 := hSum.out
      have h2 := HGd.out.cm
      rw [HMost.out] at h2
      omega
    have HOk : Hid (∀ g ∈ G, Ok (g.2.map Prod.fst)) := fun g hg => HGd.out.gok _ (by rw [← HG4.out]; exact List.mem_map.2 ⟨g, hg, rfl⟩)
    clear CE HT4 HR4 HU4 HRI4 HD4 HM4 HF4 HV4 HS4 a0 a1 b0 b1 b2
    go_loopw [60] (fun i_ w' => ∃ (i : Nat) (iv' : Value) (cs' : List Value), i_ = .int .i64 i ∧ i ≤ G.length ∧ Hid (w'.heap[tb]? = some (tobj kb iv')) ∧ Hid (w'.ownsRow 0 84 8 iv' (n + ((G.take i).map (fun g => g.2.length)).sum) cs') ∧ Hid (TurnP (fun x => x = tb ∨ (Value.slice ia n ic).ownBlock = some x) w5 w') ∧ Hid (iv'.ownBlock = (Value.slice ia n ic).ownBlock ∨ ∃ g, iv'.ownBlock = some g ∧ w5.heap.size ≤ g)) (fun i_ _ => G.length - (intOf i_).toNat)
    case atStart => exact ⟨0, _, cs, rfl, Nat.zero_le _, HT5, HR5, TurnP.refl _ _, Or.inl rfl⟩
    case round =>
      obtain ⟨i, iv', cs', rfl, hi, TJ, RJ, UJ, LJ⟩ := hrel
      obtain ⟨w6, hw6⟩ : ∃ w6, w6 = wr := ⟨_, rfl⟩
      rw [← hw6] at TJ RJ UJ ⊢
      clear hw6
      have kp : ∀ {B e k v n ds}, w5.ownsRow B e k v n ds → e ≠ 84 → e ≠ 53 → w6.ownsRow B e k v n ds := fun hr n1 n2 => row_turnP hr UJ.out (fun g hg hx => by
        obtain ⟨cur, hc⟩ := row_tag hr hg
        rcases hx with hx | hx
        · rw [hx, HT5.out] at hc; unfold tobj at hc; injection hc with hc; injection hc with _ hc _; exact n2 hc.symm
        · obtain ⟨cur', hc'⟩ := row_tag HR5.out hx
          rw [hc] at hc'
          injection hc' with hc'
          injection hc' with _ hc' _
          exact n1 hc')
      obtain ⟨ja, jc, hjv, _⟩ := row_max RJ.out
      subst hjv
      by_cases hlt : i < G.length
      · obtain ⟨y, hy⟩ : ∃ y, G[i]? = some y := ⟨_, List.getElem?_eq_getElem hlt⟩
        have V6 := kp HV5.out (by decide) (by decide)
        obtain ⟨g6, c6, hv6, hc6, ho6⟩ := row_at V6 (by omega)
        injection hv6 with hv6 _ hv7
        subst hv6 hv7
        have cl : ∀ t, t < 2 → w6.cell? ⟨g6, i * 2 + t, none⟩ = (g2 y)[t]? := fun t ht => by
          rw [V6.cellAt (i * 2 + t) (by omega)]
          exact flat_at g2 2 (fun _ => rfl) G i y t hy ht
        have p0 := cl 0 (by decide)
        have p1 := cl 1 (by decide)
        simp only [g2, List.getElem?_cons_zero, List.getElem?_cons_succ, Nat.add_zero] at p0 p1
        have hyG := List.mem_of_getElem? hy
        have S6 : SubsT 0 w6 y.1 y.2 := ⟨kp (HS5.out y hyG).1 (by decide) (by decide), fun z hz => ⟨kp ((HS5.out y hyG).2 z hz).1 (by decide) (by decide), kp ((HS5.out y hyG).2 z hz).2.1 (by decide) (by decide), kp ((HS5.out y hyG).2 z hz).2.2.1 (by decide) (by decide), kp ((HS5.out y hyG).2 z hz).2.2.2 (by decide) (by decide)⟩⟩
        have hok := HOk.out y hyG
        have HSn : Hid (((G.take (i + 1)).map (fun g => g.2.length)).sum = ((G.take i).map (fun g => g.2.length)).sum + y.2.length) := (by rw [take_snoc hy, List.map_append, List.sum_append]; simp : ((G.take (i + 1)).map (fun g => g.2.length)).sum = ((G.take i).map (fun g => g.2.length)).sum + y.2.length)
        have hle' : ((G.take (i + 1)).map (fun g => g.2.length)).sum ≤ (G.map (fun g => g.2.length)).sum := by
          have e : G.map (fun g => g.2.length) = (G.take (i + 1)).map (fun g => g.2.length) ++ (G.drop (i + 1)).map (fun g => g.2.length) := by rw [← List.map_append, List.take_append_drop]
          rw [e, List.sum_append]; omega
        rw [HSn.out] at hle'
        obtain ⟨yu, ym⟩ := y
        simp only at *
        obtain ⟨ua, uc, hu, _⟩ := row_max S6.1
        subst hu
        have CL : Hid (∀ W, Grew w6 W → Calls Tryd.prog 29 #[.pointer (some ⟨tb, 1, none⟩), .agg #[.slice ua ym.length uc, .bool false]] W fun en w' => en = .returned UNIT ∧ ∃ iv'' cs'', w'.heap[tb]? = some (tobj kb iv'') ∧ w'.ownsRow 0 84 8 iv'' (n + ((G.take i).map (fun g => g.2.length)).sum + ym.length) cs'' ∧ TurnP (fun x => x = tb ∨ (Value.slice ja (n + ((G.take i).map (fun g => g.2.length)).sum) jc).ownBlock = some x) W w' ∧ (iv''.ownBlock = (Value.slice ja (n + ((G.take i).map (fun g => g.2.length)).sum) jc).ownBlock ∨ ∃ g, iv''.ownBlock = some g ∧ W.heap.size ≤ g)) := fun W g => by
          have := lay_any (m := ym.map Prod.fst) (g.other TJ.out) (row_grew RJ.out g) (by omega) ((S6.grew g).lst) (by rw [List.length_map]; omega) hok
          rw [List.length_map] at this
          exact this
        have d1 : decide ((i : Int) < (G.length : Int)) = true := by simp; omega
        have d2 : decide (i < G.length) = true := by simp; omega
        have l6 := lt_of_obj TJ.out
        clear cl V6 S6 hok kp hy hyG
        unfold UNIT at CL
        generalize hQ : ((G.take i).map (fun g => g.2.length)).sum = Q at *
        clear hQ
        go_wp2_with fail
        have gA : Grew w6 (w6.alloc (.cells #[.slice ua ym.length uc, .bool false] 38)) := (Grew.refl w6).alloc _
        have bA : (w6.alloc (.cells #[.slice ua ym.length uc, .bool false] 38)).heap[w6.heap.size]? = some (.cells #[.slice ua ym.length uc, .bool false] 38 (0, 0)) := heap_alloc_last _ _
        have sA : w6.heap.size ≤ (w6.alloc (.cells #[.slice ua ym.length uc, .bool false] 38)).heap.size := gA.2
        generalize (w6.alloc (.cells #[.slice ua ym.length uc, .bool false] 38)) = w7 at *
        have q0 := cell_of bA 0
        have q1 := cell_of bA 1
        simp at q0 q1
        have lA := lt_of_obj bA
        have lT := Nat.lt_of_lt_of_le l6 sA
        have UW : Hid (TurnP (fun x => x = tb ∨ (Value.slice ia n ic).ownBlock = some x) w5 w7) := UJ.out.trans (gA.turnP _)
        have GA7 : Hid (Grew w6 w7) := gA
        clear bA p0 p1
        first | go_region_with (first
          | (go_at_call 29
             refine (CL.out _ (by first | exact GA7.out | exact GA7.out.drew | exact GA7.out.drewN _)).mono ?_
             rintro en w8 ⟨rfl, iv8, cs8, t8, r8, u8', l8⟩
             have u8 : TurnP (fun x => x = tb ∨ (Value.slice ja (n + Q) jc).ownBlock = some x) w7 w8 := (by first | exact u8' | exact (((Grew.refl w7).drew).turnP _).trans u8' | exact (((Grew.refl w7).drewN _).turnP _).trans u8')
             have T8 : Hid (w8.heap[tb]? = some (tobj kb iv8)) := t8
             have R8 : Hid (w8.ownsRow 0 84 8 iv8 (n + Q + ym.length) cs8) := r8
             have U8 : Hid (TurnP (fun x => x = tb ∨ (Value.slice ia n ic).ownBlock = some x) w5 w8) := UW.out.trans' u8 (fun x hx => by
               rcases hx with hx | hx
               · exact Or.inl (Or.inl hx)
               · rcases LJ.out with h | ⟨g, h, hg⟩
                 · rw [h] at hx; exact Or.inl (Or.inr hx)
                 · rw [h] at hx; injection hx with hx; subst hx; exact Or.inr hg)
             have hw57 := UW.out.size
             have L8 : Hid (iv8.ownBlock = (Value.slice ia n ic).ownBlock ∨ ∃ g, iv8.ownBlock = some g ∧ w5.heap.size ≤ g) := by
               rcases l8 with h | ⟨g, h, hg⟩
               · rw [h]; exact LJ.out
               · exact Or.inr ⟨g, h, by first | omega | (simp at hg; omega)⟩
             clear t8 r8 u8 u8' l8)) | fail
        all_goals go_wp2_with fail
        all_goals
          go_roundw
          case rel => exact ⟨i + 1, iv8, cs8, by go_num, by omega, T8, by rw [HSn.out, ← Nat.add_assoc]; exact R8, U8, L8⟩
          case measure => simp [intOf]; omega
      · have d1 : decide ((i : Int) < (G.length : Int)) = false := by simp; omega
        have htk' : G.take i = G := List.take_of_length_le (by omega)
        have HRI6 : Hid (RowI w.heap.size w6 (.slice ra ids.length rc) ids) := kp HRI5.out (by decide) (by decide)
        have M6 : Hid (MapF w6 kb (nk + s'.groups.length) (overF f s'.f1)) := M5.out.same (UJ.out.block kb M5.out.lt (fun hx => by
          rcases hx with hx | hx
          · exact htk hx.symm
          · exact (HOW.out kb hx).2.1 rfl))
        have HRJ : Hid (w6.ownsRow 0 84 8 (.slice ja (n + ((G.take i).map (fun g => g.2.length)).sum) jc) (n + (G.map (fun g => g.2.length)).sum) cs') := by have := RJ.out; rw [htk'] at this ⊢; exact this
        have hw5 := HU5.out.size
        clear RJ htk' kp
        go_wp2_with fail
        go_ret3
        refine ⟨_, _, n + (G.map (fun g => g.2.length)).sum, rfl, HRI6.out, by have := hSum.out; omega, ⟨TJ.out, M6.out.mono (by omega), cs', HRJ.out⟩, HU5.out.trans (UJ.out.mono (fun x _ hx => hx.elim Or.inl (fun h => Or.inr (Or.inr h)))), LJ.out.imp id (fun ⟨g, h1, h2⟩ => ⟨g, h1, by omega⟩)⟩
end Go.Proofs.YthchhehmbldmdaaDoor
