/-
  The walk of the document's Join; no statement is proved here.
-/
import Derived.Test.YtclamdpbdafmcaaAppO
import Derived.Test.YtclamdpbdafmcaaRefS
namespace Go.Proofs.Ytclamdpbdafmcaa
open Go.RowKit
set_option linter.unusedVariables false
set_option linter.unusedSimpArgs false

theorem OwB.grew {B : Nat} {w w' : World} {v : Value} {l : List Int} (h : OwB B w v l) (hB : B ≤ w.heap.size) (hg : Grew w w') : OwB B w' v l := ((owb_has h hB).grew hg.1).1
theorem OwB.turn {B : Nat} {w w' : World} {v : Value} {l : List Int} {S : List Nat} (h : OwB B w v l) (ht : Turn S w w') (hv : ∀ k, v.ownBlock = some k → k ∉ S) : OwB B w' v l := by
  obtain ⟨hl, ho⟩ := h
  refine ⟨hl, ?_⟩
  rcases ho with ho | ⟨g, cap, cur, rfl, hg, hh, h3⟩
  · exact Or.inl ho
  · exact Or.inr ⟨g, cap, cur, rfl, hg, ht.other hh (hv g rfl), h3⟩
theorem OwB.reads {B : Nat} {w : World} {v : Value} {l : List Int} (h : OwB B w v l) (hB : B ≤ w.heap.size) : Reads w v l := (owb_has h hB).reads
theorem OwB.lt {B : Nat} {w : World} {v : Value} {l : List Int} {g : Nat} (h : OwB B w v l) (hg : v.ownBlock = some g) : B ≤ g ∧ g < w.heap.size := World.ownsRow.lt h g hg
theorem ob_ne {B : Nat} {w : World} {v : Value} {l : List Int} (h : OwB B w v l) (hl : l ≠ []) : v.ownBlock ≠ none := by
  obtain ⟨_, ⟨_, h0⟩ | ⟨g, cap, cur, rfl, _⟩⟩ := h
  · exact absurd (List.eq_nil_of_length_eq_zero h0) hl
  · simp [Value.ownBlock]
theorem ff_neg {s : Sec} {last : Int} (h : rank s.id < 0) : ff s last = 4 := by unfold ff; rw [if_pos (Or.inl h)]
theorem ff_name {s : Sec} {last : Int} (h : 0 < rank s.id) (hn : s.name ≠ []) : ff s last = 4 := by
  unfold ff
  rcases rank_cases s.id with ⟨_, e⟩ | ⟨_, e⟩ | ⟨h1, _⟩
  · omega
  · omega
  · rw [if_pos (Or.inr ⟨by omega, hn⟩)]
theorem ff_order {s : Sec} {last : Int} (h : 0 < rank s.id) (hn : s.name = []) (hl : rank s.id ≤ last) : ff s last = 20 := by
  unfold ff; rw [if_neg (fun h' => h'.elim (by omega) (fun x => x.2 hn)), if_pos ⟨by omega, hl⟩]
theorem nf_nil : nf [] = 0 := by unfold nf; rw [if_neg (by simp)]; rfl
theorem ff_fine {s : Sec} {last : Int} (h : 0 < rank s.id) (hn : s.name = []) (hl : ¬ rank s.id ≤ last) : ff s last = 0 := by
  unfold ff; rw [if_neg (fun h' => h'.elim (by omega) (fun x => x.2 hn)), if_neg (fun h' => hl h'.2), hn, nf_nil]
theorem ff_custom {s : Sec} {last : Int} (h : s.id = 0) (hr : rank s.id = 0) : ff s last = nf s.name := by
  unfold ff; rw [if_neg (fun h' => h'.elim (by omega) (fun x => x.1 h)), if_neg (fun h' => h'.1 hr)]
set_option maxRecDepth 100000 in
set_option maxHeartbeats 8000000 in
theorem refJoin_any (v : Value) (L : List Sec) (w : World) (hR : RdS w v L) (hL : ∀ s ∈ L, Byt s.name ∧ s.name.length ≤ 140737488351232 ∧ s.data.length ≤ 140737488351232) (hlen : L.length ≤ 4000000000000) :
    Calls Try.prog 23 #[v] w fun en w' => ∃ v', en = .returned (.tuple #[v', .int .i64 (join L).2]) ∧ Reads w' v' (join L).1 ∧ Grew w w' := by
  obtain ⟨R, hRj⟩ : ∃ R, R = join L := ⟨_, rfl⟩
  obtain ⟨J, hJ⟩ : ∃ J, J = jf L 0 := ⟨_, rfl⟩
  rw [← hRj]
  have HRJ : Hid (R = join L) := hRj
  have HJ : Hid (J = jf L 0) := hJ
  have HRS : Hid (RdS w v L) := hR
  have HL : Hid (∀ s ∈ L, Byt s.name ∧ s.name.length ≤ 140737488351232 ∧ s.data.length ≤ 140737488351232) := hL
  have HF : Hid (∀ e, e ≠ 0 → J = e → R = ([], e)) := fun e he hj => by rw [HRJ.out, join, ← HJ.out, hj, if_pos he]
  obtain ⟨a, cap, rfl, hR⟩ := hR
  clear hRj hJ hR hL
  go_enter Try.func23, Try.ntmps23
  go_wp2_with fail
  refine (head42 _).mono ?_
  rintro en w0 ⟨rfl, rfl⟩
  go_wp2_with fail
  go_loopw [4, 5, 6, 7] (fun o la lo i wr => ∃ (k : Nat) (last : Int) (lg : Bool), i = .int .i64 k ∧ k ≤ L.length ∧ la = .int .i64 last ∧ 0 ≤ last ∧ lo = .bool lg ∧ J = jf (L.drop k) last ∧ Grew w wr ∧
    ((lg = false ∧ OwB w.heap.size wr o (hd ++ (L.take k).flatMap sb) ∧ o.ownBlock ≠ none ∧ (hd ++ (L.take k).flatMap sb).length ≤ 1048600) ∨ (lg = true ∧ 1048576 < (jb L).length))) (fun _ _ _ i _ => L.length - (intOf i).toNat)
  case atStart =>
    have h8 : Has w.heap.size w (w.alloc preO) (.slice (some ⟨w.heap.size, 0, none⟩) 8 8) hd := ⟨World.ownsRow_lit w _ 8 (Nat.le_refl _) (by decide) rfl, (Below.refl _ _).alloc (Nat.le_refl _) _, by simp⟩
    refine ⟨0, 0, false, rfl, by omega, rfl, by omega, rfl, HJ.out, ⟨h8.2.1, h8.2.2⟩, Or.inl ⟨rfl, ?_, by simp [Value.ownBlock], by simp [hd]⟩⟩
    rw [show hd ++ (L.take 0).flatMap sb = hd from by simp]
    exact h8.1
  case round =>
    obtain ⟨k, last, lg, rfl, hk, rfl, hla, rfl, hJk, hg, hst⟩ := hrel
    have HG : Hid (Grew w wr) := hg
    have HST : Hid ((lg = false ∧ OwB w.heap.size wr u4 (hd ++ (L.take k).flatMap sb) ∧ u4.ownBlock ≠ none ∧ (hd ++ (L.take k).flatMap sb).length ≤ 1048600) ∨ (lg = true ∧ 1048576 < (jb L).length)) := hst
    have HJk : Hid (J = jf (L.drop k) last) := hJk
    clear hg hst hJk
    by_cases hlt : k < L.length
    · obtain ⟨s, hs⟩ : ∃ s, L[k]? = some s := ⟨_, List.getElem?_eq_getElem hlt⟩
      have hmem : s ∈ L := List.mem_of_getElem? hs
      obtain ⟨a', cap', hv', hR'⟩ := HRS.out
      injection hv' with hv1 hv2 hv3
      subst hv1; subst hv3
      obtain ⟨b1, o1, rfl, f1⟩ := hR'.resolve_left (fun h => by rw [h] at hlt; simp at hlt)
      obtain ⟨ad1, cd1, z0, z1, z2, z3, r1⟩ := f1 k s hs
      have p0 := (HG.out.1.cell (block_lt_of_cell z0)).trans z0
      have p1 := (HG.out.1.cell (block_lt_of_cell z1)).trans z1
      have p2 := (HG.out.1.cell (block_lt_of_cell z2)).trans z2
      have p3 := (HG.out.1.cell (block_lt_of_cell z3)).trans z3
      clear z0 z1 z2 z3
      obtain ⟨hm1, hm2, hm3⟩ := HL.out s hmem
      have HD : Hid (L.drop k = s :: L.drop (k + 1)) := by
        show _ = _
        rw [List.drop_eq_getElem_cons hlt]
        congr 1
        rw [List.getElem?_eq_getElem hlt] at hs
        injection hs
      have HTK : Hid ((L.take (k + 1)).flatMap sb = (L.take k).flatMap sb ++ sb s) := by
        show _ = _
        rw [List.take_add_one, hs, List.flatMap_append]; simp
      have HJL : Hid (jb L = (hd ++ (L.take k).flatMap sb) ++ sb s ++ (L.drop (k + 1)).flatMap sb) := by
        show _ = _
        unfold jb
        conv => lhs; rw [← List.take_append_drop (k + 1) L, List.flatMap_append, HTK.out]
        simp [List.append_assoc]
      have HFF : Hid (∀ e, ff s last = e → e ≠ 0 → R = ([], e)) := fun e h he => HF.out e he (by rw [HJk.out, HD.out, jf, h, if_pos he])
      have HNX : Hid (ff s last = 0 → J = jf (L.drop (k + 1)) (nl s last)) := fun h => by rw [HJk.out, HD.out, jf, if_neg (by rw [h]; simp)]
      have RD : Hid (Reads w (.slice ad1 s.data.length cd1) s.data) := r1
      have HB : Hid (Byt s.name) := hm1
      have RK : Hid (∀ w : World, Calls Try.prog 25 #[.int .i64 s.id] w fun e w' => e = .returned (.int .i64 (rank s.id)) ∧ w' = w) := fun w => refRank_any s.id w
      have hem : (strOfNums s.name).toList.isEmpty = s.name.isEmpty := str_empty
      have hrc := rank_cases s.id
      clear f1 r1 hs hv2 hR' hm1
      rcases hrc with ⟨hno, hrk⟩ | ⟨hid, hrk⟩ | ⟨hid0, hid1, hr1, hr2⟩
      · have hR0 := HFF.out 4 (ff_neg (by omega)) (by decide)
        have HR0 : Hid (R = ([], 4)) := hR0
        rw [hrk] at RK
        clear hR0 hrk hno hem
        generalize strOfNums s.name = nm1 at *
        generalize s.data.length = dl at *
        generalize s.id = id1 at *
        generalize s.at_ = at1 at *
        go_wp2_with fail
        refine (RK.out _).mono ?_
        rintro en w1 ⟨rfl, hw⟩
        obtain rfl := hw.symm
        go_wp2_with fail
        go_ret2
        rw [HR0.out]
        exact ⟨_, rfl, reads_nil _, HG.out.alloc _⟩
      · have hfc := ff_custom (last := last) hid hrk
        have hnl : nl s last = last := by unfold nl; rw [if_pos hrk]
        rw [hrk] at RK
        by_cases hnf : nf s.name = 0
        · have NXT : Hid (J = jf (L.drop (k + 1)) last) := by have := HNX.out (hfc.trans hnf); rw [hnl] at this; exact this
          have PN := fun (w : World) => refPutName_own s.name w HB.out hm2 hnf
          obtain ⟨X, hX⟩ : ∃ X, X = nb s.name := ⟨_, rfl⟩
          rw [← hX] at PN
          have hxl : X.length ≤ 65547 + 0 := by
            rw [hX]; unfold nb
            have := PU_len s.name.length
            have h2 : s.name.length ≤ 65536 := by
              by_cases h : 65536 < s.name.length
              · unfold nf at hnf; rw [if_pos h] at hnf; exact absurd hnf (by decide)
              · omega
            simp; omega
          have SBN : Hid ((sb s).length = 1 + (PU ((X.length : Int) + (s.data.length : Int))).length + X.length + s.data.length) := by
            show (sb s).length = _
            unfold sb hdS bdy
            rw [if_pos hid, ← hX]; simp; omega
          have SBE0 : Hid (∀ B U1 : List Int, U1 = PU ((X.length : Int) + (s.data.length : Int)) → B ++ sb s = B ++ [s.id] ++ U1 ++ X ++ s.data) := by
            intro B U1 h
            unfold sb hdS bdy
            rw [if_pos hid, ← hX, h]; simp
          have PN2 : Hid (∀ w : World, Calls Try.prog 16 #[.string (strOfNums s.name)] w fun en w' => ∃ v, en = .returned (.tuple #[v, .int .i64 0]) ∧ Has w.heap.size w w' v X) := PN
          have hi0 : 0 ≤ s.id := by omega
          have hi1 : s.id ≤ 13 := by omega
          clear PN hX hem hfc hnl hnf hid hrk hm2
          generalize strOfNums s.name = nm1 at *
          generalize hdl : s.data = D at *
          generalize s.id = id1 at *
          generalize s.at_ = at1 at *
          go_wp2_with fail
          refine (RK.out _).mono ?_
          rintro en w1 ⟨rfl, hw⟩
          obtain rfl := hw.symm
          clear hw
          go_wp2_with fail
          refine (PN2.out _).mono ?_
          rintro en w3 ⟨vb, rfl, h3⟩
          have HB3 : Hid (OwB (wr.alloc (.cells #[.int .i64 id1, .string nm1, .slice ad1 D.length cd1, .int .i64 at1] 45)).heap.size w3 vb X) := h3.1
          have G3 : Hid (Grew wr w3) := ((Grew.refl wr).alloc _).trans h3.gr
          have SB : Hid (w3.heap[wr.heap.size]? = some (Obj.cells #[.int .i64 id1, .string nm1, .slice ad1 D.length cd1, .int .i64 at1] 45 (0, 0))) := ((h3.gr).turn []).other (heap_alloc_last _ _) (by simp)
          obtain ⟨ab, cb, hvb⟩ := h3.reads.len
          subst hvb
          have e0 := cell_of SB.out 0
          have e2 := cell_of SB.out 2
          simp at e0 e2
          have SZ3 : Hid ((wr.alloc (.cells #[.int .i64 id1, .string nm1, .slice ad1 D.length cd1, .int .i64 at1] 45)).heap.size ≤ w3.heap.size) := h3.gr.2
          clear h3
          rcases HST.out with ⟨rfl, ho, hob, hol⟩ | ⟨rfl, hjl⟩
          · obtain ⟨_, ⟨hv0, hn0⟩ | ⟨g, c8, cur, hv8, hbg, hg8, _⟩⟩ := id ho
            · exact absurd (by rw [hv0]; rfl) hob
            have hgl : g < wr.heap.size := lt_of_obj hg8
            obtain ⟨B, hB⟩ : ∃ B, B = hd ++ (L.take k).flatMap sb := ⟨_, rfl⟩
            rw [← hB] at ho hol hv8
            have HBB : Hid (B = hd ++ (L.take k).flatMap sb) := hB
            have HO : Hid (OwB w.heap.size wr u4 B) := ho
            subst hv8
            clear hob hB ho hg8
            by_cases hbig : B.length + X.length + D.length ≤ 1048576
            · have d1 : decide ((1048576 : Int) < (X.length : Int) + (D.length : Int)) = false := by simp; omega
              have d2 : decide ((1048576 : Int) < (B.length : Int) + ((X.length : Int) + (D.length : Int))) = false := by simp; omega
              have I3 : Hid (InS [g] w3 (.slice (some ⟨g, 0, none⟩) B.length c8)) := fun k hk => by simp [Value.ownBlock] at hk; left; simp [hk]
              have O3 : Hid (OwB w.heap.size w3 (.slice (some ⟨g, 0, none⟩) B.length c8) B) := HO.out.grew HG.out.2 G3.out
              have L3 : Hid (w.heap.size ≤ w3.heap.size) := Nat.le_trans HG.out.2 G3.out.2
              have PUc : Hid (∀ w : World, Calls Try.prog 39 #[.int .u64 ((X.length : Int) + (D.length : Int))] w fun e w' => ∃ v, e = .returned v ∧ Has w.heap.size w w' v (PU ((X.length : Int) + (D.length : Int)))) := fun w => refPutU_any _ w (by omega) (by omega)
              have hpl := PU_len ((X.length : Int) + (D.length : Int))
              obtain ⟨U1, hU1⟩ : ∃ U1, U1 = PU ((X.length : Int) + (D.length : Int)) := ⟨_, rfl⟩
              rw [← hU1] at PUc hpl
              have HU : Hid (U1 = PU ((X.length : Int) + (D.length : Int))) := hU1
              clear hU1
              go_wp2_with (at_builtin; refine wp_app1o (w0 := w3) (S := [g]) (v := .slice (some ⟨g, 0, none⟩) B.length c8) (l := B) (c := id1) rfl _ _ rfl rfl rfl O3.out L3.out (Turn.refl _ _) I3.out (by omega) ?_; intro v4 w4 h4 t4 i4 b4)
              have hv4 : Hid (v4.ownBlock ≠ none) := ob_ne h4 (by simp)
              have H4 : Hid (OwB w.heap.size w4 v4 (B ++ [id1])) := h4
              have T4 : Hid (Turn [g] w3 w4) := t4
              have I4 : Hid (InS [g] w3 v4) := i4
              have B4 : Hid (w.heap.size ≤ w4.heap.size) := b4
              clear h4 t4 i4 b4
              go_wp2_with fail
              refine (PUc.out _).mono ?_
              rintro en w5 ⟨vp, rfl, h5⟩
              have R5 : Hid (Reads w5 vp U1) := h5.reads
              have H5 : Hid (OwB w.heap.size w5 v4 (B ++ [id1])) := H4.out.grew B4.out h5.gr
              have T5 : Hid (Turn [g] w3 w5) := T4.out.trans (h5.gr.turn _)
              have B5 : Hid (w.heap.size ≤ w5.heap.size) := Nat.le_trans B4.out h5.gr.2
              clear h5
              go_wp2_with (first
                | (at_builtin; refine wp_appSo (w0 := w3) (S := [g]) (v := v4) (u := vp) (l := B ++ [id1]) (r := U1) rfl _ _ rfl rfl rfl H5.out hv4.out B5.out T5.out I4.out R5.out (by simp; omega) ?_
                   intro v6 w6 h6 t6 i6 n6 b6
                   have H6 : Hid (OwB w.heap.size w6 v6 (B ++ [id1] ++ U1)) := h6
                   have T6 : Hid (Turn [g] w3 w6) := t6
                   have I6 : Hid (InS [g] w3 v6) := i6
                   have N6 : Hid (v6.ownBlock ≠ none) := n6
                   have B6 : Hid (w.heap.size ≤ w6.heap.size) := b6
                   have R6 : Hid (Reads w6 (.slice ab X.length cb) (X)) := (HB3.out.turn t6 (fun k hk => by have := (HB3.out.lt hk).1; simp at this; simp; omega)).reads (by have h1 := t6.size; have h2 := HB3.out; have h3 := G3.out.2; have h4 := SZ3.out; omega)
                   clear h6 t6 i6 n6 b6)
                | (at_builtin; refine wp_appSo (w0 := w3) (S := [g]) (v := v6) (u := .slice ab X.length cb) (l := B ++ [id1] ++ U1) (r := X) rfl _ _ rfl rfl rfl H6.out N6.out B6.out T6.out I6.out R6.out (by simp; omega) ?_
                   intro v7 w7 h7 t7 i7 n7 b7
                   have H7 : Hid (OwB w.heap.size w7 v7 (B ++ [id1] ++ U1 ++ X)) := h7
                   have T7 : Hid (Turn [g] w3 w7) := t7
                   have I7 : Hid (InS [g] w3 v7) := i7
                   have N7 : Hid (v7.ownBlock ≠ none) := n7
                   have B7 : Hid (w.heap.size ≤ w7.heap.size) := b7
                   have GW7 : Hid (Grew w w7) := t7.grew (HG.out.trans G3.out) (by simpa using hbg)
                   have e7 := cell_of (t7.other SB.out (by simp; omega)) 2
                   simp at e7
                   clear h7 t7 i7 n7 b7)
                | (at_builtin; refine wp_appSo (w0 := w3) (S := [g]) (v := v7) (u := .slice ad1 D.length cd1) (l := B ++ [id1] ++ U1 ++ X) (r := D) rfl _ _ rfl rfl rfl H7.out N7.out B7.out T7.out I7.out (RD.out.below GW7.out.1) (by simp; omega) ?_
                   intro v8 w8 h8 t8 i8 n8 b8
                   have H8 : Hid (OwB w.heap.size w8 v8 (B ++ [id1] ++ U1 ++ X ++ D)) := h8
                   have N8 : Hid (v8.ownBlock ≠ none) := n8
                   have GW8 : Hid (Grew w w8) := t8.grew (HG.out.trans G3.out) (by simpa using hbg)
                   clear h8 t8 i8 n8 b8))
              go_roundw
              case rel =>
                have hsb : B ++ sb s = B ++ [id1] ++ U1 ++ X ++ D := SBE0.out B U1 HU.out
                refine ⟨k + 1, last, false, by go_num, by omega, rfl, by omega, rfl, NXT.out, GW8.out, Or.inl ⟨rfl, ?_, N8.out, ?_⟩⟩
                · rw [HTK.out, ← List.append_assoc, ← HBB.out, hsb]; exact H8.out
                · rw [HTK.out, ← List.append_assoc, ← HBB.out, hsb]; simp; omega
              case measure => simp [intOf]; omega
            · have HLB : Hid (1048576 < (jb L).length) := by
                show 1048576 < (jb L).length
                rw [HJL.out, ← HBB.out]
                have : X.length + D.length ≤ (sb s).length := by rw [SBN.out]; omega
                simp; omega
              by_cases hs1 : 1048576 < X.length + D.length
              · have d1 : decide ((1048576 : Int) < (X.length : Int) + (D.length : Int)) = true := by simp; omega
                go_wp2_with fail
                go_roundw
                case rel => exact ⟨k + 1, last, true, by go_num, by omega, rfl, by omega, rfl, NXT.out, HG.out.trans G3.out, Or.inr ⟨rfl, HLB.out⟩⟩
                case measure => simp [intOf]; omega
              · have d1 : decide ((1048576 : Int) < (X.length : Int) + (D.length : Int)) = false := by simp; omega
                have d2 : decide ((1048576 : Int) < (B.length : Int) + ((X.length : Int) + (D.length : Int))) = true := by simp; omega
                go_wp2_with fail
                go_roundw
                case rel => exact ⟨k + 1, last, true, by go_num, by omega, rfl, by omega, rfl, NXT.out, HG.out.trans G3.out, Or.inr ⟨rfl, HLB.out⟩⟩
                case measure => simp [intOf]; omega
          · have HLB : Hid (1048576 < (jb L).length) := hjl
            clear hjl
            go_wp2_with fail
            go_roundw
            case rel => exact ⟨k + 1, last, true, by go_num, by omega, rfl, by omega, rfl, NXT.out, HG.out.trans G3.out, Or.inr ⟨rfl, HLB.out⟩⟩
            case measure => simp [intOf]; omega
        · have HR0 : Hid (R = ([], nf s.name)) := HFF.out _ hfc hnf
          have PN : Hid (∀ w : World, Calls Try.prog 16 #[.string (strOfNums s.name)] w fun en w' => ∃ v, en = .returned (.tuple #[v, .int .i64 (nf s.name)]) ∧ Reads w' v (pn s.name) ∧ Grew w w') := fun w => refPutName_any s.name w HB.out hm2
          obtain ⟨e, he⟩ : ∃ e, e = nf s.name := ⟨_, rfl⟩
          rw [← he] at HR0 PN hnf
          have hne : (e != 0) = true := by simpa using hnf
          generalize pn s.name = px at *
          clear hem hfc hnl hid hrk hm2 hnf he
          generalize strOfNums s.name = nm1 at *
          generalize hdl : s.data = D at *
          generalize s.id = id1 at *
          generalize s.at_ = at1 at *
          go_wp2_with fail
          refine (RK.out _).mono ?_
          rintro en w1 ⟨rfl, hw⟩
          obtain rfl := hw.symm
          clear hw
          go_wp2_with fail
          refine (PN.out _).mono ?_
          rintro en w3 ⟨vb, rfl, _, g3⟩
          have G3 : Hid (Grew w w3) := (HG.out.alloc _).trans g3
          clear g3
          go_wp2_with fail
          go_ret2
          rw [HR0.out]
          exact ⟨_, rfl, reads_nil _, G3.out⟩
      · have hrp : 0 < rank s.id := by omega
        by_cases hnm : s.name = []
        · by_cases hor : rank s.id ≤ last
          · have HR0 : Hid (R = ([], 20)) := HFF.out 20 (ff_order hrp hnm hor) (by decide)
            have hemt : (strOfNums s.name).toList.isEmpty = true := by rw [hem, hnm]; rfl
            clear hem hnm hm2
            generalize rank s.id = rk at *
            generalize strOfNums s.name = nm1 at *
            generalize hdl : s.data = D at *
            generalize s.id = id1 at *
            generalize s.at_ = at1 at *
            go_wp2_with fail
            refine (RK.out _).mono ?_
            rintro en w1 ⟨rfl, hw⟩
            obtain rfl := hw.symm
            clear hw
            go_wp2_with fail
            go_ret2
            rw [HR0.out]
            exact ⟨_, rfl, reads_nil _, HG.out.alloc _⟩
          · have hff := ff_fine hrp hnm hor
            have NXT : Hid (J = jf (L.drop (k + 1)) (rank s.id)) := by
              have := HNX.out hff
              rw [show nl s last = rank s.id from by unfold nl; rw [if_neg (by omega)]] at this; exact this
            have hemt : (strOfNums s.name).toList.isEmpty = true := by rw [hem, hnm]; rfl
            have SBN : Hid ((sb s).length = 1 + (PU ((s.data.length : Nat) : Int)).length + s.data.length) := by
              show (sb s).length = _
              unfold sb hdS bdy
              rw [if_neg (by omega)]; simp; omega
            have SBE0 : Hid (∀ B U1 : List Int, U1 = PU ((s.data.length : Nat) : Int) → B ++ sb s = B ++ [s.id] ++ U1 ++ [] ++ s.data) := by
              intro B U1 h
              unfold sb hdS bdy
              rw [if_neg (by omega), h]; simp
            have hi0 : 0 ≤ s.id := by omega
            have hi1 : s.id ≤ 13 := by omega
            clear hem hnm hm2 hff
            generalize rank s.id = rk at *
            generalize strOfNums s.name = nm1 at *
            generalize hdl : s.data = D at *
            generalize s.id = id1 at *
            generalize s.at_ = at1 at *
            go_wp2_with fail
            refine (RK.out _).mono ?_
            rintro en w1 ⟨rfl, hw⟩
            obtain rfl := hw.symm
            clear hw
            obtain ⟨w3, hw3⟩ : ∃ w3, w3 = wr.alloc (.cells #[.int .i64 id1, .string nm1, .slice ad1 D.length cd1, .int .i64 at1] 45) := ⟨_, rfl⟩
            have G3 : Hid (Grew wr w3) := by show Grew wr w3; rw [hw3]; exact (Grew.refl wr).alloc _
            have SB : Hid (w3.heap[wr.heap.size]? = some (Obj.cells #[.int .i64 id1, .string nm1, .slice ad1 D.length cd1, .int .i64 at1] 45 (0, 0))) := by show w3.heap[wr.heap.size]? = _; rw [hw3]; exact heap_alloc_last _ _
            have e0 := cell_of SB.out 0
            have e1 := cell_of SB.out 1
            have e2 := cell_of SB.out 2
            simp at e0 e1 e2
            rw [← hw3]
            clear hw3
            rcases HST.out with ⟨rfl, ho, hob, hol⟩ | ⟨rfl, hjl⟩
            · obtain ⟨_, ⟨hv0, hn0⟩ | ⟨g, c8, cur, hv8, hbg, hg8, _⟩⟩ := id ho
              · exact absurd (by rw [hv0]; rfl) hob
              have hgl : g < wr.heap.size := lt_of_obj hg8
              obtain ⟨B, hB⟩ : ∃ B, B = hd ++ (L.take k).flatMap sb := ⟨_, rfl⟩
              rw [← hB] at ho hol hv8
              have HBB : Hid (B = hd ++ (L.take k).flatMap sb) := hB
              have HO : Hid (OwB w.heap.size wr u4 B) := ho
              subst hv8
              clear hob hB ho hg8
              by_cases hbig : B.length + 0 + D.length ≤ 1048576
              · have d1 : decide ((1048576 : Int) < (D.length : Int)) = false := by simp; omega
                have d2 : decide ((1048576 : Int) < (B.length : Int) + ((D.length : Int))) = false := by simp; omega
                have I3 : Hid (InS [g] w3 (.slice (some ⟨g, 0, none⟩) B.length c8)) := fun k hk => by simp [Value.ownBlock] at hk; left; simp [hk]
                have O3 : Hid (OwB w.heap.size w3 (.slice (some ⟨g, 0, none⟩) B.length c8) B) := HO.out.grew HG.out.2 G3.out
                have L3 : Hid (w.heap.size ≤ w3.heap.size) := Nat.le_trans HG.out.2 G3.out.2
                have PUc : Hid (∀ w : World, Calls Try.prog 39 #[.int .u64 ((D.length : Int))] w fun e w' => ∃ v, e = .returned v ∧ Has w.heap.size w w' v (PU ((D.length : Int)))) := fun w => refPutU_any _ w (by omega) (by omega)
                have hpl := PU_len ((D.length : Int))
                obtain ⟨U1, hU1⟩ : ∃ U1, U1 = PU ((D.length : Int)) := ⟨_, rfl⟩
                rw [← hU1] at PUc hpl
                have HU : Hid (U1 = PU ((D.length : Int))) := hU1
                clear hU1
                go_wp2_with (at_builtin; refine wp_app1o (w0 := w3) (S := [g]) (v := .slice (some ⟨g, 0, none⟩) B.length c8) (l := B) (c := id1) rfl _ _ rfl rfl rfl O3.out L3.out (Turn.refl _ _) I3.out (by omega) ?_; intro v4 w4 h4 t4 i4 b4)
                have hv4 : Hid (v4.ownBlock ≠ none) := ob_ne h4 (by simp)
                have H4 : Hid (OwB w.heap.size w4 v4 (B ++ [id1])) := h4
                have T4 : Hid (Turn [g] w3 w4) := t4
                have I4 : Hid (InS [g] w3 v4) := i4
                have B4 : Hid (w.heap.size ≤ w4.heap.size) := b4
                clear h4 t4 i4 b4
                go_wp2_with fail
                refine (PUc.out _).mono ?_
                rintro en w5 ⟨vp, rfl, h5⟩
                have R5 : Hid (Reads w5 vp U1) := h5.reads
                have H5 : Hid (OwB w.heap.size w5 v4 (B ++ [id1])) := H4.out.grew B4.out h5.gr
                have T5 : Hid (Turn [g] w3 w5) := T4.out.trans (h5.gr.turn _)
                have B5 : Hid (w.heap.size ≤ w5.heap.size) := Nat.le_trans B4.out h5.gr.2
                clear h5
                go_wp2_with (first
                  | (at_builtin; refine wp_appSo (w0 := w3) (S := [g]) (v := v4) (u := vp) (l := B ++ [id1]) (r := U1) rfl _ _ rfl rfl rfl H5.out hv4.out B5.out T5.out I4.out R5.out (by simp; omega) ?_
                     intro v6 w6 h6 t6 i6 n6 b6
                     have H6 : Hid (OwB w.heap.size w6 v6 (B ++ [id1] ++ U1)) := h6
                     have T6 : Hid (Turn [g] w3 w6) := t6
                     have I6 : Hid (InS [g] w3 v6) := i6
                     have N6 : Hid (v6.ownBlock ≠ none) := n6
                     have B6 : Hid (w.heap.size ≤ w6.heap.size) := b6
                     have R6 : Hid (Reads w6 (.slice none 0 0) ([])) := reads_nil _
                     clear h6 t6 i6 n6 b6)
                  | (at_builtin; refine wp_appSo (w0 := w3) (S := [g]) (v := v6) (u := .slice none 0 0) (l := B ++ [id1] ++ U1) (r := []) rfl _ _ rfl rfl rfl H6.out N6.out B6.out T6.out I6.out R6.out (by simp; omega) ?_
                     intro v7 w7 h7 t7 i7 n7 b7
                     have H7 : Hid (OwB w.heap.size w7 v7 (B ++ [id1] ++ U1 ++ [])) := h7
                     have T7 : Hid (Turn [g] w3 w7) := t7
                     have I7 : Hid (InS [g] w3 v7) := i7
                     have N7 : Hid (v7.ownBlock ≠ none) := n7
                     have B7 : Hid (w.heap.size ≤ w7.heap.size) := b7
                     have GW7 : Hid (Grew w w7) := t7.grew (HG.out.trans G3.out) (by simpa using hbg)
                     have e7 := cell_of (t7.other SB.out (by simp; omega)) 2
                     simp at e7
                     clear h7 t7 i7 n7 b7)
                  | (at_builtin; refine wp_appSo (w0 := w3) (S := [g]) (v := v7) (u := .slice ad1 D.length cd1) (l := B ++ [id1] ++ U1 ++ []) (r := D) rfl _ _ rfl rfl rfl H7.out N7.out B7.out T7.out I7.out (RD.out.below GW7.out.1) (by simp; omega) ?_
                     intro v8 w8 h8 t8 i8 n8 b8
                     have H8 : Hid (OwB w.heap.size w8 v8 (B ++ [id1] ++ U1 ++ [] ++ D)) := h8
                     have N8 : Hid (v8.ownBlock ≠ none) := n8
                     have GW8 : Hid (Grew w w8) := t8.grew (HG.out.trans G3.out) (by simpa using hbg)
                     clear h8 t8 i8 n8 b8))
                go_roundw
                case rel =>
                  have hsb : B ++ sb s = B ++ [id1] ++ U1 ++ [] ++ D := SBE0.out B U1 HU.out
                  refine ⟨k + 1, rk, false, by go_num, by omega, rfl, by omega, rfl, NXT.out, GW8.out, Or.inl ⟨rfl, ?_, N8.out, ?_⟩⟩
                  · rw [HTK.out, ← List.append_assoc, ← HBB.out, hsb]; exact H8.out
                  · rw [HTK.out, ← List.append_assoc, ← HBB.out, hsb]; simp; omega
                case measure => simp [intOf]; omega
              · have HLB : Hid (1048576 < (jb L).length) := by
                  show 1048576 < (jb L).length
                  rw [HJL.out, ← HBB.out]
                  have : 0 + D.length ≤ (sb s).length := by rw [SBN.out]; omega
                  simp; omega
                by_cases hs1 : 1048576 < 0 + D.length
                · have d1 : decide ((1048576 : Int) < (D.length : Int)) = true := by simp; omega
                  go_wp2_with fail
                  go_roundw
                  case rel => exact ⟨k + 1, rk, true, by go_num, by omega, rfl, by omega, rfl, NXT.out, HG.out.trans G3.out, Or.inr ⟨rfl, HLB.out⟩⟩
                  case measure => simp [intOf]; omega
                · have d1 : decide ((1048576 : Int) < (D.length : Int)) = false := by simp; omega
                  have d2 : decide ((1048576 : Int) < (B.length : Int) + ((D.length : Int))) = true := by simp; omega
                  go_wp2_with fail
                  go_roundw
                  case rel => exact ⟨k + 1, rk, true, by go_num, by omega, rfl, by omega, rfl, NXT.out, HG.out.trans G3.out, Or.inr ⟨rfl, HLB.out⟩⟩
                  case measure => simp [intOf]; omega
            · have HLB : Hid (1048576 < (jb L).length) := hjl
              clear hjl
              go_wp2_with fail
              go_roundw
              case rel => exact ⟨k + 1, rk, true, by go_num, by omega, rfl, by omega, rfl, NXT.out, HG.out.trans G3.out, Or.inr ⟨rfl, HLB.out⟩⟩
              case measure => simp [intOf]; omega
        · have HR0 : Hid (R = ([], 4)) := HFF.out 4 (ff_name hrp hnm) (by decide)
          have hemt : (strOfNums s.name).toList.isEmpty = false := by rw [hem]; simpa using hnm
          clear hem hnm hm2
          generalize rank s.id = rk at *
          generalize strOfNums s.name = nm1 at *
          generalize hdl : s.data = D at *
          generalize s.id = id1 at *
          generalize s.at_ = at1 at *
          go_wp2_with fail
          refine (RK.out _).mono ?_
          rintro en w1 ⟨rfl, hw⟩
          obtain rfl := hw.symm
          clear hw
          go_wp2_with fail
          go_ret2
          rw [HR0.out]
          exact ⟨_, rfl, reads_nil _, HG.out.alloc _⟩
    · obtain rfl : k = L.length := by omega
      have HJ0 : Hid (jf L 0 = 0) := by
        have := HJk.out
        rw [List.drop_length] at this
        show jf L 0 = 0
        rw [← HJ.out, this]; rfl
      have HBA : Hid (hd ++ (L.take L.length).flatMap sb = jb L) := by show _ = _; rw [List.take_length]; rfl
      rcases HST.out with ⟨rfl, ho, hob, hol⟩ | ⟨rfl, hjl⟩
      · rw [HBA.out] at ho hol
        obtain ⟨a8, c8, h8⟩ := (ho.reads HG.out.2).len
        subst h8
        have HO : Hid (OwB w.heap.size wr (.slice a8 (jb L).length c8) (jb L)) := ho
        clear ho hob
        by_cases hbg : 1048576 < (jb L).length
        · have HR0 : Hid (R = ([], 2)) := by show R = _; rw [HRJ.out, join, if_neg (by rw [HJ0.out]; simp), if_pos hbg]
          have d1 : decide ((1048576 : Int) < ((jb L).length : Int)) = true := by simp; omega
          generalize (jb L).length = n8 at *
          go_wp2_with fail
          go_ret2
          rw [HR0.out]
          exact ⟨_, rfl, reads_nil _, HG.out⟩
        · have HR0 : Hid (R = (jb L, 0)) := by show R = _; rw [HRJ.out, join, if_neg (by rw [HJ0.out]; simp), if_neg hbg]
          have d1 : decide ((1048576 : Int) < ((jb L).length : Int)) = false := by simp; omega
          go_wp2_with fail
          go_ret2
          rw [HR0.out]
          exact ⟨_, rfl, HO.out.reads HG.out.2, HG.out⟩
      · have HR0 : Hid (R = ([], 2)) := by show R = _; rw [HRJ.out, join, if_neg (by rw [HJ0.out]; simp), if_pos hjl]
        clear hjl
        go_wp2_with fail
        go_ret2
        rw [HR0.out]
        exact ⟨_, rfl, reads_nil _, HG.out⟩
end Go.Proofs.Ytclamdpbdafmcaa
