/-
  The walk of frame.Join; no statement is proved here.
-/
import Derived.Test.YtclamdpbdafmcaaFault
import Derived.Test.YtclamdpbdafmcaaHeadC
import Derived.Test.YtclamdpbdafmcaaAlike
namespace Go.Proofs.Ytclamdpbdafmcaa
open Go.RowKit
set_option linter.unusedVariables false

theorem headOf_any (s : Sec) (v : Value) (w : World) (hR : Reads w v s.data) (hm : Byt s.name) (h0 : 0 ≤ s.id) (h13 : s.id ≤ 13) (hml : s.name.length ≤ 65536) (hlen : s.data.length ≤ 140737488351232) :
    Calls Try.prog 46 #[secV s.id (strOfNums s.name) v s.at_] w fun en w' => ∃ v', en = .returned v' ∧ Has w.heap.size w w' v' (hdS s) := by
  obtain ⟨id, nm, d, p⟩ := s
  unfold hdS bdy secV
  simp only at *
  by_cases hid : id = 0
  · subst hid
    rw [if_pos rfl]
    exact headOf_custom nm v d p w hR hm hml hlen
  · rw [if_neg hid]
    exact headOf_plain id (strOfNums nm) v d p w hR hid h0 h13 hlen
theorem jf_mem : ∀ (L : List Sec) (last : Int), jf L last = 0 → ∀ s ∈ L, ∃ x, ff s x = 0 := by
  intro L
  induction L with
  | nil => intro _ _ s hs; simp at hs
  | cons t r ih =>
    intro last h s hs
    rw [jf] at h
    by_cases h0 : ff t last = 0
    · rw [if_neg (by simpa using h0)] at h
      rcases List.mem_cons.1 hs with rfl | hs
      · exact ⟨last, h0⟩
      · exact ih _ h s hs
    · rw [if_pos h0] at h; exact absurd h h0
theorem ff_ok {s : Sec} {x : Int} (h : ff s x = 0) : 0 ≤ s.id ∧ s.id ≤ 13 ∧ s.name.length ≤ 65536 := by
  unfold ff at h
  have hr := rank_cases s.id
  split at h
  · omega
  · rename_i h1
    split at h
    · omega
    · unfold nf at h
      split at h
      · omega
      · refine ⟨?_, ?_, by omega⟩ <;> (by_cases hneg : rank s.id < 0; exact absurd (Or.inl hneg) h1; omega)
/- An append inside a region that draws, of what may be empty; sections' blocks stay. -/
theorem step_app2 {w0 w : World} {ops : Array Oper} {o : Oper} {a : Act} {K : Act → World → Prop} {Q : Exit → Act → World → Prop} {E : Prop} (hgd : o.guard = none) (s x : Operand)
    (ho : o.op = .call { callee := .builtin .append, args := #[s, x], argTypes := #[22, 22] }) {base : Nat} {v u : Value} {l r : List Int}
    (hs : a.eval s = v) (hx : a.eval x = u) (hh : Has base w0 w v l) (hR : Reads w u r) (hlen : l.length + r.length ≤ 140737488355328)
    (h : ∀ v' w', Has base w0 w' v' (l ++ r) → (∀ (b : Nat) (cs : Array Value), w.heap[b]? = some (Obj.cells cs 45 (0, 0)) → w'.heap[b]? = some (Obj.cells cs 45 (0, 0))) → K (a.put o.dst v') w') :
    if Region.wanted o (yielded ops a.tmps) = true then Oper.wp Try.prog o a w K Q else E := by
  have hw : Region.wanted o (yielded ops a.tmps) = true := by simp [Region.wanted, hgd]
  rw [if_pos hw]
  obtain ⟨i0, hi, hz0, hz1, hz2⟩ := info_parts Try.info5
  obtain ⟨hown, hb, hle⟩ := hh
  have main : ∀ (ad : Addr) (c : Nat), u = .slice (some ad) r.length c → (∀ (j : Nat) (z : Value), (U8 r)[j]? = some z → w.cell? (ad.add j) = some z) → Oper.wp Try.prog o a w K Q := by
    intro ad c hu hn
    refine wp_append_own _ s x 22 ho base 5 i0 (.int .u8 0) 1 1 Try.underlying22 hi hz0 hz1 hz2 rfl (by decide) v l.length (U8 l) hs hown ad r.length c (U8 r) (hx.trans hu) (by simp [U8]) hn (by simp [U8, Value.oneCell']) (by unfold maxLen; omega) (by omega) hle ?_
    intro v' w' ho' hg _
    refine h v' w' ⟨?_, hb.grown hg hle (fun k hk => (hown.lt k hk).1), Nat.le_trans hle hg.size⟩ ?_
    · rw [List.length_append, show U8 (l ++ r) = U8 l ++ U8 r from by simp [U8]]; exact ho'
    · intro b cs hbc
      rw [hg.block b (lt_of_obj hbc) (fun e => ?_)]; exact hbc
      obtain ⟨_, ⟨rfl, _⟩ | ⟨g, cap, cur, rfl, _, hh, _⟩⟩ := hown
      · simp [Value.ownBlock] at e
      · simp [Value.ownBlock] at e
        subst e
        rw [hbc] at hh
        simp at hh
  obtain ⟨ad, cap, hu, _, _, hn, hr⟩ := hR
  rcases hr with rfl | ⟨b, off, rfl, hc⟩
  · cases ad with
    | none =>
      have hc0 := hn rfl
      subst hc0
      have hrun := run_append_owned_none (P := Try.prog) (w := w) base 22 o.type 5 i0 1 Try.underlying22 hi v l.length (U8 l) hown
      unfold Oper.wp execOp
      simp only [ho, resolve, invoke, builtin, Sem.run_bind, Sem.run_pure, Result.andThen_ok, List.map_toArray, List.map_cons, List.map_nil, hs, hx.trans hu, List.length_nil, hrun]
      have := h v w (by rw [List.append_nil]; exact ⟨hown, hb, hle⟩) (fun _ _ h => h)
      exact this
    | some ad => exact main ad cap hu (fun j z hz => by simp [U8] at hz)
  · refine main _ cap hu (fun j z hz => ?_)
    obtain ⟨hj, hz⟩ := List.getElem?_eq_some_iff.1 hz
    have hj' : j < r.length := by simpa [U8] using hj
    have := hc j hj'
    have e : (Addr.add ⟨b, off, none⟩ j) = ⟨b, off + j, none⟩ := by simp [Addr.add]
    rw [e, this, ← hz]
    simp [U8, List.getD, hj']
set_option maxRecDepth 100000 in
set_option maxHeartbeats 8000000 in
theorem join_any (v : Value) (L : List Sec) (w : World) (hR : RdS w v L) (hL : ∀ s ∈ L, Byt s.name ∧ s.name.length ≤ 140737488351232 ∧ s.data.length ≤ 140737488351232) (hlen : L.length ≤ 4000000000000) :
    Calls Try.prog 22 #[v] w fun en w' => ∃ v', en = .returned (.tuple #[v', .int .i64 (join L).2]) ∧ Reads w' v' (join L).1 ∧ Grew w w' := by
  obtain ⟨R, hRj⟩ : ∃ R, R = join L := ⟨_, rfl⟩
  obtain ⟨J, hJ⟩ : ∃ J, J = jf L 0 := ⟨_, rfl⟩
  rw [← hRj]
  have HRJ : Hid (R = join L) := hRj
  have HJ : Hid (J = jf L 0) := hJ
  have HRS : Hid (RdS w v L) := hR
  have HL : Hid (∀ s ∈ L, Byt s.name ∧ s.name.length ≤ 140737488351232 ∧ s.data.length ≤ 140737488351232) := hL
  obtain ⟨a, cap, rfl, hR⟩ := hR
  clear hRj hJ hR hL
  go_enter Try.func22, Try.ntmps22
  go_wp2_with fail
  go_loopw [14] (fun i wr => ∃ (k : Nat) (last : Int), i = .int .i64 k ∧ k ≤ L.length ∧ Turn [w.heap.size] (w.alloc (ord 0)) wr ∧ wr.heap[w.heap.size]? = some (ord last) ∧ J = jf (L.drop k) last) (fun i _ => L.length - (intOf i).toNat)
  case atStart => exact ⟨0, 0, rfl, by omega, Turn.refl _ _, heap_alloc_last _ _, HJ.out⟩
  case round =>
    obtain ⟨k, last, rfl, hk, hT, hO, hJk⟩ := hrel
    have HT : Hid (Turn [w.heap.size] (w.alloc (ord 0)) wr) := hT
    have HO : Hid (wr.heap[w.heap.size]? = some (ord last)) := hO
    have HJk : Hid (J = jf (L.drop k) last) := hJk
    have HG : Hid (Grew w wr) := hT.grew ((Grew.refl w).alloc _) (by simp)
    clear hT hO hJk
    by_cases hlt : k < L.length
    · obtain ⟨s, hs⟩ : ∃ s, L[k]? = some s := ⟨_, List.getElem?_eq_getElem hlt⟩
      have hmem : s ∈ L := List.mem_of_getElem? hs
      obtain ⟨a', cap', hv', hR'⟩ := HRS.out.grew HG.out
      injection hv' with hv1 hv2 hv3
      subst hv1; subst hv3
      obtain ⟨b1, o1, rfl, f1⟩ := hR'.resolve_left (fun h => by rw [h] at hlt; simp at hlt)
      obtain ⟨ad1, cd1, p0, p1, p2, p3, r1⟩ := f1 k s hs
      obtain ⟨hm1, hm2, hm3⟩ := HL.out s hmem
      have hdrop : L.drop k = s :: L.drop (k + 1) := by
        rw [List.drop_eq_getElem_cons hlt]
        congr 1
        rw [List.getElem?_eq_getElem hlt] at hs
        injection hs
      have HD : Hid (L.drop k = s :: L.drop (k + 1)) := hdrop
      have cf := fun (w_1 : World) h => faultOf_any w.heap.size last s (.slice ad1 s.data.length cd1) w_1 h hm1 hm2
      clear f1 r1 hs hdrop hv2 hR'
      unfold secV at cf
      obtain ⟨e, hee⟩ : ∃ e, e = ff s last := ⟨_, rfl⟩
      rw [← hee] at cf
      have HE : Hid (e = ff s last) := hee
      have CF : Hid (∀ (w_1 : World), w_1.heap[w.heap.size]? = some (ord last) → Calls Try.prog 44 #[.pointer (some ⟨w.heap.size, 0, none⟩), .agg #[.int .i64 s.id, .string (strOfNums s.name), .slice ad1 s.data.length cd1, .int .i64 s.at_]] w_1 fun en w' =>
        en = .returned (.int .i64 e) ∧ Turn [w.heap.size] w_1 w' ∧ (e = 0 → w'.heap[w.heap.size]? = some (ord (nl s last)))) := cf
      clear cf hee hm1 hm2 hm3
      go_wp2_with fail
      refine (CF.out _ (heap_alloc HO.out _)).mono ?_
      rintro en w2 ⟨rfl, t2, o2⟩
      have T2 : Hid (Turn [w.heap.size] (w.alloc (ord 0)) w2) := (HT.out.alloc _).trans t2
      have O2 : Hid (e = 0 → w2.heap[w.heap.size]? = some (ord (nl s last))) := o2
      clear t2 o2 CF
      by_cases he : e = 0
      · subst he
        go_wp2_with fail
        go_roundw
        case rel =>
          refine ⟨k + 1, nl s last, by go_num, by omega, T2.out, O2.out (by trivial), ?_⟩
          rw [HJk.out, HD.out, jf, if_neg (by rw [← HE.out]; simp)]
        case measure => simp [intOf]; omega
      · have he' : (e != 0) = true := by simpa using he
        go_wp2_with fail
        go_ret2
        have hj : J = e := by rw [HJk.out, HD.out, jf, if_pos (by rw [← HE.out]; exact he), ← HE.out]
        have hR0 : R = ([], e) := by
          rw [HRJ.out, join, ← HJ.out, hj, if_pos he]
        rw [hR0]
        exact ⟨_, rfl, reads_nil _, T2.out.grew ((Grew.refl w).alloc _) (by simp)⟩
    · obtain rfl : k = L.length := by omega
      have HJ0 : Hid (jf L 0 = 0) := by
        have := HJk.out
        rw [List.drop_length] at this
        show jf L 0 = 0
        rw [← HJ.out, this]; rfl
      obtain ⟨W2, hW2⟩ : ∃ W, W = wr := ⟨_, rfl⟩
      rw [← hW2] at HG ⊢
      clear HT HO HJk hW2
      go_wp2_with fail
      refine (pre45 _).mono ?_
      rintro en w3 ⟨rfl, rfl⟩
      go_wp2_with fail
      go_loopw [8, 27] (fun o i wr => ∃ k : Nat, i = .int .i64 k ∧ k ≤ L.length ∧ Has W2.heap.size W2 wr o (hd ++ (L.take k).flatMap sb) ∧ (hd ++ (L.take k).flatMap sb).length ≤ 1048576) (fun _ i _ => L.length - (intOf i).toNat)
      case atStart =>
        refine ⟨0, rfl, by omega, ?_, by simp [hd]⟩
        have := (show Has W2.heap.size W2 (W2.alloc preO) (.slice (some ⟨W2.heap.size, 0, none⟩) 8 8) hd from ⟨World.ownsRow_lit W2 _ 8 (Nat.le_refl _) (by decide) rfl, (Below.refl _ _).alloc (Nat.le_refl _) _, by simp⟩)
        simpa using this
      case round =>
        obtain ⟨k, rfl, hk, hh, hb⟩ := hrel
        obtain ⟨B, hB⟩ : ∃ B, B = hd ++ (L.take k).flatMap sb := ⟨_, rfl⟩
        rw [← hB] at hh hb
        have HB : Hid (B = hd ++ (L.take k).flatMap sb) := hB
        have HH : Hid (Has W2.heap.size W2 wr u8 B) := hh
        obtain ⟨a8, c8, h8⟩ := hh.reads.len
        subst h8
        clear hh hB
        by_cases hlt : k < L.length
        · obtain ⟨s, hs⟩ : ∃ s, L[k]? = some s := ⟨_, List.getElem?_eq_getElem hlt⟩
          have hmem : s ∈ L := List.mem_of_getElem? hs
          have G2 : Hid (Grew w wr) := HG.out.trans ⟨HH.out.below, HH.out.2.2⟩
          obtain ⟨a', cap', hv', hR'⟩ := HRS.out.grew HG.out
          injection hv' with hv1 hv2 hv3
          subst hv1; subst hv3
          obtain ⟨b1, o1, rfl, f1⟩ := hR'.resolve_left (fun h => by rw [h] at hlt; simp at hlt)
          obtain ⟨ad1, cd1, p0, p1, p2, p3, r1⟩ := (f1 k s hs).grew ⟨HH.out.below, HH.out.2.2⟩
          obtain ⟨ad2, cd2, p0', p1', p2', p3', r1'⟩ := (f1 k s hs)
          have e2 : Value.slice ad2 s.data.length cd2 = Value.slice ad1 s.data.length cd1 := by
            have := (HH.out.below.cell (block_lt_of_cell p2')).trans p2'
            rw [p2] at this
            injection this with this
            exact this.symm
          rw [e2] at r1'
          have RD : Hid (Reads W2 (.slice ad1 s.data.length cd1) s.data) := r1'
          obtain ⟨hm1, hm2, hm3⟩ := HL.out s hmem
          obtain ⟨xx, hxx⟩ := jf_mem L 0 HJ0.out s hmem
          obtain ⟨i0, i13, hnl⟩ := ff_ok hxx
          have ch := fun (w_1 : World) (hr : Reads w_1 (.slice ad1 s.data.length cd1) s.data) => headOf_any s (.slice ad1 s.data.length cd1) w_1 hr hm1 i0 i13 hnl hm3
          unfold secV at ch
          have CH : Hid (∀ (w_1 : World), Reads w_1 (.slice ad1 s.data.length cd1) s.data → Calls Try.prog 46 #[.agg #[.int .i64 s.id, .string (strOfNums s.name), .slice ad1 s.data.length cd1, .int .i64 s.at_]] w_1 fun en w' => ∃ v', en = .returned v' ∧ Has w_1.heap.size w_1 w' v' (hdS s)) := ch
          have htk : (L.take (k + 1)).flatMap sb = (L.take k).flatMap sb ++ sb s := by
            rw [List.take_add_one, hs, List.flatMap_append]; simp
          have HTK : Hid ((L.take (k + 1)).flatMap sb = (L.take k).flatMap sb ++ sb s) := htk
          have hhl : (hdS s).length ≤ 65570 := by
            have hp := PU_len (((bdy s).length + s.data.length : Nat) : Int)
            have hbl : (bdy s).length ≤ 65547 := by
              unfold bdy
              split
              · unfold nb
                have := PU_len s.name.length
                simp; omega
              · simp
            unfold hdS
            rw [List.length_cons, List.length_append]; omega
          obtain ⟨X, hX⟩ : ∃ X, X = hdS s := ⟨_, rfl⟩
          rw [← hX] at CH hhl
          have HX : Hid (X = hdS s) := hX
          clear ch f1 hs hv2 hR' hxx hm1 hnl htk hX r1 r1' p0' p1' p2' p3' e2
          generalize hdl : s.data = D at *
          generalize s.id = id1 at *
          generalize s.at_ = at1 at *
          generalize strOfNums s.name = nm1 at *
          go_wp2_with fail
          refine (CH.out _ ((HH.out.grew ((Below.refl _ _).alloc (Nat.le_refl _) (Obj.cells #[.int .i64 id1, .string nm1, .slice ad1 D.length cd1, .int .i64 at1] 45))).below |> fun hb => RD.out.below hb)).mono ?_
          rintro en w3 ⟨vh, rfl, h3⟩
          have S3 : Hid (w3.heap[wr.heap.size]? = some (Obj.cells #[.int .i64 id1, .string nm1, .slice ad1 D.length cd1, .int .i64 at1] 45 (0, 0))) := ((h3.gr).turn []).other (heap_alloc_last _ _) (by simp)
          have H3 : Hid (Has W2.heap.size W2 w3 (.slice a8 B.length c8) B) := (HH.out.allc _).grew h3.below
          have R3 : Hid (Reads w3 vh X) := h3.reads
          obtain ⟨ah, chh, hvh⟩ := h3.reads.len
          subst hvh
          have e0 := cell_of S3.out 2
          simp at e0
          clear h3 p0 p1 p2 p3
          by_cases hbig : B.length + X.length + D.length ≤ 1048576
          · have dd : decide (1048576 - (B.length : Int) - (X.length : Int) < (D.length : Int)) = false := by simp; omega
            go_wp2_with fail
            go_region_law (first
              | (refine step_app2 (l := B) (r := X) rfl (.tmp 43) (.tmp 44) rfl rfl rfl H3.out.drw ((Grew.refl _).drew.reads R3.out) (by omega) ?_
                 intro v4 w4 h4 k4
                 have H4 : Hid (Has W2.heap.size W2 w4 v4 (B ++ X)) := h4
                 have S4 : Hid (w4.heap[wr.heap.size]? = some (Obj.cells #[.int .i64 id1, .string nm1, .slice ad1 D.length cd1, .int .i64 at1] 45 (0, 0))) := k4 _ _ S3.out
                 have e4 := cell_of S4.out 2
                 simp at e4)
              | (refine step_app2 (l := B ++ X) (r := D) rfl (.tmp 45) (.tmp 47) rfl rfl rfl H4.out (RD.out.below H4.out.below) (by simp; omega) ?_
                 intro v5 w5 h5 k5
                 have H5 : Hid (Has W2.heap.size W2 w5 v5 (B ++ X ++ D)) := h5
                 clear h5 k5))
            all_goals
              go_wp2_with fail
              go_roundw
              case rel =>
                refine ⟨k + 1, by go_num, by omega, ?_, ?_⟩
                · have := H5.out
                  rw [HB.out, HX.out, ← hdl] at this
                  rw [HTK.out]
                  simpa [sb, List.append_assoc] using this
                · rw [HTK.out, ← List.append_assoc, ← HB.out, List.length_append]
                  have : (sb s).length = X.length + D.length := by rw [HX.out, ← hdl]; simp [sb]
                  omega
              case measure => simp [intOf]; omega
          · have dd : decide (1048576 - (B.length : Int) - (X.length : Int) < (D.length : Int)) = true := by simp; omega
            go_wp2_with fail
            go_ret2
            have hR0 : R = ([], 2) := by
              rw [HRJ.out, join, if_neg (by rw [HJ0.out]; simp), if_pos]
              have : jb L = B ++ (X ++ D) ++ (L.drop (k + 1)).flatMap sb := by
                unfold jb
                conv => lhs; rw [← List.take_append_drop (k + 1) L, List.flatMap_append, HTK.out]
                rw [HB.out, HX.out, ← hdl]
                simp [sb, List.append_assoc]
              rw [this]
              simp
              omega
            rw [hR0]
            exact ⟨_, rfl, reads_nil _, HG.out.trans ⟨H3.out.below, H3.out.2.2⟩⟩
        · obtain rfl : k = L.length := by omega
          have hR0 : R = (B, 0) := by
            rw [HRJ.out, join, if_neg (by rw [HJ0.out]; simp)]
            have : jb L = B := by rw [HB.out, List.take_length]; rfl
            rw [this, if_neg (by omega)]
          have HR0 : Hid (R = (B, 0)) := hR0
          clear hR0
          go_wp2_with fail
          go_ret2
          rw [HR0.out]
          exact ⟨_, rfl, HH.out.reads, HG.out.trans ⟨HH.out.below, HH.out.2.2⟩⟩
end Go.Proofs.Ytclamdpbdafmcaa
