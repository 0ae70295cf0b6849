/-
  The draft's place of a new group; no statement is proved here.
-/
import Derived.Test.YthchhehmbldmdaaDoorPlc
namespace Go.Proofs.YthchhehmbldmdaaDoor
open Go.RowKit
set_option linter.unusedVariables false
set_option linter.unusedSimpArgs false

/- An append of one element inside a region that draws, and where it then lies. -/
theorem step_app1a {ops : Array Oper} {o : Oper} {a : Act} {w : World} {K : Act → World → Prop} {Q : Exit → Act → World → Prop} {E : Prop} (hgd : o.guard = none) (s x : Operand) (t e : TypeId) (k bytes : Nat) (z : Value)
    (hu : Tryd.prog.underlying t = some (.slice e)) (hi : (Tryd.prog.info? e).map (fun i => (i.zero, i.size, i.bytes)) = some (some z, k, bytes)) (hz : z.cells.size = k) (hk : 0 < k) (hbt : bytes ≤ 1000)
    (ho : o.op = .call { callee := .builtin .append, args := #[s, x], argTypes := #[t, t] }) {B : Nat} {v : Value} {n : Nat} {cs new : List Value} {gx cp : Nat}
    (hs : a.eval s = v) (hx : a.eval x = .slice (some ⟨gx, 0, none⟩) 1 cp) (hh : w.ownsRow B e k v n cs) (hB : B ≤ w.heap.size) (hsz : new.length = k) (hc : ∀ j, j < k → w.cell? ⟨gx, j, none⟩ = new[j]?) (h1 : ∀ u ∈ new, u.oneCell' = true) (hn : n ≤ 4194304)
    (h : ∀ v' w', w'.ownsRow B e k v' (n + 1) (cs ++ new) → TurnP (fun g => v.ownBlock = some g) w w' → (v'.ownBlock = v.ownBlock ∨ ∃ g, v'.ownBlock = some g ∧ w.heap.size ≤ g) → K (a.put o.dst v') w') :
    if Region.wanted o (yielded ops a.tmps) = true then Oper.wp Tryd.prog o a w K Q else E := by
  have hw : Region.wanted o (yielded ops a.tmps) = true := by simp [Region.wanted, hgd]
  rw [if_pos hw]
  obtain ⟨i0, hi0, hz0, hz1, hz2⟩ := info_parts hi
  obtain ⟨v', w', hr, h2, h3, h4, h5⟩ := run_append_own_at (P := Tryd.prog) w B t o.type e i0 z k bytes hu hi0 hz0 hz1 hz2 hz hk v n cs hh ⟨gx, 0, none⟩ 1 cp new (by omega) (by
    intro j u hj
    have hjl := (List.getElem?_eq_some_iff.1 hj).1
    have e1 : (Addr.add ⟨gx, 0, none⟩ j) = ⟨gx, j, none⟩ := by unfold Addr.add; split <;> simp_all
    rw [e1, hc j (by omega)]
    exact hj) h1 (by unfold maxLen; omega) (by
    have : (n + 1) * bytes ≤ 4194305 * 1000 := Nat.mul_le_mul (by omega) hbt
    omega) hB
  unfold Oper.wp execOp
  simp only [ho, resolve, invoke, builtin, Sem.run_bind, Sem.run_pure, Result.andThen_ok, List.map_toArray, List.map_cons, List.map_nil, hs, hx, hr]
  exact h v' w' h2 ⟨h3.os, h3.tape, h3.output, h3.size, fun y hy hne => h3.block y hy (fun hx => hne hx.symm)⟩ (h5.imp id (fun e => ⟨_, e, Nat.le_refl _⟩))
set_option maxRecDepth 100000 in
set_option maxHeartbeats 2000000 in
theorem place_new {W : World} {db kb fb nk nf : Nat} {f0 f1 : FM} {gv u : Value} {c m : Int} {k : List UInt8} {n : Nat} {ex : Bool} (hd : W.heap[db]? = some (dobj kb fb gv c m)) (h0 : MapF W kb nk f0) (h1 : MapF W fb nf f1) (hz : f0 k = none) (hf : f1 k = none) (hc0 : 0 ≤ c) (hc1 : c ≤ 4194304) (hm0 : 0 ≤ m) (hm1 : m ≤ 9223372036854775807) (hn : n ≤ 1048576) (hno : (n : Int) ≤ m - c) (hne : kb ≠ fb) (hnf : nf ≤ 2097152) {cs : List Value} {gn : Nat} (hrow : W.ownsRow 0 38 2 gv gn cs) (hgn : gn ≤ 2097152) (hkl : k.length ≤ 140000000) (hu : ∃ a cc, u = .slice a n cc)
    (ct : ∀ w', Grew W w' → Calls Tryd.prog 57 #[.agg #[u, .bool ex]] w' fun en w'' => ∃ s : ByteArray, en = .returned (.string s) ∧ s.data.toList = k ∧ Grew w' w'') :
    Calls Tryd.prog 41 #[.pointer (some ⟨db, 0, none⟩), .agg #[u, .bool ex]] W fun en w' => ∃ gv', en = .returned (.tuple #[.int .i64 c, .bool true]) ∧ w'.heap[db]? = some (dobj kb fb gv' (c + (n : Int)) m) ∧ MapF w' fb (nf + 1) (putF f1 k c) ∧ w'.ownsRow 0 38 2 gv' (gn + 1) (cs ++ [u, .bool ex]) ∧ TurnP (fun x => x = db ∨ x = fb ∨ gv.ownBlock = some x) W w' ∧ (gv'.ownBlock = gv.ownBlock ∨ ∃ g, gv'.ownBlock = some g ∧ W.heap.size ≤ g) := by
  obtain ⟨ua, uc, rfl⟩ := hu
  obtain ⟨ga, gc, hgv, _⟩ := row_max hrow
  subst hgv
  have HRW : Hid (W.ownsRow 0 38 2 (.slice ga gn gc) gn cs) := hrow
  clear hrow
  have CT : Hid (∀ w', Grew W w' → Calls Tryd.prog 57 #[.agg #[.slice ua n uc, .bool ex]] w' fun en w'' => ∃ s : ByteArray, en = .returned (.string s) ∧ s.data.toList = k ∧ Grew w' w'') := ct
  have HD : Hid (W.heap[db]? = some (dobj kb fb (.slice ga gn gc) c m)) := hd
  have H0 : Hid (MapF W kb nk f0) := h0
  have H1 : Hid (MapF W fb nf f1) := h1
  have HV : Hid (f1 k = none) := hf
  have HZ : Hid (f0 k = none) := hz
  clear ct hd h0 h1 hf hz
  go_enter Tryd.func41, Tryd.ntmps41
  go_wp2_with fail
  refine (CT.out _ (by first | exact Grew.refl W | exact (Grew.refl W).alloc _)).mono ?_
  rintro en w1 ⟨s, rfl, hs, g1⟩
  have G1 : Hid (Grew W w1) := by first | exact g1 | exact ((Grew.refl W).alloc _).trans g1
  have D1 := G1.out.other HD.out
  have c0 := cell_of D1 0
  have c1 := cell_of D1 1
  have c2 := cell_of D1 2
  have c3 := cell_of D1 3
  have c4 := cell_of D1 4
  simp at c0 c1 c2 c3 c4
  have hdl := lt_of_obj D1
  have hss : s.size ≤ maxLen := by
    have : s.data.toList.length = s.size := by simp
    rw [hs] at this
    unfold maxLen
    omega
  have BR : w1.heap[W.heap.size]? = some (.cells #[.slice ua n uc, .bool ex] 38 (0, 0)) := g1.other (heap_alloc_last _ _)
  have r0 := cell_of BR 0
  have r1 := cell_of BR 1
  simp at r0 r1
  have hrl := lt_of_obj BR
  have HB1 : Hid (w1.heap[W.heap.size]? = some (.cells #[.slice ua n uc, .bool ex] 38 (0, 0))) := BR
  have HD1 : Hid (w1.heap[db]? = some (dobj kb fb (.slice ga gn gc) c m)) := D1
  have hfl : fb < W.heap.size := H1.out.lt
  have hdf : db ≠ fb := fun e => by
    obtain ⟨es, ck, he⟩ := H1.out.obj
    rw [← e, HD.out] at he
    cases he
  have hof : ∀ g, (Value.slice ga gn gc).ownBlock = some g → g ≠ fb ∧ g ≠ db ∧ g < W.heap.size := fun g hg => by
    obtain ⟨cur, hc⟩ := row_tag HRW.out hg
    refine ⟨fun e => ?_, fun e => ?_, (HRW.out.lt g hg).2⟩
    · obtain ⟨es, ck, he⟩ := H1.out.obj
      rw [← e, hc] at he
      cases he
    · rw [e, HD.out] at hc
      unfold dobj at hc
      injection hc with hc
      injection hc with _ hc _
      revert hc; decide
  have HOF : Hid (∀ g, (Value.slice ga gn gc).ownBlock = some g → g ≠ fb ∧ g ≠ db ∧ g < W.heap.size) := hof
  clear g1 D1 CT BR hof
  go_wp2_with fail
  go_region
  all_goals go_wp2_with fail
  all_goals
    refine wp_loop_rounds 3 ?_
    rw [rounds_succ]
    go_wp2_with (at_lookup; refine wp_look_none rfl _ _ rfl rfl (H0.out.grew (by repeat (first | exact G1.out | refine Grew.alloc ?_ _ | refine Grew.drew ?_ | refine Grew.drewN ?_ _))) hss rfl (by rw [hs]; exact HZ.out) ?_)
    rw [rounds_succ]
    go_wp2_with (at_lookup; refine wp_look_none rfl _ _ rfl rfl (H1.out.grew (by repeat (first | exact G1.out | refine Grew.alloc ?_ _ | refine Grew.drew ?_ | refine Grew.drewN ?_ _))) hss rfl (by rw [hs]; exact HV.out) ?_)
    rw [rounds_succ]
    go_wp2_with fail
    have GX : Grew w1 ((((w1.alloc (.cells #[.map (some kb), .map (some fb)] 48)).alloc (.cells #[.map (some kb)] 48)).alloc (.cells #[.map (some fb)] 48)).drew) := ((((Grew.refl w1).alloc _).alloc _).alloc _).drew
    generalize ((((w1.alloc (.cells #[.map (some kb), .map (some fb)] 48)).alloc (.cells #[.map (some kb)] 48)).alloc (.cells #[.map (some fb)] 48)).drew) = X at *
    have x3 := cell_grew c3 GX
    have x4 := cell_grew c4 GX
    have y0 := cell_grew r0 GX
    have y1 := cell_grew r1 GX
    have hxl := Nat.lt_of_lt_of_le hdl GX.2
    have hxr := Nat.lt_of_lt_of_le hrl GX.2
    have x0 := cell_grew c0 GX
    have x1 := cell_grew c1 GX
    have x2 := cell_grew c2 GX
    have dn : decide (m - c < (n : Int)) = false := by simp; omega
    have DX : Hid (X.heap[db]? = some (dobj kb fb (.slice ga gn gc) c m)) := GX.other HD1.out
    have BX' : Hid (X.heap[W.heap.size]? = some (.cells #[.slice ua n uc, .bool ex] 38 (0, 0))) := GX.other HB1.out
    have GWX : Hid (Grew W X) := G1.out.trans GX
    have hWX : W.heap.size ≤ X.heap.size := GWX.out.2
    have hdW : db < W.heap.size := lt_of_obj HD.out
    clear GX c0 c1 c2 c3 c4 r0 r1 hdl hrl HB1 HD1
    go_region
    all_goals go_wp2_with (at_mapUpdate; refine wp_put rfl _ _ _ rfl rfl (H1.out.grew (by repeat (first | exact GWX.out | refine Grew.alloc ?_ _ | refine Grew.drew ?_ | refine Grew.drewN ?_ _))) (by unfold maxLen; omega) hss rfl rfl (by simp [Lit.wf, IntKind.min, IntKind.max, IntKind.signed, IntKind.bits]; omega) ?_; intro w2 hM2 hg2)
    have k2 : ∀ x, x < X.heap.size → x ≠ fb → w2.heap[x]? = X.heap[x]? := fun x hx hne => hg2.block x (by simpa using hx) (fun e => hne (by injection e))
    have D2 : w2.heap[db]? = some (dobj kb fb (.slice ga gn gc) c m) := (k2 db (by omega) hdf).trans DX.out
    have B2 : w2.heap[W.heap.size]? = some (.cells #[.slice ua n uc, .bool ex] 38 (0, 0)) := (k2 _ hxr (by omega)).trans BX'.out
    have hz2 : X.heap.size ≤ w2.heap.size := by have := hg2.size; simpa using this
    have d0 := cell_of D2 0
    have d1 := cell_of D2 1
    have d2 := cell_of D2 2
    have d3 := cell_of D2 3
    have d4 := cell_of D2 4
    have z2 := free_of D2 2
    have z3 := free_of D2 3
    have b0 := cell_of B2 0
    have b1 := cell_of B2 1
    simp at d0 d1 d2 d3 d4 b0 b1
    have RW2 : w2.ownsRow 0 38 2 (.slice ga gn gc) gn cs := row_same (row_grew HRW.out GWX.out) (fun g hg => k2 g (by have := (HOF.out g hg).2.2; omega) (HOF.out g hg).1)
    have T2 : Hid (TurnP (fun x => x = fb) W w2) := ⟨hg2.os.trans GWX.out.1.os, hg2.tape.trans GWX.out.1.tape, hg2.output.trans GWX.out.1.output, by omega, fun x hx hne => (k2 x (by omega) hne).trans (GWX.out.1.block x hx)⟩
    have M2 : Hid (MapF w2 fb (nf + 1) (putF f1 s.data.toList c)) := hM2
    have HRW2 : Hid (w2.ownsRow 0 38 2 (.slice ga gn gc) gn cs) := RW2
    have HB2 : Hid (w2.heap[W.heap.size]? = some (.cells #[.slice ua n uc, .bool ex] 38 (0, 0))) := B2
    have HD2 : Hid (w2.heap[db]? = some (dobj kb fb (.slice ga gn gc) c m)) := D2
    have hWw : W.heap.size < w2.heap.size := lt_of_obj B2
    have hdw : db < w2.heap.size := lt_of_obj D2
    clear k2 D2 B2 hM2 hg2 RW2 DX BX' GWX H0 H1 x0 x1 x2 x3 x4 y0 y1
    go_region_law (first
      | (refine step_app1a (v := .slice ga gn gc) (n := gn) (cs := cs) (B := 0) (new := [.slice ua n uc, .bool ex]) (gx := w2.heap.size) rfl _ _ 22 38 2 32 _ Tryd.underlying22 infoR rfl (by decide) (by decide) rfl rfl rfl (row_grew HRW2.out (by first | exact ((Grew.refl w2).alloc _).drew | exact ((Grew.refl w2).drew).alloc _ | exact (Grew.refl w2).alloc _)) (Nat.zero_le _) rfl ?_ (by simp [Value.oneCell']) (by omega) ?_
         · intro j' hj'
           first | exact cell_of (heap_alloc_last w2 _) j' | (simp; done)
         intro v3 w3 hO3 hT3 hL3
         obtain ⟨a3, q3, ev3, _⟩ := row_max hO3
         subst ev3
         have hz3 : w2.heap.size ≤ w3.heap.size := by have := hT3.size; simp at this; omega
         have k3 : ∀ x, x < w2.heap.size → (Value.slice ga gn gc).ownBlock ≠ some x → w3.heap[x]? = w2.heap[x]? := fun x hx hne => (hT3.block x (by simp; omega) hne).trans (Below.heap_alloc _ _ _ hx)
         have D3 : w3.heap[db]? = some (dobj kb fb (.slice ga gn gc) c m) := (k3 db hdw (fun e => (HOF.out db e).2.1 rfl)).trans HD2.out
         have B3 : w3.heap[W.heap.size]? = some (.cells #[.slice ua n uc, .bool ex] 38 (0, 0)) := (k3 _ hWw (fun e => by have := (HOF.out _ e).2.2; omega)).trans HB2.out
         have e0 := cell_of D3 0
         have e1 := cell_of D3 1
         have e2 := cell_of D3 2
         have e3 := cell_of D3 3
         have e4 := cell_of D3 4
         have y2 := free_of D3 2
         have y3 := free_of D3 3
         have f0' := cell_of B3 0
         have f1' := cell_of B3 1
         simp at e0 e1 e2 e3 e4 f0' f1'
         have HB3 : Hid (w3.heap[W.heap.size]? = some (.cells #[.slice ua n uc, .bool ex] 38 (0, 0))) := B3
         have HD3 : Hid (w3.heap[db]? = some (dobj kb fb (.slice ga gn gc) c m)) := D3
         have O3 : Hid (w3.ownsRow 0 38 2 (.slice a3 (gn + 1) q3) (gn + 1) (cs ++ [.slice ua n uc, .bool ex])) := hO3
         have M3 : Hid (MapF w3 fb (nf + 1) (putF f1 s.data.toList c)) := M2.out.same (k3 fb (by omega) (fun e => (HOF.out fb e).1 rfl))
         have T3 : Hid (TurnP (fun x => x = db ∨ x = fb ∨ (Value.slice ga gn gc).ownBlock = some x) W w3) := (T2.out.mono (fun x _ hx => Or.inr (Or.inl hx))).trans ⟨hT3.os, hT3.tape, hT3.output, hz3, fun x hx hne => k3 x hx (fun e => hne (Or.inr (Or.inr e)))⟩
         have L3 : Hid ((Value.slice a3 (gn + 1) q3).ownBlock = (Value.slice ga gn gc).ownBlock ∨ ∃ g, (Value.slice a3 (gn + 1) q3).ownBlock = some g ∧ W.heap.size ≤ g) := hL3.imp id (fun ⟨g, h1, h2⟩ => ⟨g, h1, by simp at h2; omega⟩)
         have hdw3 : db < w3.heap.size := lt_of_obj D3
         have hWw3 : W.heap.size < w3.heap.size := lt_of_obj B3
         have hfr : fb < w3.heap.size := by omega
         clear hO3 hT3 hL3 k3 D3 B3))
    all_goals go_wp2_with fail
    all_goals
      have D4 : (w3.setCell ⟨db, 2, none⟩ (.slice a3 (gn + 1) q3)).heap[db]? = some (dobj kb fb (.slice a3 (gn + 1) q3) c m) := heap_set HD3.out 2 _
      have T4 : TurnP (fun x => x = db ∨ x = fb ∨ (Value.slice ga gn gc).ownBlock = some x) w3 (w3.setCell ⟨db, 2, none⟩ (.slice a3 (gn + 1) q3)) := (TurnP.refl (fun x => x = db ∨ x = fb ∨ (Value.slice ga gn gc).ownBlock = some x) w3).set (p := ⟨db, 2, none⟩) (Or.inl rfl) _
      have K4 : ∀ x, x ≠ db → (w3.setCell ⟨db, 2, none⟩ (.slice a3 (gn + 1) q3)).heap[x]? = w3.heap[x]? := fun x hx => Below.heap_setCell _ _ _ _ hx
      have S4 : (w3.setCell ⟨db, 2, none⟩ (.slice a3 (gn + 1) q3)).heap.size = w3.heap.size := by simp [World.setCell]
      generalize w3.setCell ⟨db, 2, none⟩ (.slice a3 (gn + 1) q3) = w4 at *
      have B4 : w4.heap[W.heap.size]? = some (.cells #[.slice ua n uc, .bool ex] 38 (0, 0)) := (K4 _ (by omega)).trans HB3.out
      have p0 := cell_of D4 0
      have p1 := cell_of D4 1
      have p2 := cell_of D4 2
      have p3 := cell_of D4 3
      have p4 := cell_of D4 4
      have o3 := free_of D4 3
      have l0 := cell_of B4 0
      have l1 := cell_of B4 1
      simp at p0 p1 p2 p3 p4 l0 l1
      have hd4 : db < w4.heap.size := lt_of_obj D4
      have hW4 : W.heap.size < w4.heap.size := lt_of_obj B4
      have HD4 : Hid (w4.heap[db]? = some (dobj kb fb (.slice a3 (gn + 1) q3) c m)) := D4
      have M4 : Hid (MapF w4 fb (nf + 1) (putF f1 s.data.toList c)) := M3.out.same (K4 fb (fun e => hdf e.symm))
      have O4 : Hid (w4.ownsRow 0 38 2 (.slice a3 (gn + 1) q3) (gn + 1) (cs ++ [.slice ua n uc, .bool ex])) := row_same O3.out (fun g hg => K4 g (fun e => by
        obtain ⟨cur, hc⟩ := row_tag O3.out hg
        rw [e, HD3.out] at hc
        unfold dobj at hc
        injection hc with hc
        injection hc with _ hc _
        revert hc; decide))
      have TT4 : Hid (TurnP (fun x => x = db ∨ x = fb ∨ (Value.slice ga gn gc).ownBlock = some x) W w4) := T3.out.trans T4
      clear D4 T4 K4 S4 B4 M3 O3 T3 HD3 e0 e1 e2 e3 e4 y2 y3 f0' f1' HB3
      go_region
      all_goals go_wp2_with fail
      all_goals go_ret2
      all_goals
        have tp : TurnP (fun x => x = db ∨ x = fb ∨ (Value.slice ga gn gc).ownBlock = some x) w4 (w4.setCell ⟨db, 3, none⟩ (.int .i64 (c + (n : Int)))) := (TurnP.refl (fun x => x = db ∨ x = fb ∨ (Value.slice ga gn gc).ownBlock = some x) w4).set (p := ⟨db, 3, none⟩) (Or.inl rfl) _
        have kp : ∀ x, x ≠ db → (w4.setCell ⟨db, 3, none⟩ (.int .i64 (c + (n : Int)))).heap[x]? = w4.heap[x]? := fun x hx => Below.heap_setCell _ _ _ _ hx
        refine ⟨_, rfl, ?_, ?_, ?_, (TT4.out.trans tp).drew, L3.out⟩
        · exact heap_set HD4.out 3 (.int .i64 (c + (n : Int)))
        · have := M4.out.same (kp fb (fun e => hdf e.symm))
          rw [hs] at this
          exact this
        · exact row_same O4.out (fun g hg => kp g (fun e => by
            obtain ⟨cur, hc⟩ := row_tag O4.out hg
            rw [e, HD4.out] at hc
            unfold dobj at hc
            injection hc with hc
            injection hc with _ hc _
            revert hc; decide))
end Go.Proofs.YthchhehmbldmdaaDoor
