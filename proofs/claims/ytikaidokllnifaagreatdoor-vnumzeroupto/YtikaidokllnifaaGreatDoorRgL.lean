/-
  A range over a function of an order's own: a contract for iterators and a law for their callers; no statement is proved here.
-/
import Derived.Test.YtikaidokllnifaaGreatDoorIdsI
import Derived.RangeFuncNested
import Derived.RangeFuncBound
import Derived.RangeFuncCalls
import Derived.RangeFuncLeaves
import Derived.Shelf.Abstract
import Derived.Shelf.RegionOpen
import Derived.OwnWalkIn
import Derived.TacticsInMore
import Derived.LoopNIn
import Derived.LoopIn
set_option maxRecDepth 100000
set_option maxHeartbeats 8000000
namespace Go.Proofs.YtikaidokllnifaaGreatDoor
open Go.RowKit
set_option linter.unusedVariables false
set_option linter.unusedSimpArgs false
def pc (p : Nat × Nat) : List Value := [.pointer (some ⟨p.1, p.2, none⟩)]
/- A row of pointers to these types. -/
def PtS (B : Nat) (w0 w : World) (v : Value) (l : List SB) : Prop := ∃ ps : List (Nat × Nat), ps.length = l.length ∧ w.ownsRow B 140 1 v l.length (ps.flatMap pc) ∧ ∀ (i : Nat) (p : Nat × Nat) (x : SB), ps[i]? = some p → l[i]? = some x → ES w0 p.1 p.2 x
def flatT (L : List RT) : List SB := L.flatMap RT.types
def oobj (v tv iv : Value) : Obj := .cells #[v, tv, iv] 248 (0, 0)
/- An append of one element inside a region that draws, and where it then lies. -/
theorem step_app1a {ops : Array Oper} {o : Oper} {a : Act} {w : World} {K : Act → World → Prop} {Q : Exit → Act → World → Prop} {E : Prop} (hgd : o.guard = none) (s x : Operand) (t e : TypeId) (k bytes : Nat) (z : Value)
    (hu : Tryz.prog.underlying t = some (.slice e)) (hi : (Tryz.prog.info? e).map (fun i => (i.zero, i.size, i.bytes)) = some (some z, k, bytes)) (hz : z.cells.size = k) (hk : 0 < k) (hbt : bytes ≤ 1000)
    (ho : o.op = .call { callee := .builtin .append, args := #[s, x], argTypes := #[t, t] }) {B : Nat} {v : Value} {n : Nat} {cs new : List Value} {gx cp : Nat}
    (hs : a.eval s = v) (hx : a.eval x = .slice (some ⟨gx, 0, none⟩) 1 cp) (hh : w.ownsRow B e k v n cs) (hB : B ≤ w.heap.size) (hsz : new.length = k) (hc : ∀ j, j < k → w.cell? ⟨gx, j, none⟩ = new[j]?) (h1 : ∀ u ∈ new, u.oneCell' = true) (hn : n ≤ 4194304)
    (h : ∀ v' w', w'.ownsRow B e k v' (n + 1) (cs ++ new) → TurnP (fun g => v.ownBlock = some g) w w' → (v'.ownBlock = v.ownBlock ∨ ∃ g, v'.ownBlock = some g ∧ w.heap.size ≤ g) → K (a.put o.dst v') w') :
    if Region.wanted o (yielded ops a.tmps) = true then Oper.wp Tryz.prog o a w K Q else E := by
  have hw : Region.wanted o (yielded ops a.tmps) = true := by simp [Region.wanted, hgd]
  rw [if_pos hw]
  obtain ⟨i0, hi0, hz0, hz1, hz2⟩ := info_parts hi
  obtain ⟨v', w', hr, h2, h3, h4, h5⟩ := run_append_own_at (P := Tryz.prog) w B t o.type e i0 z k bytes hu hi0 hz0 hz1 hz2 hz hk v n cs hh ⟨gx, 0, none⟩ 1 cp new (by omega) (by
    intro j u hj
    have hjl := (List.getElem?_eq_some_iff.1 hj).1
    have e1 : (Addr.add ⟨gx, 0, none⟩ j) = ⟨gx, j, none⟩ := by unfold Addr.add; split <;> simp_all
    rw [e1, hc j (by omega)]
    exact hj) h1 (by unfold maxLen; omega) (by
    have : (n + 1) * bytes ≤ 4194305 * 1000 := Nat.mul_le_mul (by omega) hbt
    omega) hB
  unfold Oper.wp execOp
  simp only [ho, resolve, invoke, builtin, Sem.run_bind, Sem.run_pure, Result.andThen_ok, List.map_toArray, List.map_cons, List.map_nil, hs, hx, hr]
  exact h v' w' h2 ⟨h3.os, h3.tape, h3.output, h3.size, fun y hy hne => h3.block y hy (fun hx => hne hx.symm)⟩ (h5.imp id (fun e => ⟨_, e, Nat.le_refl _⟩))
theorem flat_cnt : ∀ L : List RT, (flatT L).length = cntT L
  | [] => rfl
  | r :: L => by
    have h := flat_cnt L
    unfold flatT at h ⊢
    rw [List.flatMap_cons, List.length_append, h]
    rfl
theorem infoP : (Tryz.prog.info? 140).map (fun i => (i.zero, i.size, i.bytes)) = some (some (.pointer none), 1, 8) := by kernel_rfl
theorem newOrder_any {w : World} {v : Value} {L : List RT} (h : LR w v L) (hf : Fit L) :
    Calls Tryz.prog 204 #[v] w fun en w' => ∃ ob tv, en = .returned (.pointer (some ⟨ob, 0, none⟩)) ∧ w.heap.size ≤ ob ∧ w'.heap[ob]? = some (oobj v tv NILS) ∧ PtS w.heap.size w w' tv (flatT L) ∧ Grew w w' := by
  have CC : Hid (∀ W, Grew w W → Calls Tryz.prog 189 #[v] W fun en w' => en = .returned (.int .i64 (cntT L : Int)) ∧ Grew W w') := fun W g => count_any (h.grew g) hf.sml.1 hf.sml.2.1
  have hc := hf.sml.2.1
  have hL1 := hf.sml.1
  have H : Hid (LR w v L) := h
  have HF : Hid (Fit L) := hf
  obtain ⟨va, vc, ev, _⟩ := h.one
  subst ev
  clear h hf
  go_enter Tryz.func204, Tryz.ntmps204
  go_wp2_with fail
  refine (CC.out w (Grew.refl w)).mono ?_
  rintro en w1 ⟨rfl, g1⟩
  have G1 : Hid (Grew w w1) := g1
  clear g1 CC
  obtain ⟨i0, hi0, hz0, hz1, hz2⟩ := info_parts infoP
  go_wp2_with (at_make; refine wpList_make_own _ rfl _ _ 246 rfl w.heap.size 140 i0 (.pointer none) 1 Tryz.underlying246 hi0 hz0 hz1 .i64 .i64 _ (cntT L) rfl rfl rfl (by rw [hz2]; omega) (by unfold maxLen; omega) G1.out.2 ?_; intro w2 hO2 hg2)
  have B3 : (w2.alloc (.cells #[.slice va L.length vc, .slice (some ⟨w1.heap.size, 0, none⟩) 0 (cntT L), NILS] 248)).heap[w2.heap.size]? = some (oobj (.slice va L.length vc) (.slice (some ⟨w1.heap.size, 0, none⟩) 0 (cntT L)) NILS) := heap_alloc_last _ _
  have g2 : Grew w1 w2 := ⟨⟨hg2.os, hg2.tape, hg2.output, hg2.size, fun k hk => hg2.block k hk (fun e => by cases e)⟩, hg2.size⟩
  have g3 : Grew w2 (w2.alloc (.cells #[.slice va L.length vc, .slice (some ⟨w1.heap.size, 0, none⟩) 0 (cntT L), NILS] 248)) := (Grew.refl w2).alloc _
  have R3 : Hid (PtS w.heap.size w (w2.alloc (.cells #[.slice va L.length vc, .slice (some ⟨w1.heap.size, 0, none⟩) 0 (cntT L), NILS] 248)) (.slice (some ⟨w1.heap.size, 0, none⟩) 0 (cntT L)) (flatT (L.take 0))) := ⟨[], rfl, row_grew hO2 g3, fun i p x h => by cases h⟩
  generalize hW3 : (w2.alloc (.cells #[.slice va L.length vc, .slice (some ⟨w1.heap.size, 0, none⟩) 0 (cntT L), NILS] 248)) = w3 at *
  have G3 : Hid (Grew w w3) := (G1.out.trans g2).trans g3
  have hob : w.heap.size ≤ w2.heap.size := Nat.le_trans G1.out.2 g2.2
  have HB3 : Hid (w3.heap[w2.heap.size]? = some (oobj (.slice va L.length vc) (.slice (some ⟨w1.heap.size, 0, none⟩) 0 (cntT L)) NILS)) := B3
  clear hW3 B3 g2 g3 hO2 hg2 hi0 hz0 hz1 hz2
  generalize w2.heap.size = ob at *
  generalize (Value.slice (some ⟨w1.heap.size, 0, none⟩) 0 (cntT L)) = tv0 at *
  go_loopw [15] (fun i_ w' => ∃ (i : Nat) (tv : Value), i_ = .int .i64 i ∧ i ≤ L.length ∧ Hid (w'.heap[ob]? = some (oobj (.slice va L.length vc) tv NILS)) ∧ Hid (PtS w.heap.size w w' tv (flatT (L.take i))) ∧ Hid (Grew w w')) (fun i_ _ => L.length - (intOf i_).toNat)
  case atStart => exact ⟨0, tv0, rfl, Nat.zero_le _, HB3, R3, G3⟩
  case round =>
    clear HB3 R3 G3
    obtain ⟨i, tv, rfl, hi, HB, HR, HG⟩ := hrel
    obtain ⟨w4, hw4⟩ : ∃ w4, w4 = wr := ⟨_, rfl⟩
    rw [← hw4] at HB HR HG ⊢
    clear hw4
    by_cases hlt : i < L.length
    · obtain ⟨r, hr⟩ : ∃ r, L[i]? = some r := ⟨_, List.getElem?_eq_getElem hlt⟩
      obtain ⟨b, off, ha, hcp, hE⟩ := H.out.get (by omega)
      subst ha
      obtain ⟨ty, hty, c0, c1⟩ := hE i r hr
      obtain ⟨ta, tc, et, htc, _⟩ := hty.one
      subst et
      have d1 : decide ((i : Int) < (L.length : Int)) = true := by simp; omega
      have d2 : decide (i < L.length) = true := by simp; omega
      have c0' := cell_grew c0 HG.out
      have c1' := cell_grew c1 HG.out
      have hcc := cntT_take L (i + 1)
      rw [cntT_snoc hr] at hcc
      have HLS : Hid (LS w (.slice ta r.types.length tc) r.types) := hty
      have HFL : Hid (flatT (L.take (i + 1)) = flatT (L.take i) ++ r.types) := (by unfold flatT; rw [take_snoc hr, List.flatMap_append]; simp : flatT (L.take (i + 1)) = flatT (L.take i) ++ r.types)
      have HFC : Hid ((flatT (L.take i)).length = cntT (L.take i)) := flat_cnt _
      clear hE c0 c1 hty
      go_wp2_with fail
      have g5 : Grew w4 (w4.alloc (.cells #[.slice ta r.types.length tc, .bool r.explicit] 115)) := (Grew.refl w4).alloc _
      have R5 : Hid ((w4.alloc (.cells #[.slice ta r.types.length tc, .bool r.explicit] 115)).heap[w4.heap.size]? = some (.cells #[.slice ta r.types.length tc, .bool r.explicit] 115 (0, 0))) := heap_alloc_last _ _
      generalize (w4.alloc (.cells #[.slice ta r.types.length tc, .bool r.explicit] 115)) = w5 at *
      have hwb := HG.out.2
      have HB5 : Hid (w5.heap[ob]? = some (oobj (.slice (some ⟨b, off, none⟩) L.length vc) tv NILS)) := g5.other HB.out
      have HR5 : Hid (PtS w.heap.size w w5 tv (flatT (L.take i) ++ r.types.take 0)) := by
        obtain ⟨ps, h1, h2, h3⟩ := HR.out
        rw [List.take_zero, List.append_nil]
        exact ⟨ps, h1, row_grew h2 g5, h3⟩
      have HG5 : Hid (Grew w w5) := HG.out.trans g5
      clear g5 HB HR HG c0' c1'
      generalize w4.heap.size = rb at *
      generalize hX : flatT (L.take i) = X at *
      go_loopw [22] (fun j_ w' => ∃ (j : Nat) (tv : Value), j_ = .int .i64 j ∧ j ≤ r.types.length ∧ Hid (w'.heap[ob]? = some (oobj (.slice (some ⟨b, off, none⟩) L.length vc) tv NILS)) ∧ Hid (w'.heap[rb]? = some (.cells #[.slice ta r.types.length tc, .bool r.explicit] 115 (0, 0))) ∧ Hid (PtS w.heap.size w w' tv (X ++ r.types.take j)) ∧ Hid (Grew w w')) (fun j_ _ => r.types.length - (intOf j_).toNat)
      case atStart => exact ⟨0, tv, rfl, Nat.zero_le _, HB5, R5, HR5, HG5⟩
      case round =>
        clear HB5 R5 HR5 HG5
        obtain ⟨j, tv, rfl, hj, HB, HBR, HR, HG⟩ := hrel
        obtain ⟨w6, hw6⟩ : ∃ w6, w6 = wr := ⟨_, rfl⟩
        rw [← hw6] at HB HBR HR HG ⊢
        clear hw6
        by_cases hjl : j < r.types.length
        · obtain ⟨x, hx⟩ : ∃ x, r.types[j]? = some x := ⟨_, List.getElem?_eq_getElem hjl⟩
          obtain ⟨tb, to, hta, htcp, hTE⟩ := HLS.out.get (by omega)
          subst hta
          have HES : Hid (ES w tb (to + j * 6) x) := hTE j x hx
          obtain ⟨ps, h1, h2, h3⟩ := HR.out
          have hlen : (X ++ r.types.take j).length = X.length + j := by rw [List.length_append, List.length_take]; omega
          rw [hlen] at h1 h2
          obtain ⟨pa, pcp, epv, _⟩ := row_max h2
          subst epv
          have e1 : decide ((j : Int) < (r.types.length : Int)) = true := by simp; omega
          have e2 : decide (j < r.types.length) = true := by simp; omega
          have hjm : ((j : Nat) : Int) < (r.types.length : Int) := by omega
          have HPL : Hid (ps.length = X.length + j) := h1
          have HPR : Hid (w6.ownsRow w.heap.size 140 1 (.slice pa (X.length + j) pcp) (X.length + j) (ps.flatMap pc)) := h2
          have HPE : Hid (∀ (i : Nat) (p : Nat × Nat) (x : SB), ps[i]? = some p → (X ++ r.types.take j)[i]? = some x → ES w p.1 p.2 x) := h3
          have a0 := cell_of HB.out 0
          have a1 := cell_of HB.out 1
          have a2 := cell_of HB.out 2
          have z1 := free_of HB.out 1
          have r0 := cell_of HBR.out 0
          have r1 := cell_of HBR.out 1
          simp at a0 a1 a2 r0 r1
          have lo := lt_of_obj HB.out
          have lr := lt_of_obj HBR.out
          have hXb : X.length + j ≤ 1048576 := by rw [HFC.out]; omega
          clear h1 h2 h3 hTE hlen
          generalize hK : X.length + j = K at *
          go_wp2_with fail
          have hrb : rb < w6.heap.size := lr
          have hwo : w.heap.size ≤ w6.heap.size := HG.out.2
          go_region_law (first
            | (refine step_app1a (v := .slice pa K pcp) (n := K) (cs := ps.flatMap pc) (B := w.heap.size) (new := [.pointer (some ⟨tb, to + j * 6, none⟩)]) (gx := w6.heap.size) rfl _ _ 246 140 1 8 _ Tryz.underlying246 infoP rfl (by decide) (by decide) rfl rfl rfl (row_grew HPR.out (by first | exact ((Grew.refl w6).alloc _).drew | exact ((Grew.refl w6).drew).alloc _ | exact (Grew.refl w6).alloc _)) (by simp; omega) rfl ?_ (by simp [Value.oneCell']) (by omega) ?_
               · intro j' hj'
                 first | exact cell_of (heap_alloc_last w6 _) j' | exact cell_of (heap_alloc_last w6.drew _) j' | (simp; done)
               intro v7 w7 hO7 hT7 hL7
               obtain ⟨a7, q7, ev7, _⟩ := row_max hO7
               subst ev7
               have hz7 : w6.heap.size ≤ w7.heap.size := by have := hT7.size; simp at this; omega
               have hpo : ∀ g, (Value.slice pa K pcp).ownBlock = some g → w.heap.size ≤ g ∧ g ≠ ob := fun g hg => by
                 refine ⟨(HPR.out.lt g hg).1, fun e => ?_⟩
                 obtain ⟨cur, hcur⟩ := row_tag HPR.out hg
                 rw [e, HB.out] at hcur
                 unfold oobj at hcur
                 injection hcur with hcur
                 injection hcur with _ hcur _
                 revert hcur; decide
               have hpr : ∀ g, (Value.slice pa K pcp).ownBlock = some g → g ≠ rb := fun g hg e => by
                 obtain ⟨cur, hcur⟩ := row_tag HPR.out hg
                 rw [e, HBR.out] at hcur
                 injection hcur with hcur
                 injection hcur with _ hcur _
                 revert hcur; decide
               have k7 : ∀ x, x < w6.heap.size → (Value.slice pa K pcp).ownBlock ≠ some x → w7.heap[x]? = w6.heap[x]? := fun x hx hne => (hT7.block x (by simp; omega) hne).trans (Below.heap_alloc _ _ _ hx)
               have D7 : w7.heap[ob]? = some (oobj (.slice (some ⟨b, off, none⟩) L.length vc) (.slice pa K pcp) NILS) := (k7 ob lo (fun e => (hpo ob e).2 rfl)).trans HB.out
               have E7 : w7.heap[rb]? = some (.cells #[.slice (some ⟨tb, to, none⟩) r.types.length tc, .bool r.explicit] 115 (0, 0)) := (k7 rb lr (fun e => hpr rb e rfl)).trans HBR.out
               have f0 := cell_of D7 0
               have f1 := cell_of D7 1
               have f2 := cell_of D7 2
               have y1 := free_of D7 1
               have s0 := cell_of E7 0
               have s1 := cell_of E7 1
               simp at f0 f1 f2 s0 s1
               have HD7 : Hid (w7.heap[ob]? = some (oobj (.slice (some ⟨b, off, none⟩) L.length vc) (.slice pa K pcp) NILS)) := D7
               have HE7 : Hid (w7.heap[rb]? = some (.cells #[.slice (some ⟨tb, to, none⟩) r.types.length tc, .bool r.explicit] 115 (0, 0))) := E7
               have HO7 : Hid (w7.ownsRow w.heap.size 140 1 (.slice a7 (K + 1) q7) (K + 1) (ps.flatMap pc ++ [.pointer (some ⟨tb, to + j * 6, none⟩)])) := hO7
               have HG7 : Hid (Grew w w7) := ⟨⟨hT7.os.trans HG.out.1.os, hT7.tape.trans HG.out.1.tape, hT7.output.trans HG.out.1.output, by omega, fun x hx => (k7 x (by omega) (fun e => by have := (hpo x e).1; omega)).trans (HG.out.1.block x hx)⟩, by omega⟩
               have lo7 := lt_of_obj D7
               have lr7 := lt_of_obj E7
               clear hO7 hT7 hL7 k7 D7 E7 hpo hpr))
          all_goals go_wp2_with fail
          all_goals
            have hro : rb ≠ ob := fun e => by
              have h := HE7.out
              rw [e, HD7.out] at h
              unfold oobj at h
              injection h with h
              injection h with _ h _
              revert h; decide
            have kp : ∀ x, x ≠ ob → (w7.setCell ⟨ob, 1, none⟩ (.slice a7 (K + 1) q7)).heap[x]? = w7.heap[x]? := fun x hx => Below.heap_setCell _ _ _ _ hx
            have hX1 : X ++ r.types.take (j + 1) = (X ++ r.types.take j) ++ [x] := by rw [take_snoc hx, List.append_assoc]
            have hln : (X ++ r.types.take j).length = K := by rw [← hK, List.length_append, List.length_take]; omega
            refine ⟨⟨j + 1, .slice a7 (K + 1) q7, by go_num, by omega, heap_set HD7.out 1 _, (kp rb hro).trans HE7.out, ?_, ((TurnP.refl (fun x => x = ob) w7).set (p := ⟨ob, 1, none⟩) rfl _).grew HG7.out (fun x hx => by rw [hx]; exact hob)⟩, by simp [intOf]; omega⟩
            have hpts : PtS w.heap.size w (w7.setCell ⟨ob, 1, none⟩ (.slice a7 (K + 1) q7)) (.slice a7 (K + 1) q7) (X ++ r.types.take (j + 1)) := by
              rw [hX1]
              refine ⟨ps ++ [(tb, to + j * 6)], ?_, ?_, fun i' p' x' h1 h2 => ?_⟩
              · rw [List.length_append, List.length_append, HPL.out, hln]; rfl
              · rw [List.length_append, hln, List.flatMap_append]
                have hr7 := row_same HO7.out (fun g hg => kp g (fun e => by
                  obtain ⟨cur, hcur⟩ := row_tag HO7.out hg
                  rw [e, HD7.out] at hcur
                  unfold oobj at hcur
                  injection hcur with hcur
                  injection hcur with _ hcur _
                  revert hcur; decide))
                exact hr7
              · by_cases hi' : i' < K
                · rw [List.getElem?_append_left (by rw [HPL.out]; exact hi')] at h1
                  rw [List.getElem?_append_left (by rw [hln]; exact hi')] at h2
                  exact HPE.out i' p' x' h1 h2
                · have hi2 := (List.getElem?_eq_some_iff.1 h1).1
                  rw [List.length_append, HPL.out] at hi2
                  have hi3 : i' = K := by simp at hi2; omega
                  rw [List.getElem?_append_right (by rw [HPL.out]; omega), HPL.out, hi3, Nat.sub_self] at h1
                  rw [List.getElem?_append_right (by rw [hln]; omega), hln, hi3, Nat.sub_self] at h2
                  simp only [List.getElem?_cons_zero, Option.some.injEq] at h1 h2
                  subst h1 h2
                  exact HES.out
            exact hpts
        · have e1 : decide ((j : Int) < (r.types.length : Int)) = false := by simp; omega
          have htj : r.types.take j = r.types := List.take_of_length_le (by omega)
          have HR' : Hid (PtS w.heap.size w w6 tv (flatT (L.take (i + 1)))) := by have := HR.out; rw [htj] at this; rw [HFL.out]; exact this
          go_wp2_with fail
          go_roundw
          case rel => exact ⟨i + 1, tv, by go_num, by omega, HB, HR', HG⟩
          case measure => simp [intOf]; omega
    · have d1 : decide ((i : Int) < (L.length : Int)) = false := by simp; omega
      have htk : L.take i = L := List.take_of_length_le (by omega)
      have HR' : Hid (PtS w.heap.size w w4 tv (flatT L)) := by have := HR.out; rw [htk] at this; exact this
      go_wp2_with fail
      go_ret
      exact ⟨ob, tv, rfl, hob, HB.out, HR'.out, HG.out⟩
theorem oclosed_no {w : World} {v : Value} {L : List RT} (h : LR w v L) (hf : Fit L) (hc : closedP 0 L = false) :
    Calls Tryz.prog 181 #[v] w fun en w' => en = .returned (.tuple #[.pointer none, .bool false]) ∧ Grew w w' := by
  have C : Hid (Calls Tryz.prog 203 #[v] w fun en w' => ∃ p : Int, en = .returned (.tuple #[.int .i64 p, .int .i64 50]) ∧ Grew w w') := by
    have := closed_any h hf.sml
    rw [hc] at this
    exact this
  obtain ⟨va, vc, ev, _⟩ := h.one
  subst ev
  clear h hf hc
  go_enter Tryz.func181, Tryz.ntmps181
  go_wp2_with fail
  refine C.out.mono ?_
  rintro en w1 ⟨p, rfl, g1⟩
  have G1 : Hid (Grew w w1) := g1
  clear g1 C
  go_wp2_with fail
  go_ret2
  exact ⟨rfl, G1.out⟩
theorem PtS.at {B B' : Nat} {w0 w : World} {v : Value} {l : List SB} (h : PtS B w0 w v l) (g : Grew w0 w) (hB : B' ≤ B) : PtS B' w w v l := by
  obtain ⟨ps, h1, h2, h3⟩ := h
  exact ⟨ps, h1, row_low h2 hB, fun i p x a b => (h3 i p x a b).grew g⟩
theorem defines_any {w : World} {ob : Nat} {v iv : Value} {pa : Option Addr} {N pcp : Nat} {n : Int} (h : w.heap[ob]? = some (oobj v (.slice pa N pcp) iv)) :
    Calls Tryz.prog 213 #[.pointer (some ⟨ob, 0, none⟩), .int .i64 n] w fun en w' => en = .returned (.bool (decide (0 ≤ n) && decide (n < (N : Int)))) ∧ Grew w w' := by
  have c1 := cell_of h 1
  simp at c1
  have hl := lt_of_obj h
  clear h
  by_cases h0 : 0 ≤ n
  · have d0 : decide (0 ≤ n) = true := by simpa using h0
    by_cases h1 : n < (N : Int)
    · have d1 : decide (n < (N : Int)) = true := by simpa using h1
      rw [d0, d1]
      go_enter Tryz.func213, Tryz.ntmps213
      go_wp2_with fail
      go_ret
      exact ⟨rfl, Grew.refl _⟩
    · have d1 : decide (n < (N : Int)) = false := by simpa using h1
      rw [d0, d1]
      go_enter Tryz.func213, Tryz.ntmps213
      go_wp2_with fail
      go_ret
      exact ⟨rfl, Grew.refl _⟩
  · have d0 : decide (0 ≤ n) = false := by simpa using h0
    rw [d0]
    go_enter Tryz.func213, Tryz.ntmps213
    go_wp2_with fail
    go_ret
    exact ⟨rfl, Grew.refl _⟩
end Go.Proofs.YtikaidokllnifaaGreatDoor
namespace Go.Proofs.YtikaidokllnifaaGreatDoor
open Go.RowKit Go.Shelf
set_option linter.unusedVariables false
set_option linter.unusedSimpArgs false
/- What is no cells lies as it lay, but for X. -/
def KX (X : Nat → Prop) (A B : World) : Prop := A.heap.size ≤ B.heap.size ∧ ∀ (k : Nat) (o : Obj), A.heap[k]? = some o → o.isCells = false → ¬ X k → B.heap[k]? = some o
/- Cells lie as they lay, and so does all below N. -/
structure GN (N : Nat) (A B : World) : Prop where
  os : B.os = A.os
  tape : B.tape = A.tape
  output : B.output = A.output
  size : A.heap.size ≤ B.heap.size
  block : ∀ (k : Nat) (o : Obj), A.heap[k]? = some o → (k < N ∨ o.isCells = true) → B.heap[k]? = some o
/- Cells lie as they lay but for the order's object, of which the ids alone may turn. -/
def KC (ob : Nat) (A B : World) : Prop := (∀ (k : Nat) (o : Obj), k ≠ ob → A.heap[k]? = some o → o.isCells = true → B.heap[k]? = some o) ∧ ∀ v tv iv, A.heap[ob]? = some (oobj v tv iv) → ∃ iv', B.heap[ob]? = some (oobj v tv iv')
theorem KX.refl (X : Nat → Prop) (A : World) : KX X A A := ⟨Nat.le_refl _, fun _ _ h _ _ => h⟩
theorem KX.trans {X : Nat → Prop} {A B C : World} (h : KX X A B) (k : KX X B C) : KX X A C := ⟨Nat.le_trans h.1 k.1, fun i o h1 h2 h3 => k.2 i o (h.2 i o h1 h2 h3) h2 h3⟩
theorem KX.mono {X Y : Nat → Prop} {A B : World} (h : KX X A B) (hs : ∀ k, X k → Y k) : KX Y A B := ⟨h.1, fun i o h1 h2 h3 => h.2 i o h1 h2 (fun hx => h3 (hs i hx))⟩
theorem KX.put {X : Nat → Prop} (A : World) {l : Nat} (o : Obj) (h : X l) : KX X A (A.putObj l o) := ⟨by simp, fun i o' h1 _ h3 => (World.putObj_heap_other (fun e => h3 (by rw [e]; exact h))).trans h1⟩
theorem Grew.kx {A B : World} (g : Grew A B) (X : Nat → Prop) : KX X A B := ⟨g.2, fun k o h _ _ => g.other h⟩
theorem GN.refl (N : Nat) (A : World) : GN N A A := ⟨rfl, rfl, rfl, Nat.le_refl _, fun _ _ h _ => h⟩
theorem GN.trans {N : Nat} {A B C : World} (h : GN N A B) (k : GN N B C) : GN N A C := ⟨k.os.trans h.os, k.tape.trans h.tape, k.output.trans h.output, Nat.le_trans h.size k.size, fun i o h1 h2 => k.block i o (h.block i o h1 h2) h2⟩
theorem GN.mono {N M : Nat} {A B : World} (h : GN N A B) (hm : M ≤ N) : GN M A B := ⟨h.os, h.tape, h.output, h.size, fun i o h1 h2 => h.block i o h1 (h2.imp (fun h => by omega) id)⟩
theorem Grew.gn {A B : World} (g : Grew A B) (N : Nat) : GN N A B := ⟨g.1.os, g.1.tape, g.1.output, g.2, fun k o h _ => g.other h⟩
theorem GN.put {N : Nat} {A : World} {l : Nat} {o : Obj} (h : A.heap[l]? = some o) (ho : o.isCells = false) (hl : N ≤ l) (o' : Obj) : GN N A (A.putObj l o') :=
  ⟨rfl, rfl, rfl, by simp, fun k u h1 h2 => (World.putObj_heap_other (fun e => by
    subst e
    rw [h] at h1
    injection h1 with h1
    subst h1
    rcases h2 with h2 | h2
    · omega
    · rw [ho] at h2; cases h2)).trans h1⟩
theorem KC.refl (ob : Nat) (A : World) : KC ob A A := ⟨fun _ _ _ h _ => h, fun v tv iv h => ⟨iv, h⟩⟩
theorem KC.trans {ob : Nat} {A B C : World} (h : KC ob A B) (k : KC ob B C) : KC ob A C :=
  ⟨fun i o h0 h1 h2 => k.1 i o h0 (h.1 i o h0 h1 h2) h2, fun v tv iv h1 => by
    obtain ⟨iv', h2⟩ := h.2 v tv iv h1
    exact k.2 v tv iv' h2⟩
theorem GN.kc {N : Nat} {A B : World} (h : GN N A B) (ob : Nat) : KC ob A B := ⟨fun i o _ h1 h2 => h.block i o h1 (Or.inr h2), fun v tv iv h1 => ⟨iv, h.block _ _ h1 (Or.inr rfl)⟩⟩
theorem Grew.kc {A B : World} (g : Grew A B) (ob : Nat) : KC ob A B := (g.gn 0).kc ob
/- The contract of an iterator: what comes, one by one. -/
def SeqO (ob gf : Nat) (lb : Array Value) (xs : List Int) (w : World) : Prop :=
  ∀ (l : Nat) (X : Nat → Prop) (J Jx : List Int → World → Prop) (W : World), Grew w W → (∀ k, X k → k < W.heap.size) → (∀ s A B, J s A → GN W.heap.size A B → J s B) → (∀ s A B, Jx s A → GN W.heap.size A B → Jx s B) →
    (∀ pre x A, J pre A → (pre ++ [x]) <+: xs → YieldAt Fence.wide 0 Tryz.prog l #[.int .i64 x] A fun e B =>
      (e = .returned (.bool true) ∧ J (pre ++ [x]) B ∧ KC ob A B ∧ KX X A B) ∨ (e = .returned (.bool false) ∧ Jx (pre ++ [x]) B ∧ KX X A B)) →
    J [] W → Calls Tryz.prog gf (#[.func (.yield l) #[] #[]] ++ lb) W fun e B => (∃ v, e = .returned v) ∧ (J xs B ∨ ∃ pre, pre <+: xs ∧ Jx pre B)
/- How a body may be left. -/
def bpost (ob : Nat) (X : Nat → Prop) (I Ix : List Int → World → Prop) (xs : List Int) (A : World) : Exit → Act → World → Prop
  | .normal, _, B => KX X A B ∧ KC ob A B ∧ I xs B
  | .ret, _, B => KX X A B ∧ Ix xs B
  | _, _, _ => False
theorem range_core {ob gf l dv : Nat} {fn : FuncId} {lb : Array Value} {xs : List Int} {tmps : Array Value} {p : Tmp} {assign body : Code} {W1 : World} {X : Nat → Prop} {I Ix : List Int → World → Prop}
    (hl : W1.heap.size = l + 1) (hL : W1.heap[l]? = some (.loop { state := .ready, pending := none, fn := fn, tmps := tmps, params := #[p], assign := assign, body := body, defers := dv })) (hX : ∀ k, X k → k < l)
    (hseq : SeqO ob gf lb xs W1) (hI : ∀ s A B, I s A → GN l A B → I s B) (hIx : ∀ s A B, Ix s A → GN l A B → Ix s B) (h0 : I [] W1) (a1 : Int → Act)
    (ha : ∀ (x : Int) (W : World) (K : Act → World → Prop), K (a1 x) W → assign.wpIn (Fence.wide.inRound l) 0 Tryz.prog (Exit.then K (fun _ _ _ => False)) { tmps := tmps.setIfInBounds p (.int .i64 x), defers := [] } W)
    (hb : ∀ (pre : List Int) (x : Int) (A : World), I pre A → (pre ++ [x]) <+: xs → (∃ r, A.heap[l]? = some (.loop r)) → body.wpIn (Fence.wide.inRound l) 0 Tryz.prog (bpost ob X I Ix (pre ++ [x]) A) (a1 x) A) :
    Calls Tryz.prog gf (#[.func (.yield l) #[] #[]] ++ lb) W1 fun e B => (∃ v, e = .returned v) ∧ (∃ r c, B.heap[l]? = some (.loop r) ∧ r.state ≠ .busy ∧ r.pending = c ∧ ((c = none ∧ I xs B) ∨ ∃ pre, pre <+: xs ∧ c = some .ret ∧ Ix pre B)) := by
  obtain ⟨rec, hrec⟩ : ∃ rec : LoopState → Option Code → Loop, rec = fun st pe => { state := st, pending := pe, fn := fn, tmps := tmps, params := #[p], assign := assign, body := body, defers := dv } := ⟨_, rfl⟩
  have hL' : W1.heap[l]? = some (.loop (rec .ready none)) := by rw [hrec]; exact hL
  refine (hseq l (fun k => k = l ∨ X k) (fun pre A => I pre A ∧ A.heap[l]? = some (.loop (rec .ready none))) (fun pre A => Ix pre A ∧ A.heap[l]? = some (.loop (rec .done (some .ret)))) W1 (Grew.refl _) ?_ ?_ ?_ ?_ ⟨h0, hL'⟩).mono ?_
  · intro k hk
    rcases hk with rfl | hk
    · omega
    · have := hX k hk; omega
  · intro s A B hs hg
    exact ⟨hI s A B hs.1 (hg.mono (by omega)), hg.block _ _ hs.2 (Or.inl (by omega))⟩
  · intro s A B hs hg
    exact ⟨hIx s A B hs.1 (hg.mono (by omega)), hg.block _ _ hs.2 (Or.inl (by omega))⟩
  · rintro pre x A ⟨hi, hA⟩ hp
    have hy := run_yield (P := Tryz.prog) (args := #[.int .i64 x]) hA (by rw [hrec]; rfl)
    rw [hrec] at hy
    have hf : ((#[p] : Array Tmp).zip #[Value.int .i64 x]).foldl (fun t (q : Tmp × Value) => t.setIfInBounds q.1 q.2) tmps = tmps.setIfInBounds p (.int .i64 x) := by simp
    have hy' : (Instr.yield l #[.int .i64 x]).run Tryz.prog A = .ok (.round l fn (tmps.setIfInBounds p (.int .i64 x)) assign body) A := by rw [← hf]; exact hy
    refine ⟨fn, _, assign, body, hy', roundIn_of_wpIn trivial ?_⟩
    refine ha x A _ ?_
    refine ⟨_, run_beginRound hA (by rw [hrec]), ?_⟩
    have hlt := (Array.getElem?_eq_some_iff.1 hA).1
    have hB0 : ∀ o, (A.putObj l o).heap[l]? = some o := fun o => World.putObj_heap_same hlt
    have hg0 : ∀ o, GN l A (A.putObj l o) := fun o => GN.put hA rfl (Nat.le_refl _) o
    have hk0 : ∀ o, KX (fun k => k = l ∨ X k) A (A.putObj l o) := fun o => KX.put A o (Or.inl rfl)
    refine wpIn_mono (hb pre x _ (hI _ _ _ hi (hg0 _)) hp ⟨_, hB0 _⟩) ?_
    intro e a3 B hq
    cases e with
    | normal =>
      obtain ⟨h1, h2, h3⟩ := hq
      have hBl := h1.2 l _ (hB0 _) rfl (fun hx => by have := hX l hx; omega)
      have hE := run_endRound (P := Tryz.prog) none hBl
      refine ⟨_, _, hE, Or.inl ⟨rfl, ⟨hI _ _ _ h3 (GN.put hBl rfl (Nat.le_refl _) _), ?_⟩, ?_, ?_⟩⟩
      · rw [hrec]
        exact World.putObj_heap_same (Array.getElem?_eq_some_iff.1 hBl).1
      · exact (((hg0 _).kc ob).trans h2).trans ((GN.put (N := l) hBl rfl (Nat.le_refl _) _).kc ob)
      · exact ((hk0 _).trans (h1.mono (fun k hk => Or.inr hk))).trans (KX.put B _ (Or.inl rfl))
    | ret =>
      obtain ⟨h1, h3⟩ := hq
      have hBl := h1.2 l _ (hB0 _) rfl (fun hx => by have := hX l hx; omega)
      have hE := run_endRound (P := Tryz.prog) (some .ret) hBl
      refine ⟨_, _, hE, Or.inr ⟨rfl, ⟨hIx _ _ _ h3 (GN.put hBl rfl (Nat.le_refl _) _), ?_⟩, ?_⟩⟩
      · rw [hrec]
        exact World.putObj_heap_same (Array.getElem?_eq_some_iff.1 hBl).1
      · exact ((hk0 _).trans (h1.mono (fun k hk => Or.inr hk))).trans (KX.put B _ (Or.inl rfl))
    | exit id => exact hq.elim
    | goto t => exact hq.elim
    | panic c => exact hq.elim
    | outgrown => exact hq.elim
  · rintro e B ⟨hv, ⟨h1, h2⟩ | ⟨pre, hp, h1, h2⟩⟩
    · exact ⟨hv, _, _, h2, by rw [hrec]; simp, rfl, Or.inl ⟨by rw [hrec], h1⟩⟩
    · exact ⟨hv, _, _, h2, by rw [hrec]; simp, rfl, Or.inr ⟨pre, hp, by rw [hrec], h1⟩⟩
/- The statement, at an outermost loop. -/
theorem wp_rangeO {ob gf : Nat} {lb : Array Value} {xs : List Int} {g : Operand} {p : Tmp} {assign body : Code} {Q : Exit → Act → World → Prop} {a : Act} {w : World} {X : Nat → Prop} {I Ix : List Int → World → Prop}
    (hX : ∀ k, X k → k < w.heap.size) (hg : a.eval g = .func (.func gf) #[] lb) (eg : ∀ args w, (callFunc gf args).run Tryz.prog w = .ok (.enter gf args) w) (hseq : ∀ W, Grew w W → SeqO ob gf lb xs W)
    (hI : ∀ s A B, I s A → GN w.heap.size A B → I s B) (hIx : ∀ s A B, Ix s A → GN w.heap.size A B → Ix s B) (h0 : I [] w) (a1 : Int → Act)
    (ha : ∀ (l : Nat) (x : Int) (W : World) (K : Act → World → Prop), K (a1 x) W → assign.wpIn (Fence.wide.inRound l) 0 Tryz.prog (Exit.then K (fun _ _ _ => False)) { tmps := a.tmps.setIfInBounds p (.int .i64 x), defers := [] } W)
    (hb : ∀ (l : Nat) (pre : List Int) (x : Int) (A : World), w.heap.size ≤ l → I pre A → (pre ++ [x]) <+: xs → (∃ r, A.heap[l]? = some (.loop r)) → body.wpIn (Fence.wide.inRound l) 0 Tryz.prog (bpost ob X I Ix (pre ++ [x]) A) (a1 x) A)
    (hdone : ∀ (D : Nat) (W : World), w.heap.size ≤ D → I xs W → W.heap[D]? = some (.deferred (some [])) → Q .normal { a with defers := { target := .collected D, args := #[] } :: a.defers } W)
    (hstop : ∀ (D : Nat) (pre : List Int) (W : World), w.heap.size ≤ D → pre <+: xs → Ix pre W → W.heap[D]? = some (.deferred (some [])) → Code.ret.wpIn Fence.wide 0 Tryz.prog Q { a with defers := { target := .collected D, args := #[] } :: a.defers } W) :
    (Code.rangeFunc g #[p] assign body).wpIn Fence.wide 0 Tryz.prog Q a w := by
  refine wpIn_rangeFunc ?_
  intro fn hfn
  obtain ⟨W1, hW1⟩ : ∃ W1, (w.alloc (.deferred (some []))).alloc (.loop { state := .ready, pending := none, fn := fn, tmps := a.tmps, params := #[p], assign := assign, body := body, defers := w.heap.size }) = W1 := ⟨_, rfl⟩
  have hz : W1.heap.size = w.heap.size + 1 + 1 := by rw [← hW1]; simp
  have hL1 : W1.heap[w.heap.size + 1]? = some (.loop { state := .ready, pending := none, fn := fn, tmps := a.tmps, params := #[p], assign := assign, body := body, defers := w.heap.size }) := by
    rw [← hW1]
    have := World.alloc_heap_new (w.alloc (.deferred (some []))) (.loop { state := .ready, pending := none, fn := fn, tmps := a.tmps, params := #[p], assign := assign, body := body, defers := w.heap.size })
    rwa [World.size_alloc] at this
  have hD1 : W1.heap[w.heap.size]? = some (.deferred (some [])) := by
    rw [← hW1]; exact heap_alloc (World.alloc_heap_new w _) _
  have hG1 : Grew w W1 := by rw [← hW1]; exact ((Grew.refl w).alloc _).alloc _
  refine ⟨w.heap.size + 1, [{ target := .collected w.heap.size, args := #[] }], W1, { target := .fn (.func gf) lb, args := #[.func (.yield (w.heap.size + 1)) #[] #[]] }, W1, gf, #[.func (.yield (w.heap.size + 1)) #[] #[]] ++ lb, W1, ?_, ?_, ?_, ?_, fun h => (by cases h), ?_⟩
  · rw [← hW1]; exact run_enterLoop_outer _ _ _ _ _
  · simp only [resolve, hg]
    simp [go_sem]
  · intro f' hf'; trivial
  · simp [invoke, go_sem, eg]
  · refine callsIn_wide.2 ((range_core (X := X) (I := fun s A => I s A ∧ A.heap[w.heap.size]? = some (.deferred (some []))) (Ix := fun s A => Ix s A ∧ A.heap[w.heap.size]? = some (.deferred (some []))) hz hL1 (fun k hk => by have := hX k hk; omega) (hseq W1 hG1) ?_ ?_ ⟨hI _ _ _ h0 (hG1.gn _), hD1⟩ a1 (ha _) ?_).mono ?_)
    · intro s A B hs hg
      exact ⟨hI s A B hs.1 (hg.mono (by omega)), hg.block _ _ hs.2 (Or.inl (by omega))⟩
    · intro s A B hs hg
      exact ⟨hIx s A B hs.1 (hg.mono (by omega)), hg.block _ _ hs.2 (Or.inl (by omega))⟩
    · intro pre x A hi hp hr
      refine wpIn_mono (hb _ pre x A (by omega) hi.1 hp hr) ?_
      intro e a3 B hq
      cases e with
      | normal => exact ⟨hq.1, hq.2.1, hq.2.2, hq.1.2 _ _ hi.2 rfl (fun h => by have := hX _ h; omega)⟩
      | ret => exact ⟨hq.1, hq.2, hq.1.2 _ _ hi.2 rfl (fun h => by have := hX _ h; omega)⟩
      | exit id => exact hq.elim
      | goto t => exact hq.elim
      | panic c => exact hq.elim
      | outgrown => exact hq.elim
    · rintro e B ⟨⟨v, rfl⟩, r, c, hl, hs, hc, h⟩
      refine ⟨_, _, run_endLoop (P := Tryz.prog) hl hs, ?_⟩
      rw [hc]
      rcases h with ⟨rfl, h1, h2⟩ | ⟨pre, hp, rfl, h1, h2⟩
      · exact hdone _ _ (Nat.le_refl _) (hI _ _ _ h1 (GN.put hl rfl (by omega) _)) ((World.putObj_heap_other (by omega)).trans h2)
      · exact hstop _ pre _ (Nat.le_refl _) hp (hIx _ _ _ h1 (GN.put hl rfl (by omega) _)) ((World.putObj_heap_other (by omega)).trans h2)
/- The statement, in a round of another loop. -/
theorem wp_rangeI {ob gf l0 : Nat} {r0 : Loop} {lb : Array Value} {xs : List Int} {g : Operand} {p : Tmp} {assign body : Code} {Q : Exit → Act → World → Prop} {a : Act} {w : World} {X : Nat → Prop} {I Ix : List Int → World → Prop}
    (hl0 : w.heap[l0]? = some (.loop r0)) (hX : ∀ k, X k → k < w.heap.size) (hg : a.eval g = .func (.func gf) #[] lb) (eg : ∀ args w, (callFunc gf args).run Tryz.prog w = .ok (.enter gf args) w) (hseq : ∀ W, Grew w W → SeqO ob gf lb xs W)
    (hI : ∀ s A B, I s A → GN w.heap.size A B → I s B) (hIx : ∀ s A B, Ix s A → GN w.heap.size A B → Ix s B) (h0 : I [] w) (a1 : Int → Act)
    (ha : ∀ (l : Nat) (x : Int) (W : World) (K : Act → World → Prop), K (a1 x) W → assign.wpIn (Fence.wide.inRound l) 0 Tryz.prog (Exit.then K (fun _ _ _ => False)) { tmps := a.tmps.setIfInBounds p (.int .i64 x), defers := [] } W)
    (hb : ∀ (l : Nat) (pre : List Int) (x : Int) (A : World), w.heap.size ≤ l → I pre A → (pre ++ [x]) <+: xs → (∃ r, A.heap[l]? = some (.loop r)) → body.wpIn (Fence.wide.inRound l) 0 Tryz.prog (bpost ob X I Ix (pre ++ [x]) A) (a1 x) A)
    (hdone : ∀ (W : World), I xs W → Q .normal a W)
    (hstop : ∀ (pre : List Int) (W : World), pre <+: xs → Ix pre W → Code.ret.wpIn (Fence.wide.inRound l0) 0 Tryz.prog Q a W) :
    (Code.rangeFunc g #[p] assign body).wpIn (Fence.wide.inRound l0) 0 Tryz.prog Q a w := by
  refine wpIn_rangeFunc ?_
  intro fn hfn
  obtain ⟨W1, hW1⟩ : ∃ W1, w.alloc (.loop { state := .ready, pending := none, fn := fn, tmps := a.tmps, params := #[p], assign := assign, body := body, defers := r0.defers }) = W1 := ⟨_, rfl⟩
  have hz : W1.heap.size = w.heap.size + 1 := by rw [← hW1]; simp
  have hL1 : W1.heap[w.heap.size]? = some (.loop { state := .ready, pending := none, fn := fn, tmps := a.tmps, params := #[p], assign := assign, body := body, defers := r0.defers }) := by
    rw [← hW1]; exact World.alloc_heap_new w _
  have hG1 : Grew w W1 := by rw [← hW1]; exact (Grew.refl w).alloc _
  refine ⟨w.heap.size, [], W1, { target := .fn (.func gf) lb, args := #[.func (.yield w.heap.size) #[] #[]] }, W1, gf, #[.func (.yield w.heap.size) #[] #[]] ++ lb, W1, ?_, ?_, ?_, ?_, fun h => (by cases h), ?_⟩
  · rw [← hW1]; exact run_enterLoop_inner hl0 _ _ _ _ _
  · simp only [resolve, hg]
    simp [go_sem]
  · intro f' hf'; trivial
  · simp [invoke, go_sem, eg]
  · refine CallsIn.inRound l0 (callsIn_wide.2 ((range_core (X := X) (I := I) (Ix := Ix) hz hL1 hX (hseq W1 hG1) hI hIx (hI _ _ _ h0 (hG1.gn _)) a1 (ha _) (fun pre x A hi hp hr => hb _ pre x A (Nat.le_refl _) hi hp hr)).mono ?_))
    rintro e B ⟨⟨v, rfl⟩, r, c, hl, hs, hc, h⟩
    refine ⟨_, _, run_endLoop (P := Tryz.prog) hl hs, ?_⟩
    rw [hc]
    rcases h with ⟨rfl, h1⟩ | ⟨pre, hp, rfl, h1⟩
    · exact hdone _ (hI _ _ _ h1 (GN.put hl rfl (Nat.le_refl _) _))
    · exact hstop pre _ hp (hIx _ _ _ h1 (GN.put hl rfl (Nat.le_refl _) _))
end Go.Proofs.YtikaidokllnifaaGreatDoor
