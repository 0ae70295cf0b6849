/-
  The walk of the document's Customs; no statement is proved here.
-/
import Derived.Test.YtclamdpbdafmcaaCustomW
namespace Go.Proofs.Ytclamdpbdafmcaa
open Go.RowKit
set_option linter.unusedVariables false

/- A row of sections whose bytes lie elsewhere. -/
def RowS (base : Nat) (w : World) (v : Value) (K : List (Sec × Value)) : Prop := w.ownsRow base 45 4 v K.length (cellsS K)
theorem RowS.rds {base : Nat} {w : World} {v : Value} {L : List (Sec × Value)} (h : RowS base w v L) (hr : ∀ x ∈ L, Reads w x.2 x.1.data) : RdS w v (L.map Prod.fst) := by
  have ho : w.ownsRow base 45 4 v L.length (cellsS L) := h
  obtain ⟨_, ⟨rfl, h0⟩ | ⟨g, cap, cur, rfl, hge, hh, _⟩⟩ := h
  · have hL := List.eq_nil_of_length_eq_zero h0
    subst hL
    exact ⟨none, 0, rfl, Or.inl rfl⟩
  · refine ⟨some ⟨g, 0, none⟩, cap, by rw [List.length_map], Or.inr ⟨g, 0, rfl, fun i s hi => ?_⟩⟩
    rw [List.getElem?_map] at hi
    cases hx : L[i]? with
    | none => rw [hx] at hi; simp at hi
    | some x =>
      rw [hx] at hi
      simp at hi
      subst hi
      have hlt : i < L.length := (List.getElem?_eq_some_iff.1 hx).1
      have hr := hr x (List.mem_of_getElem? hx)
      obtain ⟨a, c, hv⟩ := hr.len
      have key : ∀ j, j < 4 → w.cell? ⟨g, i * 4 + j, none⟩ = (secC x)[j]? := fun j hj => by rw [ho.cellAt (i * 4 + j) (by omega), cellsS_get L i j x hx hj]
      have c0 := key 0 (by omega)
      have c1 := key 1 (by omega)
      have c2 := key 2 (by omega)
      have c3 := key 3 (by omega)
      simp [secC] at c0 c1 c2 c3
      rw [hv] at c2 hr
      rw [Nat.zero_add]
      exact ⟨a, c, c0, c1, c2, c3, hr⟩
theorem wp_appSecR {w : World} {ops : Array Oper} {rest : List Oper} {o : Oper} {a : Act} {Q : Exit → Act → World → Prop} (hgd : o.guard = none) (s x : Operand)
    (ho : o.op = .call { callee := .builtin .append, args := #[s, x], argTypes := #[37, 37] }) {base : Nat} {v : Value} {L : List (Sec × Value)} {c : Sec × Value} {t : TypeId}
    (hs : a.eval s = v) (hx : a.eval x = .slice (some ⟨w.heap.size, 0, none⟩) 1 1) (hown : RowS base w v L) (h1 : c.2.oneCell' = true)
    {st : ByteArray} (hst : st = strOfNums c.1.name) (hlen : L.length ≤ 2513169434900) (hb : base ≤ w.heap.size)
    (h : ∀ v' w', RowS base w' v' (L ++ [c]) → (∃ S : List Nat, Turn S w w' ∧ ∀ b ∈ S, base ≤ b ∧ ∃ cur, w.heap[b]? = some (.cells cur 45 (0, 0))) → wpList Try.prog ops Q rest (a.put o.dst v') w') :
    wpList Try.prog ops Q (o :: rest) a (w.alloc (.cells #[.int .i64 c.1.id, .string st, c.2, .int .i64 c.1.at_] t)) := by
  subst hst
  obtain ⟨i0, hi, hz0, hz1, hz2⟩ := info_parts Try.info45
  have hown' : w.ownsRow base 45 4 v L.length (cellsS L) := hown
  refine wpList_append_own _ hgd s x 37 ho base 45 i0 (.agg #[.int .i64 0, .string ⟨#[]⟩, .slice none 0 0, .int .i64 0]) 4 56 Try.underlying37 hi hz0 hz1 hz2 rfl (by decide) v L.length (cellsS L) hs (hown'.alloc _) ⟨w.heap.size, 0, none⟩ 1 1 (secC c) hx rfl ?_ ?_ (by unfold maxLen; omega) (by omega) (by simp; omega) ?_
  · intro j u hj
    have e : (Addr.add ⟨w.heap.size, 0, none⟩ j) = ⟨w.heap.size, j, none⟩ := by unfold Addr.add; split <;> simp_all
    rw [e, cell_of (heap_alloc_last w _)]
    rcases j with _ | _ | _ | _ | j <;> simp [secC] at hj ⊢ <;> exact hj
  · intro u hu
    simp only [secC, List.mem_cons, List.not_mem_nil, or_false] at hu
    rcases hu with rfl | rfl | rfl | rfl
    · rfl
    · rfl
    · exact h1
    · rfl
  · intro v' w' ho' hg _
    refine h v' w' ?_ (grown_turn _ hown' hg)
    unfold RowS
    rw [cellsS_snoc, List.length_append]; exact ho'
set_option maxRecDepth 100000 in
set_option maxHeartbeats 4000000 in
theorem refCustoms_any (v : Value) (L : List Sec) (m : List Int) (w : World) (hR : RdS w v L) (hL : ∀ s ∈ L, Fit s) (hlen : L.length ≤ 2513169434900) (hm : Byt m) :
    Calls Try.prog 29 #[v, .string (strOfNums m)] w fun en w' => ∃ v', en = .returned v' ∧ RdS w' v' (cst L m) ∧ Grew w w' := by
  have HRS : Hid (RdS w v L) := hR
  have HL : Hid (∀ s ∈ L, Fit s) := hL
  have HM : Hid (Byt m) := hm
  obtain ⟨a, cap, rfl, hR⟩ := hR
  obtain ⟨sm, hsm⟩ : ∃ s, s = strOfNums m := ⟨_, rfl⟩
  rw [← hsm]
  have HSM : Hid (sm = strOfNums m) := hsm
  clear hR hL hm hsm
  go_enter Try.func29, Try.ntmps29
  go_wp2_with fail
  go_loopw [5, 6] (fun o i wr => ∃ (k : Nat) (K : List (Sec × Value)), i = .int .i64 k ∧ k ≤ L.length ∧ K.map Prod.fst = cst (L.take k) m ∧ RowS w.heap.size wr o K ∧ Grew w wr ∧ ∀ x ∈ K, Reads w x.2 x.1.data) (fun _ i _ => L.length - (intOf i).toNat)
  case atStart => exact ⟨0, [], rfl, by omega, rfl, World.ownsRow_nil _ _ _ _, Grew.refl _, by simp⟩
  case round =>
    obtain ⟨k, K, rfl, hk, hK, hO, hg, hx⟩ := hrel
    have HX : Hid (∀ x ∈ K, Reads w x.2 x.1.data) := hx
    have HK : Hid (K.map Prod.fst = cst (L.take k) m) := hK
    have HO : Hid (RowS w.heap.size wr u5 K) := hO
    have HG : Hid (Grew w wr) := hg
    have hKl : K.length ≤ k := by
      have h1 := congrArg List.length hK
      have h2 := cst_len (L.take k) m
      simp at h1 h2
      omega
    clear hK hO hg hx
    by_cases hlt : k < L.length
    · obtain ⟨s, hs⟩ : ∃ s, L[k]? = some s := ⟨_, List.getElem?_eq_getElem hlt⟩
      have hmem : s ∈ L := List.mem_of_getElem? hs
      obtain ⟨a', cap', hv', hR'⟩ := HRS.out.grew HG.out
      injection hv' with hv1 hv2 hv3
      subst hv1; subst hv3
      obtain ⟨b1, o1, rfl, f1⟩ := hR'.resolve_left (fun h => by rw [h] at hlt; simp at hlt)
      obtain ⟨ad1, cd1, p0, p1, p2, p3, r1⟩ := f1 k s hs
      obtain ⟨aw, capw, hvw, hRw⟩ := HRS.out
      injection hvw with hw1 hw2 hw3
      obtain ⟨bw, ow, hbw, fw⟩ := hRw.resolve_left (fun h => by rw [h] at hlt; simp at hlt)
      have hbw' : bw = b1 ∧ ow = o1 := by rw [← hw1] at hbw; simp at hbw; exact ⟨hbw.1.symm, hbw.2.symm⟩
      obtain ⟨rfl, rfl⟩ := hbw'
      obtain ⟨ad2, cd2, p0', p1', p2', p3', rw1⟩ := fw k s hs
      have e2 : Value.slice ad2 s.data.length cd2 = Value.slice ad1 s.data.length cd1 := by
        have := (HG.out.1.cell (block_lt_of_cell p2')).trans p2'
        rw [p2] at this
        injection this with this
        exact this.symm
      rw [e2] at rw1
      have RW : Hid (Reads w (.slice ad1 s.data.length cd1) s.data) := rw1
      clear hRw fw hbw rw1 e2 p0' p1' p2' p3' hw1 hw2 hw3
      obtain ⟨hm1, hm2, hm3, hm4⟩ := HL.out s hmem
      have HT : Hid (cst (L.take (k + 1)) m = cst (L.take k) m ++ (if s.id = 0 ∧ s.name = m then [s] else [])) := by
        show _ = _
        rw [take_snoc hs, cst_snoc]
      have RS : Hid (Reads wr (.slice ad1 s.data.length cd1) s.data) := r1
      clear f1 r1 hs hv2 hR'
      by_cases hid : s.id = 0
      · by_cases hnm : s.name = m
        · have hstr : strOfNums s.name = sm := by rw [hnm, HSM.out]
          have HT2 : Hid (cst (L.take (k + 1)) m = cst (L.take k) m ++ [s]) := by
            show _ = _
            rw [HT.out, if_pos ⟨hid, hnm⟩]
          have HI : Hid (s.id = 0) := hid
          have HN : Hid (strOfNums s.name = sm) := hstr
          rw [hid] at p0
          rw [hstr] at p1
          clear hid hm1 hm2 hm3 HT hnm hstr
          have hszw : w.heap.size ≤ wr.heap.size := HG.out.2
          go_wp2_with (at_builtin; refine wp_appSecR rfl _ _ rfl rfl rfl (c := (⟨0, s.name, s.data, s.at_⟩, .slice ad1 s.data.length cd1)) HO.out rfl HN.out.symm (by omega) hszw ?_; intro v' w3 hO3 hT3)
          obtain ⟨S, t3, hS⟩ := hT3
          have O3 : Hid (RowS w.heap.size w3 v' (K ++ [(⟨0, s.name, s.data, s.at_⟩, .slice ad1 s.data.length cd1)])) := hO3
          have G3 : Hid (Grew w w3) := t3.grew HG.out (fun b hb => (hS b hb).1)
          clear hO3 t3 hS
          go_roundw
          case rel =>
            refine ⟨k + 1, _, by go_num, by omega, ?_, O3.out, G3.out, fun x hx => ?_⟩
            rotate_left
            · rcases List.mem_append.1 hx with hx | hx
              · exact HX.out x hx
              · simp at hx; subst hx; exact RW.out
            rw [HT2.out, List.map_append, HK.out]
            congr 1
            simp only [List.map_cons, List.map_nil]
            rw [← HI.out]
          case measure => simp [intOf]; omega
        · have hstr : ¬ strOfNums s.name = sm := by
            rw [HSM.out]
            exact fun h => hnm (str_inj hm1 HM.out h)
          have q1 : ((strOfNums s.name).toList == sm.toList) = false := beq_eq_false_iff_ne.2 (fun h => hstr (by
            first
              | (rw [ByteArray.toList_eq, ByteArray.toList_eq] at h; exact ByteArray.ext (Array.toList_inj.1 h))
              | (rw [Lib.toList_data, Lib.toList_data] at h; exact ByteArray.ext (Array.toList_inj.1 h))))
          have HT2 : Hid (cst (L.take (k + 1)) m = cst (L.take k) m) := by
            show _ = _
            rw [HT.out, if_neg (fun h => hnm h.2), List.append_nil]
          rw [hid] at p0
          clear hid hm1 hm2 hm3 HT hnm
          go_wp2_with fail
          go_roundw
          case rel => exact ⟨k + 1, K, by go_num, by omega, by rw [HT2.out, HK.out], HO.out, HG.out, HX.out⟩
          case measure => simp [intOf]; omega
      · have hb : (s.id == 0) = false := beq_eq_false_iff_ne.2 hid
        have HT2 : Hid (cst (L.take (k + 1)) m = cst (L.take k) m) := by
          show _ = _
          rw [HT.out, if_neg (fun h => hid h.1), List.append_nil]
        clear hm1 hm2 hm3 HT
        go_wp2_with fail
        go_roundw
        case rel => exact ⟨k + 1, K, by go_num, by omega, by rw [HT2.out, HK.out], HO.out, HG.out, HX.out⟩
        case measure => simp [intOf]; omega
    · go_wp2_with fail
      go_ret
      refine ⟨_, rfl, ?_, HG.out⟩
      have := HO.out.rds (fun x hx => HG.out.reads (HX.out x hx))
      rw [HK.out, List.take_of_length_le (by omega)] at this
      exact this
end Go.Proofs.Ytclamdpbdafmcaa
