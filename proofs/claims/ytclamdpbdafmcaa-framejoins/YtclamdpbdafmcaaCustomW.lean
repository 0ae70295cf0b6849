/-
  The walk of frame.Customs; no statement is proved here.
-/
import Derived.Test.YtclamdpbdafmcaaFindR
namespace Go.Proofs.Ytclamdpbdafmcaa
open Go.RowKit
set_option linter.unusedVariables false

theorem wp_appSecB {w : World} {ops : Array Oper} {rest : List Oper} {o : Oper} {a : Act} {Q : Exit → Act → World → Prop} (hgd : o.guard = none) (s x : Operand)
    (ho : o.op = .call { callee := .builtin .append, args := #[s, x], argTypes := #[37, 37] }) {base : Nat} {v : Value} {L : List (Sec × Value)} {c : Sec × Value} {t : TypeId}
    (hs : a.eval s = v) (hx : a.eval x = .slice (some ⟨w.heap.size, 0, none⟩) 1 1) (hh : OwnS base w v L) (hc : w.ownsRow base 5 1 c.2 c.1.data.length (U8 c.1.data)) (hd : ∀ x ∈ L, x.2.ownBlock = none ∨ x.2.ownBlock ≠ c.2.ownBlock)
    {st : ByteArray} (hst : st = strOfNums c.1.name) (hlen : L.length ≤ 2513169434900) (hb : base ≤ w.heap.size)
    (h : ∀ v' w', OwnS base w' v' (L ++ [c]) → (∃ S : List Nat, Turn S w w' ∧ ∀ b ∈ S, base ≤ b ∧ ∃ cur, w.heap[b]? = some (.cells cur 45 (0, 0))) → wpList Try.prog ops Q rest (a.put o.dst v') w') :
    wpList Try.prog ops Q (o :: rest) a (w.alloc (.cells #[.int .i64 c.1.id, .string st, c.2, .int .i64 c.1.at_] t)) := by
  subst hst
  obtain ⟨i0, hi, hz0, hz1, hz2⟩ := info_parts Try.info45
  obtain ⟨hown, hds, hpw⟩ := hh
  have h1 : c.2.oneCell' = true := by
    rcases hc.2 with ⟨e, _⟩ | ⟨g, cap, cur, e, _⟩ <;> rw [e] <;> rfl
  refine wpList_append_own _ hgd s x 37 ho base 45 i0 (.agg #[.int .i64 0, .string ⟨#[]⟩, .slice none 0 0, .int .i64 0]) 4 56 Try.underlying37 hi hz0 hz1 hz2 rfl (by decide) v L.length (cellsS L) hs (hown.alloc _) ⟨w.heap.size, 0, none⟩ 1 1 (secC c) hx rfl ?_ ?_ (by unfold maxLen; omega) (by omega) (by simp; omega) ?_
  · intro j u hj
    have e : (Addr.add ⟨w.heap.size, 0, none⟩ j) = ⟨w.heap.size, j, none⟩ := by unfold Addr.add; split <;> simp_all
    rw [e, cell_of (heap_alloc_last w _)]
    rcases j with _ | _ | _ | _ | j <;> simp [secC] at hj ⊢ <;> exact hj
  · intro u hu
    simp only [secC, List.mem_cons, List.not_mem_nil, or_false] at hu
    rcases hu with rfl | rfl | rfl | rfl
    · rfl
    · rfl
    · exact h1
    · rfl
  · intro v' w' ho' hg _
    obtain ⟨S, ht', hS'⟩ := grown_turn _ hown hg
    refine h v' w' ⟨?_, ?_, ?_⟩ ⟨S, ht', hS'⟩
    · rw [cellsS_snoc, List.length_append]; exact ho'
    · intro x hx
      rcases List.mem_append.1 hx with hx | hx
      · refine row_turn (hds x hx) ht' (fun b hb cur hne => ?_)
        obtain ⟨_, cur', h2⟩ := hS' b hb
        rw [h2] at hne
        simp at hne
      · simp at hx
        subst hx
        refine row_turn hc ht' (fun b hb cur hne => ?_)
        obtain ⟨_, cur', h2⟩ := hS' b hb
        rw [h2] at hne
        simp at hne
    · rw [List.pairwise_append]
      refine ⟨hpw, by simp, ?_⟩
      intro x hx y hy
      simp at hy
      subst hy
      exact hd x hx


/- The custom sections of a name. -/
def cst (L : List Sec) (m : List Int) : List Sec := L.filter fun s => decide (s.id = 0) && decide (s.name = m)
theorem cst_snoc (L : List Sec) (s : Sec) (m : List Int) : cst (L ++ [s]) m = cst L m ++ (if s.id = 0 ∧ s.name = m then [s] else []) := by
  unfold cst
  rw [List.filter_append]
  congr 1
  by_cases h1 : s.id = 0 <;> by_cases h2 : s.name = m <;> simp [h1, h2]
theorem cst_len (L : List Sec) (m : List Int) : (cst L m).length ≤ L.length := List.length_filter_le _ _
theorem take_snoc {L : List Sec} {k : Nat} {s : Sec} (hs : L[k]? = some s) : L.take (k + 1) = L.take k ++ [s] := by rw [List.take_add_one, hs]; rfl
theorem OwnS.mono {base base' : Nat} {w : World} {v : Value} {L : List (Sec × Value)} (h : OwnS base w v L) (hb : base' ≤ base) : OwnS base' w v L :=
  ⟨h.1.mono hb, fun x hx => (h.2.1 x hx).mono hb, h.2.2⟩
set_option maxRecDepth 100000 in
set_option maxHeartbeats 4000000 in
theorem customs_any (v : Value) (L : List Sec) (m : List Int) (w : World) (hR : RdS w v L) (hL : ∀ s ∈ L, Fit s) (hlen : L.length ≤ 2513169434900) (hm : Byt m) :
    Calls Try.prog 28 #[v, .string (strOfNums m)] w fun en w' => ∃ v' K, en = .returned v' ∧ K.map Prod.fst = cst L m ∧ OwnS w.heap.size w' v' K ∧ Grew w w' := by
  have HRS : Hid (RdS w v L) := hR
  have HL : Hid (∀ s ∈ L, Fit s) := hL
  have HM : Hid (Byt m) := hm
  obtain ⟨a, cap, rfl, hR⟩ := hR
  obtain ⟨sm, hsm⟩ : ∃ s, s = strOfNums m := ⟨_, rfl⟩
  rw [← hsm]
  have HSM : Hid (sm = strOfNums m) := hsm
  clear hR hL hm hsm
  go_enter Try.func28, Try.ntmps28
  go_wp2_with fail
  go_loopw [5, 10] (fun o i wr => ∃ (k : Nat) (K : List (Sec × Value)), i = .int .i64 k ∧ k ≤ L.length ∧ K.map Prod.fst = cst (L.take k) m ∧ OwnS w.heap.size wr o K ∧ Grew w wr) (fun _ i _ => L.length - (intOf i).toNat)
  case atStart => exact ⟨0, [], rfl, by omega, rfl, OwnS.nil _ _, Grew.refl _⟩
  case round =>
    obtain ⟨k, K, rfl, hk, hK, hO, hg⟩ := hrel
    have HK : Hid (K.map Prod.fst = cst (L.take k) m) := hK
    have HO : Hid (OwnS w.heap.size wr u5 K) := hO
    have HG : Hid (Grew w wr) := hg
    have hKl : K.length ≤ k := by
      have h1 := congrArg List.length hK
      have h2 := cst_len (L.take k) m
      simp at h1 h2
      omega
    clear hK hO hg
    by_cases hlt : k < L.length
    · obtain ⟨s, hs⟩ : ∃ s, L[k]? = some s := ⟨_, List.getElem?_eq_getElem hlt⟩
      have hmem : s ∈ L := List.mem_of_getElem? hs
      obtain ⟨a', cap', hv', hR'⟩ := HRS.out.grew HG.out
      injection hv' with hv1 hv2 hv3
      subst hv1; subst hv3
      obtain ⟨b1, o1, rfl, f1⟩ := hR'.resolve_left (fun h => by rw [h] at hlt; simp at hlt)
      obtain ⟨ad1, cd1, p0, p1, p2, p3, r1⟩ := f1 k s hs
      obtain ⟨hm1, hm2, hm3, hm4⟩ := HL.out s hmem
      have HT : Hid (cst (L.take (k + 1)) m = cst (L.take k) m ++ (if s.id = 0 ∧ s.name = m then [s] else [])) := by
        show _ = _
        rw [take_snoc hs, cst_snoc]
      have RS : Hid (Reads wr (.slice ad1 s.data.length cd1) s.data) := r1
      clear f1 r1 hs hv2 hR'
      by_cases hid : s.id = 0
      · by_cases hnm : s.name = m
        · have hstr : strOfNums s.name = sm := by rw [hnm, HSM.out]
          have HT2 : Hid (cst (L.take (k + 1)) m = cst (L.take k) m ++ [s]) := by
            show _ = _
            rw [HT.out, if_pos ⟨hid, hnm⟩]
          have cc := fun (w : World) h => copied_any 0 sm (.slice ad1 s.data.length cd1) s.data s.at_ w h hm4
          unfold secV at cc
          have HI : Hid (s.id = 0) := hid
          have HN : Hid (strOfNums s.name = sm) := hstr
          rw [hid] at p0
          rw [hstr] at p1
          clear hid hm1 hm2 hm3 HT hnm hstr
          go_wp2_with fail
          refine (cc _ (((Grew.refl wr).alloc _).reads RS.out)).mono ?_
          rintro en w2 ⟨v2, rfl, h2⟩
          have G2 : Hid (Grew wr w2) := ((Grew.refl wr).alloc _).trans h2.gr
          have O2 : Hid (OwnS w.heap.size w2 u5 K) := HO.out.grew G2.out
          have V2 : Hid (w2.ownsRow w.heap.size 5 1 v2 s.data.length (U8 s.data)) := h2.1.mono (by have := HG.out.2; simp; omega)
          have D2 : Hid (∀ x ∈ K, x.2.ownBlock = none ∨ x.2.ownBlock ≠ v2.ownBlock) := fun x hx => own_ne (B' := 0) (HO.out.2.1 x hx) (h2.1.mono (by simp))
          have hsz2 : w.heap.size ≤ w2.heap.size := Nat.le_trans HG.out.2 G2.out.2
          obtain ⟨a2, k2, hv2⟩ := h2.reads.len
          subst hv2
          clear cc h2
          go_wp2_with (at_builtin; refine wp_appSecB rfl _ _ rfl rfl rfl (c := (⟨0, s.name, s.data, s.at_⟩, .slice a2 s.data.length k2)) O2.out V2.out D2.out HN.out.symm (by omega) hsz2 ?_; intro v' w3 hO3 hT3)
          obtain ⟨S, t3, hS⟩ := hT3
          have O3 : Hid (OwnS w.heap.size w3 v' (K ++ [(⟨0, s.name, s.data, s.at_⟩, .slice a2 s.data.length k2)])) := hO3
          have G3 : Hid (Grew w w3) := t3.grew (HG.out.trans G2.out) (fun b hb => (hS b hb).1)
          clear hO3 t3 hS
          go_roundw
          case rel =>
            refine ⟨k + 1, _, by go_num, by omega, ?_, O3.out, G3.out⟩
            rw [HT2.out, List.map_append, HK.out]
            congr 1
            simp only [List.map_cons, List.map_nil]
            rw [← HI.out]
          case measure => simp [intOf]; omega
        · have hstr : ¬ strOfNums s.name = sm := by
            rw [HSM.out]
            exact fun h => hnm (str_inj hm1 HM.out h)
          have q1 : ((strOfNums s.name).toList == sm.toList) = false := beq_eq_false_iff_ne.2 (fun h => hstr (by
            first
              | (rw [ByteArray.toList_eq, ByteArray.toList_eq] at h; exact ByteArray.ext (Array.toList_inj.1 h))
              | (rw [Lib.toList_data, Lib.toList_data] at h; exact ByteArray.ext (Array.toList_inj.1 h))))
          have HT2 : Hid (cst (L.take (k + 1)) m = cst (L.take k) m) := by
            show _ = _
            rw [HT.out, if_neg (fun h => hnm h.2), List.append_nil]
          rw [hid] at p0
          clear hid hm1 hm2 hm3 HT hnm
          go_wp2_with fail
          go_roundw
          case rel => exact ⟨k + 1, K, by go_num, by omega, by rw [HT2.out, HK.out], HO.out.grew ((Grew.refl wr).alloc _), HG.out.alloc _⟩
          case measure => simp [intOf]; omega
      · have hb : (s.id == 0) = false := beq_eq_false_iff_ne.2 hid
        have HT2 : Hid (cst (L.take (k + 1)) m = cst (L.take k) m) := by
          show _ = _
          rw [HT.out, if_neg (fun h => hid h.1), List.append_nil]
        clear hm1 hm2 hm3 HT
        go_wp2_with fail
        go_roundw
        case rel => exact ⟨k + 1, K, by go_num, by omega, by rw [HT2.out, HK.out], HO.out.grew ((Grew.refl wr).alloc _), HG.out.alloc _⟩
        case measure => simp [intOf]; omega
    · go_wp2_with fail
      go_ret
      refine ⟨_, K, rfl, ?_, HO.out, HG.out⟩
      rw [HK.out, List.take_of_length_le (by omega)]
end Go.Proofs.Ytclamdpbdafmcaa
