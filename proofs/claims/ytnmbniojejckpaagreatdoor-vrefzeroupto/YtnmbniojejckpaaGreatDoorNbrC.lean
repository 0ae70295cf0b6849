/-
  The program's Number, over sub's own closure that places groups; no statement is proved here.
-/
import Derived.Test.YtnmbniojejckpaaGreatDoorMdN
import Derived.Maps.AppendAt
import Derived.Laws.EntriesVeiled
set_option maxRecDepth 100000
set_option maxHeartbeats 8000000
namespace Go.Proofs.YtnmbniojejckpaaGreatDoor
open Go.RowKit
set_option linter.unusedVariables false
set_option linter.unusedSimpArgs false
/- One element more, and where it then lies. -/
theorem wp_app1a {w : World} {ops : Array Oper} {rest : List Oper} {o : Oper} {a : Act} {Q : Exit → Act → World → Prop} (hgd : o.guard = none) (s x : Operand) (t e : TypeId) (k bytes : Nat) (z : Value)
    (hu : Tryz.prog.underlying t = some (.slice e)) (hi : (Tryz.prog.info? e).map (fun i => (i.zero, i.size, i.bytes)) = some (some z, k, bytes)) (hz : z.cells.size = k) (hk : 0 < k) (hbt : bytes ≤ 1000)
    (ho : o.op = .call { callee := .builtin .append, args := #[s, x], argTypes := #[t, t] }) {B : Nat} {v : Value} {n : Nat} {cs : List Value} {new : Array Value} {t' : TypeId}
    (hs : a.eval s = v) (hx : a.eval x = .slice (some ⟨w.heap.size, 0, none⟩) 1 1) (hh : w.ownsRow B e k v n cs) (hB : B ≤ w.heap.size) (hsz : new.size = k) (h1 : ∀ u ∈ new.toList, u.oneCell' = true) (hn : n ≤ 4194304)
    (h : ∀ v' w', w'.ownsRow B e k v' (n + 1) (cs ++ new.toList) → TurnP (fun g => v.ownBlock = some g) w w' → (v'.ownBlock = v.ownBlock ∨ ∃ g, v'.ownBlock = some g ∧ w.heap.size ≤ g) → wpList Tryz.prog ops Q rest (a.put o.dst v') w') :
    wpList Tryz.prog ops Q (o :: rest) a (w.alloc (.cells new t')) := by
  obtain ⟨i0, hi0, hz0, hz1, hz2⟩ := info_parts hi
  refine wpList_append_own_at _ hgd s x t ho B e i0 z k bytes hu hi0 hz0 hz1 hz2 hz hk v n cs hs (hh.alloc _) ⟨w.heap.size, 0, none⟩ 1 1 new.toList hx (by simp [hsz]) ?_ h1 (by unfold maxLen; omega) ?_ (by simp; omega) ?_
  · intro j u hj
    have e : (Addr.add ⟨w.heap.size, 0, none⟩ j) = ⟨w.heap.size, j, none⟩ := by unfold Addr.add; split <;> simp_all
    rw [e, cell_of (heap_alloc_last w _), ← Array.getElem?_toList]
    exact hj
  · have : (n + 1) * bytes ≤ 4194305 * 1000 := Nat.mul_le_mul (by omega) hbt
    omega
  · intro v' w' ho' hg _ hl
    refine h v' w' ho' ⟨hg.os, hg.tape, hg.output, by have := hg.size; simp at this; omega, fun y hy hne => ?_⟩ (hl.imp id (fun e => ⟨_, e, by simp⟩))
    rw [hg.block y (by simp; omega) (fun hx => hne hx.symm), Below.heap_alloc _ _ _ hy]
/- What places groups: the state it keeps (told by Inv, in the blocks of F), and what it answers. -/
structure Placer {σ : Type} (fb cb : Nat) (w0 : World) (Inv : World → σ → (Nat → Prop) → Prop) (Good : σ → Nat → Nat → Prop) (step : σ → List SB → Option (Int × σ)) : Prop where
  lt : ∀ W s F x, Inv W s F → F x → x < W.heap.size
  keep : ∀ W W' s F, Inv W s F → (∀ x, F x → W'.heap[x]? = W.heap[x]?) → Inv W' s F
  call : ∀ (W : World) (s : σ) (F : Nat → Prop) (u : Value) (m : List (SB × Q4)) (k c B : Nat), Inv W s F → Grew w0 W → Good s k c → k ≤ 2097152 → c ≤ 2097152 → SubsT B W u m → (∀ x, F x → x < B) → B ≤ W.heap.size → m.length ≤ 1048576 → (∀ y ∈ m, Rng y.1 ∧ Sml y.1) → (txt (m.map Prod.fst)).length ≤ 140000000 →
    Calls Tryz.prog 154 #[.agg #[u, .bool false], .pointer (some ⟨fb, 0, none⟩), .pointer (some ⟨cb, 0, none⟩)] W fun en w' => TurnP F W w' ∧ ∃ F', (∀ x, F' x → F x ∨ B ≤ x) ∧ (step s (m.map Prod.fst) = none → en = .returned (.tuple #[.int .i64 0, .bool false]) ∧ Inv w' s F') ∧
      (∀ n s', step s (m.map Prod.fst) = some (n, s') → en = .returned (.tuple #[.int .i64 n, .bool true]) ∧ Inv w' s' F')
  good : ∀ s k c m n s', Good s k c → Ok m → k + m.length ≤ 2097152 → step s m = some (n, s') → 0 ≤ n ∧ n + (m.length : Int) ≤ 4194304 ∧ Good s' (k + m.length) (c + 1)
theorem idsOf_rng {n : Int} {k : Nat} (h0 : 0 ≤ n) (h1 : n + (k : Int) ≤ 4194304) : ∀ a ∈ idsOf n k, 0 ≤ a ∧ a ≤ 4194304 := by
  intro a ha
  obtain ⟨i, hi, rfl⟩ := List.mem_map.1 ha
  have := List.mem_range.1 hi
  omega
theorem numbers_any {σ : Type} {fb cb : Nat} {w0 : World} {Inv : World → σ → (Nat → Prop) → Prop} {Good : σ → Nat → Nat → Prop} {step : σ → List SB → Option (Int × σ)} (P : Placer fb cb w0 Inv Good step) {w : World} {v : Value} {L : List RT} {s : σ} {F : Nat → Prop}
    (hv : ∀ W, TurnP F w W → LR W v L) (hfit : Fit L) (hcl : closedP 0 L = true) (hg : Grew w0 w) (hI : Inv w s F) (hF : ∀ x, F x → w0.heap.size ≤ x) {k0 c0 : Nat} (hG : Good s k0 c0) (hk0 : k0 ≤ 1048576) (hc0 : c0 ≤ 1048576) :
    Calls Tryz.prog 153 #[v, .func (.func 154) #[] #[.pointer (some ⟨fb, 0, none⟩), .pointer (some ⟨cb, 0, none⟩)]] w fun en w' => TurnP F w w' ∧ ∃ F', (∀ x, F' x → F x ∨ w.heap.size ≤ x) ∧
      (∀ ids s', numF step L [] s = (some ids, s') → ∃ iv, en = .returned (.tuple #[iv, .int .i64 0, .bool true]) ∧ RowI w.heap.size w' iv ids ∧ (∀ g, iv.ownBlock = some g → ¬ F' g) ∧ Inv w' s' F' ∧ Good s' (k0 + cntT L) (c0 + L.length)) ∧
      (∀ s', numF step L [] s = (none, s') → ∃ g : Int, en = .returned (.tuple #[NILS, .int .i64 g, .bool false]) ∧ Inv w' s' F') := by
  obtain ⟨a, cap, hv', hcap, hmax⟩ := (hv w (TurnP.refl _ _)).one
  subst hv'
  have H : Hid (∀ W, TurnP F w W → LR W (.slice a L.length cap) L) := hv
  obtain ⟨R, hR⟩ : ∃ R, R = numF step L [] s := ⟨_, rfl⟩
  rw [← hR]
  have HR : Hid (R = numF step (L.drop 0) [] s) := hR
  have HP : Hid (Placer fb cb w0 Inv Good step) := P
  have HFit : Hid (Fit L) := hfit
  have HC : Hid (closedP 0 L = true) := hcl
  have HI : Hid (Inv w s F) := hI
  have HF : Hid (∀ x, F x → w0.heap.size ≤ x) := hF
  have HG : Hid (Good s k0 c0) := hG
  have HG0 : Hid (Grew w0 w) := hg
  have hm1 := hfit.sml.1
  have hm2 := hfit.sml.2.1
  clear hv hR P hfit hcl hI hF hG hg
  go_enter Tryz.func153, Tryz.ntmps153
  go_wp2_with fail
  go_loopw [7, 15] (fun v_ i_ w' => ∃ (i : Nat) (ids : List Int) (si : σ) (Fi : Nat → Prop), i_ = .int .i64 i ∧ i ≤ L.length ∧ Hid (ids.length = cntT (L.take i)) ∧ Hid (∀ a ∈ ids, 0 ≤ a ∧ a ≤ 4194304) ∧ Hid (RowI w.heap.size w' v_ ids) ∧ Hid (∀ g, v_.ownBlock = some g → ¬ Fi g) ∧ Hid (Inv w' si Fi) ∧ Hid (∀ x, Fi x → F x ∨ w.heap.size ≤ x) ∧ Hid (TurnP F w w') ∧ Hid (Good si (k0 + cntT (L.take i)) (c0 + i)) ∧ Hid (R = numF step (L.drop i) ids si)) (fun _ i_ _ => L.length - (intOf i_).toNat)
  case atStart => exact ⟨0, [], s, F, rfl, Nat.zero_le _, rfl, (fun a ha => by cases ha), RowI.nil _ _, (fun g hg => by cases hg), HI, (fun x hx => Or.inl hx), TurnP.refl _ _, HG, HR⟩
  case round =>
    clear HI HG HR
    obtain ⟨i, ids, si, Fi, rfl, hi, HL, HA, HRow, HN, HI, HFi, HT, HG, HR⟩ := hrel
    obtain ⟨w1, hw1⟩ : ∃ w1, w1 = wr := ⟨_, rfl⟩
    rw [← hw1] at HRow HI HT ⊢
    clear hw1
    have g1 : Grew w0 w1 := HT.out.grew HG0.out HF.out
    have hws := HT.out.size
    have hFlt : Hid (∀ x, Fi x → x < w1.heap.size) := fun x hx => HP.out.lt _ _ _ _ HI.out hx
    obtain ⟨ra, rc, hra, hrc, hrm, _⟩ := row_max HRow.out
    subst hra
    have hOwn : Hid (∀ g, (Value.slice ra ids.length rc).ownBlock = some g → g < w1.heap.size) := fun g hg => (World.ownsRow.lt HRow.out g hg).2
    by_cases hlt : i < L.length
    · obtain ⟨r, hr⟩ : ∃ r, L[i]? = some r := ⟨_, List.getElem?_eq_getElem hlt⟩
      obtain ⟨b, off, ha, hc', hE⟩ := (H.out w1 HT.out).get (by omega)
      subst ha
      obtain ⟨tv, ht, c0, c1⟩ := hE i r hr
      obtain ⟨ta, tc, et, htc, _⟩ := ht.one
      subst et
      have HLS : Hid (LS w1 (.slice ta r.types.length tc) r.types) := ht
      have d1 : decide ((i : Int) < (L.length : Int)) = true := by simp; omega
      have d2 : decide (i < L.length) = true := by simp; omega
      have HS : Hid (cntT (L.take (i + 1)) = cntT (L.take i) + r.types.length) := cntT_snoc hr
      have hb := cntT_take L (i + 1)
      rw [HS.out, ← HL.out] at hb
      have hrL := List.mem_of_getElem? hr
      have HSm : Hid (∀ x ∈ r.types, Sml x) := fun x hx => HFit.out.sml.2.2 r hrL x hx
      have HIn : Hid (∀ x ∈ r.types, In (Below' (ids.length + r.types.length)) x) := fun x hx => by
        have := fineP_in (closedP_mem HC.out hr x hx)
        rw [Nat.zero_add, ← HL.out] at this
        exact this
      have HOk : Hid (Ok (r.types.map (SB.sw (toldN ids)))) := ok_sw HA.out HSm.out (fun x hx => by
        have := closedP_mem HC.out hr x hx
        rw [Nat.zero_add, ← HL.out] at this
        exact this)
      have HRg : Hid (∀ x ∈ r.types.map (SB.sw (toldN ids)), Rng x ∧ Sml x) := fun x hx => by
        obtain ⟨y, hy, rfl⟩ := List.mem_map.1 hx
        exact ⟨sw_rng (HFit.out.rng r hrL y hy) (HIn.out y hy) (told_rng (by omega) HA.out), sw_sml (HSm.out y hy) _⟩
      have HTx : Hid ((txt (r.types.map (SB.sw (toldN ids)))).length ≤ 140000000) := by
        have h1 := txt_le _ HRg.out
        have h2 := sum_le (μ := muS) (ν := muS) (fun x => sw_mu x (toldN ids)) r.types
        have h3 := HFit.out.wt r hrL
        have : (txt (r.types.map (SB.sw (toldN ids)))).length ≤ 140000000 := by omega
        exact this
      have HStep : Hid (R = match step si (r.types.map (SB.sw (toldN ids))) with
        | none => (none, si)
        | some (n, s') => numF step (L.drop (i + 1)) (ids ++ idsOf n r.types.length) s') := by rw [HR.out]; exact numF_at hr ids si
      have CR : Hid (∀ W, Grew w1 W → Calls Tryz.prog 156 #[.agg #[.slice ta r.types.length tc, .bool r.explicit], .slice ra ids.length rc] W fun en w' => ∃ u m, en = .returned (.agg #[u, .bool false]) ∧ SubsT W.heap.size w' u m ∧ m.map Prod.fst = r.types.map (SB.sw (toldN ids)) ∧ Grew W w') := fun W g => rolledUp_any (HLS.out.grew g) ((HRow.out.lst).grew g) (by omega) HSm.out HIn.out
      have hk1 : r.types.length ≤ 1048576 := by omega
      have HK : Hid ((r.types.map (SB.sw (toldN ids))).length = r.types.length) := List.length_map _
      clear hE ht hr hrL HR HLS HSm HIn
      generalize r.types.map (SB.sw (toldN ids)) = T at *
      generalize r.explicit = ex at *
      generalize r.types.length = k at *
      have GA : Grew w1 (w1.alloc (.cells #[.slice ta k tc, .bool ex] 102)) := (Grew.refl w1).alloc _
      have BA : (w1.alloc (.cells #[.slice ta k tc, .bool ex] 102)).heap[w1.heap.size]? = some (.cells #[.slice ta k tc, .bool ex] 102 (0, 0)) := heap_alloc_last _ _
      have SA : (w1.alloc (.cells #[.slice ta k tc, .bool ex] 102)).heap.size = w1.heap.size + 1 := alloc_size _ _
      go_wp2_with fail
      generalize hW : (w1.alloc (.cells #[.slice ta k tc, .bool ex] 102)) = W at *
      clear hW c0 c1
      refine (CR.out W GA).mono ?_
      rintro en w2 ⟨u, m, rfl, hS, hq, g2⟩
      obtain ⟨ua, uc, hu, _⟩ := row_max hS.1
      subst hu
      have G2 : Hid (Grew w1 w2) := GA.trans g2
      have HI2 : Hid (Inv w2 si Fi) := HP.out.keep _ _ _ _ HI.out (fun x hx => G2.out.1.block x (HP.out.lt _ _ _ _ HI.out hx))
      have hml : Hid (m.length = T.length) := (by rw [← hq, List.length_map] : m.length = T.length)
      have HRg2 : Hid (∀ y ∈ m, Rng y.1 ∧ Sml y.1) := fun y hy => HRg.out y.1 (by rw [← hq]; exact List.mem_map.2 ⟨y, hy, rfl⟩)
      have hlt2 : ∀ x, Fi x → x < W.heap.size := fun x hx => by have := HP.out.lt _ _ _ _ HI.out hx; have := GA.2; omega
      have CP := HP.out.call w2 si Fi (.slice ua m.length uc) m (k0 + cntT (L.take i)) (c0 + i) W.heap.size HI2.out (g1.trans G2.out) HG.out (by rw [← HL.out]; omega) (by omega) hS hlt2 g2.2 (by rw [hml.out, HK.out]; omega) HRg2.out (by rw [hq]; exact HTx.out)
      rw [hq] at CP
      have HR2 : Hid (RowI w.heap.size w2 (.slice ra ids.length rc) ids) := HRow.out.grew G2.out
      have B2 : Hid (w2.heap[w1.heap.size]? = some (.cells #[.slice ta k tc, .bool ex] 102 (0, 0))) := g2.other BA
      have hsz2 : w1.heap.size < w2.heap.size := by have := g2.2; omega
      have hWs : w1.heap.size + 1 = W.heap.size := SA.symm
      clear CR hS g2 GA BA SA HI2 HRg2 HRg HTx HI HRow
      cases hst : step si T with
      | none =>
        have HRn : Hid (R = (none, si)) := by have := HStep.out; rw [hst] at this; exact this
        clear HStep
        go_wp2_with fail
        have CN : Calls Tryz.prog 154 #[.agg #[.slice ua m.length uc, .bool false], .pointer (some ⟨fb, 0, none⟩), .pointer (some ⟨cb, 0, none⟩)] w2 fun en w' => en = .returned (.tuple #[.int .i64 0, .bool false]) ∧ TurnP Fi w2 w' ∧ ∃ F', (∀ x, F' x → Fi x ∨ W.heap.size ≤ x) ∧ Inv w' si F' := CP.mono fun en w' ⟨t, F', h1, h2, _⟩ => ⟨(h2 hst).1, t, F', h1, (h2 hst).2⟩
        refine CN.mono ?_
        rintro en w3 ⟨rfl, t3, F3, hF3, i3⟩
        have T3 : Hid (TurnP F w w3) := (HT.out.trans (G2.out.turnP F)).trans' t3 HFi.out
        have I3 : Hid (Inv w3 si F3) := i3
        have HF3 : Hid (∀ x, F3 x → F x ∨ w.heap.size ≤ x) := fun x hx => (hF3 x hx).elim (HFi.out x) (fun h => Or.inr (by omega))
        clear CP CN t3 i3 hF3
        go_wp2_with fail
        go_ret3
        refine ⟨T3.out, F3, HF3.out, fun ids' s' he => ?_, fun s' he => ?_⟩
        · rw [HRn.out] at he; cases he
        · rw [HRn.out] at he
          obtain rfl := (Prod.mk.inj he).2
          exact ⟨_, rfl, I3.out⟩
      | some ns =>
        obtain ⟨n, s'⟩ := ns
        have HRn : Hid (R = numF step (L.drop (i + 1)) (ids ++ idsOf n k) s') := by have := HStep.out; rw [hst] at this; exact this
        obtain ⟨hn0, hn1, hgd⟩ := HP.out.good _ _ _ _ _ _ HG.out HOk.out (by rw [HK.out, ← HL.out]; omega) hst
        rw [HK.out] at hn1 hgd
        have HG3 : Hid (Good s' (k0 + cntT (L.take (i + 1))) (c0 + (i + 1))) := by rw [HS.out, ← Nat.add_assoc, ← Nat.add_assoc]; exact hgd
        clear HStep hgd
        go_wp2_with fail
        have CN : Calls Tryz.prog 154 #[.agg #[.slice ua m.length uc, .bool false], .pointer (some ⟨fb, 0, none⟩), .pointer (some ⟨cb, 0, none⟩)] w2 fun en w' => en = .returned (.tuple #[.int .i64 n, .bool true]) ∧ TurnP Fi w2 w' ∧ ∃ F', (∀ x, F' x → Fi x ∨ W.heap.size ≤ x) ∧ Inv w' s' F' := CP.mono fun en w' ⟨t, F', h1, _, h2⟩ => ⟨(h2 n s' hst).1, t, F', h1, (h2 n s' hst).2⟩
        refine CN.mono ?_
        rintro en w3 ⟨rfl, t3, F3, hF3, i3⟩
        have T3 : Hid (TurnP F w w3) := (HT.out.trans (G2.out.turnP F)).trans' t3 HFi.out
        have I3 : Hid (Inv w3 s' F3) := i3
        have HF3 : Hid (∀ x, F3 x → F x ∨ w.heap.size ≤ x) := fun x hx => (hF3 x hx).elim (HFi.out x) (fun h => Or.inr (by omega))
        have R3 : Hid (RowI w.heap.size w3 (.slice ra ids.length rc) ids) := row_turnP HR2.out t3 HN.out
        have N3 : Hid (∀ g, (Value.slice ra ids.length rc).ownBlock = some g → ¬ F3 g) := fun g hg hx => (hF3 g hx).elim (HN.out g hg) (fun h => by have := hOwn.out g hg; omega)
        have hB3 : w3.heap[w1.heap.size]? = some (.cells #[.slice ta k tc, .bool ex] 102 (0, 0)) := t3.other B2.out (fun hx => by have := hFlt.out _ hx; omega)
        clear CP CN t3 i3 hF3
        have b0 := cell_of hB3 0
        have b1 := cell_of hB3 1
        simp at b0 b1
        have hs3 := lt_of_obj hB3
        go_wp2_with fail
        have HLL : Hid (cntT (L.take i) = ids.length) := HL.out.symm
        have HAA : Hid (∀ a ∈ ids, 0 ≤ a ∧ a ≤ 4194304) := HA
        clear b0 b1 hB3 B2 HR2 HT HL HA hlt2 hFlt hOwn HN HG HFi
        go_loopw [7, 34] (fun v_ j_ w' => ∃ (j : Nat), j_ = .int .i64 j ∧ j ≤ k ∧ Hid (RowI w.heap.size w' v_ (ids ++ idsOf n j)) ∧ Hid (∀ g, v_.ownBlock = some g → ¬ F3 g) ∧ Hid (Inv w' s' F3) ∧ Hid (TurnP F w w')) (fun _ j_ _ => k - (intOf j_).toNat)
        case atStart => exact ⟨0, rfl, Nat.zero_le _, by rw [show ids ++ idsOf n 0 = ids by simp [idsOf]]; exact R3, N3, I3, T3⟩
        case round =>
          clear R3 N3 I3 T3
          obtain ⟨j, rfl, hj, RJ, NJ, IJ, TJ⟩ := hrel
          obtain ⟨w4, hw4⟩ : ∃ w4, w4 = wr := ⟨_, rfl⟩
          rw [← hw4] at RJ IJ TJ ⊢
          clear hw4
          obtain ⟨ja, jc, hja, hjc, hjm, _⟩ := row_max RJ.out
          subst hja
          have hsz4 := TJ.out.size
          by_cases hjl : j < k
          · have e1 : decide ((j : Int) < (k : Int)) = true := by simp; omega
            have e2 : decide (j < k) = true := by simp; omega
            have hjb : (ids ++ idsOf n j).length ≤ 4194304 := by rw [List.length_append, idsOf_len]; omega
            have HJ : Hid (ids ++ idsOf n (j + 1) = (ids ++ idsOf n j) ++ [n + (j : Int)]) := (by rw [idsOf_succ, List.append_assoc] : ids ++ idsOf n (j + 1) = (ids ++ idsOf n j) ++ [n + (j : Int)])
            generalize ids ++ idsOf n j = J at *
            go_wp2_with (at_builtin; refine wp_app1a (v := .slice ja J.length jc) (n := J.length) (cs := J.flatMap ic1) (B := w.heap.size) rfl _ _ 23 3 1 8 _ Tryz.underlying23 infoI rfl (by decide) (by decide) rfl rfl rfl RJ.out hsz4 rfl (by simp [Value.oneCell']) hjb ?_; intro v5 w5 hO5 hT5 hL5)
            go_roundw
            case rel =>
              have hnw : ∀ g, (Value.slice ja J.length jc).ownBlock = some g → w.heap.size ≤ g := fun g hg => (World.ownsRow.lt RJ.out g hg).1
              refine ⟨j + 1, by go_num, by omega, by rw [HJ.out]; exact RowI.snoc hO5, fun g hg => ?_, HP.out.keep _ _ _ _ IJ.out (fun x hx => hT5.block x (HP.out.lt _ _ _ _ IJ.out hx) (fun h => NJ.out x h hx)), TJ.out.trans' hT5 (fun x hx => Or.inr (hnw x hx))⟩
              rcases hL5 with h | ⟨g', h, hg'⟩
              · exact NJ.out g (by rw [← h]; exact hg)
              · rw [h] at hg
                injection hg with hg
                subst hg
                exact fun hx => by have := HP.out.lt _ _ _ _ IJ.out hx; omega
            case measure => simp [intOf]; omega
          · have e1 : decide ((j : Int) < (k : Int)) = false := by simp; omega
            have hje : j = k := by omega
            subst hje
            go_wp2_with fail
            go_roundw
            case rel => exact ⟨i + 1, ids ++ idsOf n j, s', F3, by go_num, by omega, by rw [List.length_append, idsOf_len, HS.out, HLL.out]; exact rfl, fun a ha => (List.mem_append.1 ha).elim (HAA.out a) (idsOf_rng hn0 hn1 a), RJ, NJ, IJ, HF3, TJ, HG3, HRn⟩
            case measure => simp [intOf]; omega
    · have d1 : decide ((i : Int) < (L.length : Int)) = false := by simp; omega
      have hin : L.drop i = [] := List.drop_eq_nil_of_le (by omega)
      have htk : L.take i = L := List.take_of_length_le (by omega)
      have HRn : Hid (R = (some ids, si)) := by have := HR.out; rw [hin] at this; exact this
      have hie : i = L.length := by omega
      have HG' : Hid (Good si (k0 + cntT L) (c0 + L.length)) := by have := HG.out; rw [htk, hie] at this; exact this
      clear hie
      go_wp2_with fail
      go_ret3
      refine ⟨HT.out, Fi, HFi.out, fun ids' s' he => ?_, fun s' he => ?_⟩
      · rw [HRn.out] at he
        obtain ⟨h1, rfl⟩ := Prod.mk.inj he
        injection h1 with h1
        subst h1
        exact ⟨_, rfl, HRow.out, HN.out, HI.out, HG'.out⟩
      · rw [HRn.out] at he; cases he
end Go.Proofs.YtnmbniojejckpaaGreatDoor
