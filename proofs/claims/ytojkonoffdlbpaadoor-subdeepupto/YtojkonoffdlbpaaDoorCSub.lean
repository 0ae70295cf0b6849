/-
  The program's writer: a type; no statement is proved here.
-/
import Derived.Test.YtojkonoffdlbpaaDoorCWs
namespace Go.Proofs.YtojkonoffdlbpaaDoor
open Go.RowKit
set_option linter.unusedVariables false
set_option linter.unusedSimpArgs false

/- All numbers are of 64 bits. -/
structure Rng (x : SB) : Prop where
  s : ∀ n ∈ x.supers, R64 n
  k : R64 x.comp.kind
  p : ∀ v ∈ x.comp.params, R64 v.num ∧ R64 v.heap
  r : ∀ v ∈ x.comp.results, R64 v.num ∧ R64 v.heap
  f : ∀ v ∈ x.comp.fields, R64 v.ty.num ∧ R64 v.ty.heap
def SB.t (x : SB) : List Value := flagC x.final_ ++ (numC (x.supers.length : Int) ++ x.supers.flatMap numC) ++ numC x.comp.kind ++ (numC (x.comp.params.length : Int) ++ x.comp.params.flatMap VT.t) ++ (numC (x.comp.results.length : Int) ++ x.comp.results.flatMap VT.t) ++ (numC (x.comp.fields.length : Int) ++ x.comp.fields.flatMap FT.t)
set_option maxRecDepth 100000 in
set_option maxHeartbeats 1000000 in
theorem sub_wr {wb : Nat} {w : World} {x : SB} {sv pv rv fv : Value} (h : SubR w x sv pv rv fv) (hm : Sml x) (hg : Rng x) :
    Writes wb w.heap.size 55 #[.pointer (some ⟨wb, 0, none⟩), .agg #[.bool x.final_, sv, .int .i64 x.comp.kind, pv, rv, fv]] w x.t := by
  intro w' cs T hS hl
  have hmf : ∀ (fn : Fn) (first cap : Array Value) (w : World), (Instr.makeFunc fn first cap).run Tryd.prog w = .ok (.func fn first cap) w := fun _ _ _ _ => rfl
  obtain ⟨fin, sup, ⟨kind, ps, rs, fs⟩⟩ := x
  obtain ⟨hs, hp, hr, hf⟩ := h
  obtain ⟨ms, mp, mr, mf⟩ := hm
  obtain ⟨gs, gk, gp, gr, gf⟩ := hg
  simp only at *
  obtain ⟨sa, scap, rfl, _, _⟩ := hs.one
  obtain ⟨pa, pcap, rfl, _, _⟩ := hp.one
  obtain ⟨ra, rcap, rfl, _, _⟩ := hr.one
  obtain ⟨fa, fcap, rfl, _, _⟩ := hf.one
  unfold SB.t at *
  simp only at *
  have C1 : Hid (Writes wb w.heap.size _ _ w _) := listI_wr (wb := wb) hs ms gs
  have C2 : Hid (Writes wb w.heap.size 62 #[.pointer (some ⟨wb, 0, none⟩), .int .i64 kind] w (numC kind)) := number_wr gk
  have C3 : Hid (Writes wb w.heap.size _ _ w _) := listV_wr (wb := wb) hp mp gp
  have C4 : Hid (Writes wb w.heap.size _ _ w _) := listV_wr (wb := wb) hr mr gr
  have C5 : Hid (Writes wb w.heap.size _ _ w _) := listF_wr (wb := wb) hf mf gf
  generalize numC (sup.length : Int) ++ sup.flatMap numC = t1 at *
  generalize numC kind = t2 at *
  generalize numC (ps.length : Int) ++ ps.flatMap VT.t = t3 at *
  generalize numC (rs.length : Int) ++ rs.flatMap VT.t = t4 at *
  generalize numC (fs.length : Int) ++ fs.flatMap FT.t = t5 at *
  simp only [List.length_append] at hl
  have HT : Hid (WrT wb w.heap.size w w') := T
  have HS : Hid (WrS wb w.heap.size w' cs) := hS
  have hB := hS.le
  have hwl : wb < w'.heap.size := hS.lt
  have hne : w'.heap.size ≠ wb := by omega
  clear hs hp hr hf hS T gs gk gp gr gf
  go_enter Tryd.func55, Tryd.ntmps55
  go_wp2_with fail
  generalize hW : (w'.alloc (.cells #[.bool fin, .slice sa sup.length scap, .int .i64 kind, .slice pa ps.length pcap, .slice ra rs.length rcap, .slice fa fs.length fcap] 32)) = W
  obtain ⟨G0, A0⟩ : Hid (Grew w' W) ∧ Hid (W.heap[w'.heap.size]? = some (.cells #[.bool fin, .slice sa sup.length scap, .int .i64 kind, .slice pa ps.length pcap, .slice ra rs.length rcap, .slice fa fs.length fcap] 32 (0, 0))) := by
    rw [← hW]; exact ⟨(Grew.refl _).alloc _, heap_alloc_last _ _⟩
  clear hW
  refine Calls.mono (flag_wr (w := W) W cs (WrT.refl _ _ _) (HS.out.grew G0.out) (by omega)) ?_
  rintro en w0 ⟨rfl, S0, T0⟩
  have HS0 : Hid (WrS wb w.heap.size w0 (cs ++ flagC fin)) := S0
  have HT0 : Hid (WrT wb w.heap.size w' w0) := (WrT.of_grew G0.out hB).trans T0
  have HA0 : Hid (w0.heap[w'.heap.size]? = some (.cells #[.bool fin, .slice sa sup.length scap, .int .i64 kind, .slice pa ps.length pcap, .slice ra rs.length rcap, .slice fa fs.length fcap] 32 (0, 0))) := T0.other A0.out hne (by decide)
  have c0 := cell_of HA0.out 0
  have c1 := cell_of HA0.out 1
  have c2 := cell_of HA0.out 2
  have c3 := cell_of HA0.out 3
  have c4 := cell_of HA0.out 4
  have c5 := cell_of HA0.out 5
  simp at c0 c1 c2 c3 c4 c5
  clear S0 T0 A0 HS
  go_wp2_with fail
  refine Calls.mono (C1.out w0 _ (HT.out.trans HT0.out) HS0.out (by simp only [List.length_append]; omega)) ?_
  rintro en w1 ⟨rfl, S1, T1⟩
  have HS1 : Hid (WrS wb w.heap.size w1 (cs ++ flagC fin ++ t1)) := S1
  have HT1 : Hid (WrT wb w.heap.size w' w1) := HT0.out.trans T1
  have HA1 : Hid (w1.heap[w'.heap.size]? = some (.cells #[.bool fin, .slice sa sup.length scap, .int .i64 kind, .slice pa ps.length pcap, .slice ra rs.length rcap, .slice fa fs.length fcap] 32 (0, 0))) := T1.other HA0.out hne (by decide)
  have d10 := cell_of HA1.out 0
  have d11 := cell_of HA1.out 1
  have d12 := cell_of HA1.out 2
  have d13 := cell_of HA1.out 3
  have d14 := cell_of HA1.out 4
  have d15 := cell_of HA1.out 5
  simp at d10 d11 d12 d13 d14 d15
  clear S1 T1 C1 HS0 HT0 HA0
  go_wp2_with fail
  refine Calls.mono (C2.out w1 _ (HT.out.trans HT1.out) HS1.out (by simp only [List.length_append]; omega)) ?_
  rintro en w2 ⟨rfl, S2, T2⟩
  have HS2 : Hid (WrS wb w.heap.size w2 (cs ++ flagC fin ++ t1 ++ t2)) := S2
  have HT2 : Hid (WrT wb w.heap.size w' w2) := HT1.out.trans T2
  have HA2 : Hid (w2.heap[w'.heap.size]? = some (.cells #[.bool fin, .slice sa sup.length scap, .int .i64 kind, .slice pa ps.length pcap, .slice ra rs.length rcap, .slice fa fs.length fcap] 32 (0, 0))) := T2.other HA1.out hne (by decide)
  have d20 := cell_of HA2.out 0
  have d21 := cell_of HA2.out 1
  have d22 := cell_of HA2.out 2
  have d23 := cell_of HA2.out 3
  have d24 := cell_of HA2.out 4
  have d25 := cell_of HA2.out 5
  simp at d20 d21 d22 d23 d24 d25
  clear S2 T2 C2 HS1 HT1 HA1
  go_wp2_with fail
  refine Calls.mono (C3.out w2 _ (HT.out.trans HT2.out) HS2.out (by simp only [List.length_append]; omega)) ?_
  rintro en w3 ⟨rfl, S3, T3⟩
  have HS3 : Hid (WrS wb w.heap.size w3 (cs ++ flagC fin ++ t1 ++ t2 ++ t3)) := S3
  have HT3 : Hid (WrT wb w.heap.size w' w3) := HT2.out.trans T3
  have HA3 : Hid (w3.heap[w'.heap.size]? = some (.cells #[.bool fin, .slice sa sup.length scap, .int .i64 kind, .slice pa ps.length pcap, .slice ra rs.length rcap, .slice fa fs.length fcap] 32 (0, 0))) := T3.other HA2.out hne (by decide)
  have d30 := cell_of HA3.out 0
  have d31 := cell_of HA3.out 1
  have d32 := cell_of HA3.out 2
  have d33 := cell_of HA3.out 3
  have d34 := cell_of HA3.out 4
  have d35 := cell_of HA3.out 5
  simp at d30 d31 d32 d33 d34 d35
  clear S3 T3 C3 HS2 HT2 HA2
  go_wp2_with fail
  refine Calls.mono (C4.out w3 _ (HT.out.trans HT3.out) HS3.out (by simp only [List.length_append]; omega)) ?_
  rintro en w4 ⟨rfl, S4, T4⟩
  have HS4 : Hid (WrS wb w.heap.size w4 (cs ++ flagC fin ++ t1 ++ t2 ++ t3 ++ t4)) := S4
  have HT4 : Hid (WrT wb w.heap.size w' w4) := HT3.out.trans T4
  have HA4 : Hid (w4.heap[w'.heap.size]? = some (.cells #[.bool fin, .slice sa sup.length scap, .int .i64 kind, .slice pa ps.length pcap, .slice ra rs.length rcap, .slice fa fs.length fcap] 32 (0, 0))) := T4.other HA3.out hne (by decide)
  have d40 := cell_of HA4.out 0
  have d41 := cell_of HA4.out 1
  have d42 := cell_of HA4.out 2
  have d43 := cell_of HA4.out 3
  have d44 := cell_of HA4.out 4
  have d45 := cell_of HA4.out 5
  simp at d40 d41 d42 d43 d44 d45
  clear S4 T4 C4 HS3 HT3 HA3
  go_wp2_with fail
  refine Calls.mono (C5.out w4 _ (HT.out.trans HT4.out) HS4.out (by simp only [List.length_append]; omega)) ?_
  rintro en w5 ⟨rfl, S5, T5⟩
  have HS5 : Hid (WrS wb w.heap.size w5 (cs ++ flagC fin ++ t1 ++ t2 ++ t3 ++ t4 ++ t5)) := S5
  have HT5 : Hid (WrT wb w.heap.size w' w5) := HT4.out.trans T5
  have HA5 : Hid (w5.heap[w'.heap.size]? = some (.cells #[.bool fin, .slice sa sup.length scap, .int .i64 kind, .slice pa ps.length pcap, .slice ra rs.length rcap, .slice fa fs.length fcap] 32 (0, 0))) := T5.other HA4.out hne (by decide)
  have d50 := cell_of HA5.out 0
  have d51 := cell_of HA5.out 1
  have d52 := cell_of HA5.out 2
  have d53 := cell_of HA5.out 3
  have d54 := cell_of HA5.out 4
  have d55 := cell_of HA5.out 5
  simp at d50 d51 d52 d53 d54 d55
  clear S5 T5 C5 HS4 HT4 HA4
  go_wp2_with fail
  go_end0
  refine ⟨rfl, ?_, HT5.out⟩
  have e : cs ++ (flagC fin ++ t1 ++ t2 ++ t3 ++ t4 ++ t5) = cs ++ flagC fin ++ t1 ++ t2 ++ t3 ++ t4 ++ t5 := by simp [List.append_assoc]
  rw [e]
  exact HS5.out
end Go.Proofs.YtojkonoffdlbpaaDoor
