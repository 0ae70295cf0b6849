/-
  The text of a rolled up group tells it; no statement is proved here.
-/
import Derived.Test.YtnmbniojejckpaaGreatDoorCWs
import Derived.Laws.IdiomStrings
set_option maxRecDepth 100000
set_option maxHeartbeats 8000000
namespace Go.Proofs.YtnmbniojejckpaaGreatDoor
open Go.RowKit
set_option linter.unusedVariables false
set_option linter.unusedSimpArgs false
/- All numbers are of 64 bits. -/
structure Rng (x : SB) : Prop where
  s : ∀ n ∈ x.supers, R64 n
  k : R64 x.comp.kind
  p : ∀ v ∈ x.comp.params, R64 v.num ∧ R64 v.heap
  r : ∀ v ∈ x.comp.results, R64 v.num ∧ R64 v.heap
  f : ∀ v ∈ x.comp.fields, R64 v.ty.num ∧ R64 v.ty.heap
def SB.t (x : SB) : List Value := flagC x.final_ ++ (numC (x.supers.length : Int) ++ x.supers.flatMap numC) ++ numC x.comp.kind ++ (numC (x.comp.params.length : Int) ++ x.comp.params.flatMap VT.t) ++ (numC (x.comp.results.length : Int) ++ x.comp.results.flatMap VT.t) ++ (numC (x.comp.fields.length : Int) ++ x.comp.fields.flatMap FT.t)
theorem sub_wr {wb : Nat} {w : World} {x : SB} {sv pv rv fv : Value} (h : SubR w x sv pv rv fv) (hm : Sml x) (hg : Rng x) :
    Writes wb w.heap.size 157 #[.pointer (some ⟨wb, 0, none⟩), .agg #[.bool x.final_, sv, .int .i64 x.comp.kind, pv, rv, fv]] w x.t := by
  intro w' cs T hS hl
  have hmf : ∀ (fn : Fn) (first cap : Array Value) (w : World), (Instr.makeFunc fn first cap).run Tryz.prog w = .ok (.func fn first cap) w := fun _ _ _ _ => rfl
  obtain ⟨fin, sup, ⟨kind, ps, rs, fs⟩⟩ := x
  obtain ⟨hs, hp, hr, hf⟩ := h
  obtain ⟨ms, mp, mr, mf⟩ := hm
  obtain ⟨gs, gk, gp, gr, gf⟩ := hg
  simp only at *
  obtain ⟨sa, scap, rfl, _, _⟩ := hs.one
  obtain ⟨pa, pcap, rfl, _, _⟩ := hp.one
  obtain ⟨ra, rcap, rfl, _, _⟩ := hr.one
  obtain ⟨fa, fcap, rfl, _, _⟩ := hf.one
  unfold SB.t at *
  simp only at *
  have C1 : Hid (Writes wb w.heap.size _ _ w _) := listI_wr (wb := wb) hs ms gs
  have C2 : Hid (Writes wb w.heap.size 164 #[.pointer (some ⟨wb, 0, none⟩), .int .i64 kind] w (numC kind)) := number_wr gk
  have C3 : Hid (Writes wb w.heap.size _ _ w _) := listV_wr (wb := wb) hp mp gp
  have C4 : Hid (Writes wb w.heap.size _ _ w _) := listV_wr (wb := wb) hr mr gr
  have C5 : Hid (Writes wb w.heap.size _ _ w _) := listF_wr (wb := wb) hf mf gf
  generalize numC (sup.length : Int) ++ sup.flatMap numC = t1 at *
  generalize numC kind = t2 at *
  generalize numC (ps.length : Int) ++ ps.flatMap VT.t = t3 at *
  generalize numC (rs.length : Int) ++ rs.flatMap VT.t = t4 at *
  generalize numC (fs.length : Int) ++ fs.flatMap FT.t = t5 at *
  simp only [List.length_append] at hl
  have HT : Hid (WrT wb w.heap.size w w') := T
  have HS : Hid (WrS wb w.heap.size w' cs) := hS
  have hB := hS.le
  have hwl : wb < w'.heap.size := hS.lt
  have hne : w'.heap.size ≠ wb := by omega
  clear hs hp hr hf hS T gs gk gp gr gf
  go_enter Tryz.func157, Tryz.ntmps157
  go_wp2_with fail
  generalize hW : (w'.alloc (.cells #[.bool fin, .slice sa sup.length scap, .int .i64 kind, .slice pa ps.length pcap, .slice ra rs.length rcap, .slice fa fs.length fcap] 108)) = W
  obtain ⟨G0, A0⟩ : Hid (Grew w' W) ∧ Hid (W.heap[w'.heap.size]? = some (.cells #[.bool fin, .slice sa sup.length scap, .int .i64 kind, .slice pa ps.length pcap, .slice ra rs.length rcap, .slice fa fs.length fcap] 108 (0, 0))) := by
    rw [← hW]; exact ⟨(Grew.refl _).alloc _, heap_alloc_last _ _⟩
  clear hW
  refine Calls.mono (flag_wr (w := W) W cs (WrT.refl _ _ _) (HS.out.grew G0.out) (by omega)) ?_
  rintro en w0 ⟨rfl, S0, T0⟩
  have HS0 : Hid (WrS wb w.heap.size w0 (cs ++ flagC fin)) := S0
  have HT0 : Hid (WrT wb w.heap.size w' w0) := (WrT.of_grew G0.out hB).trans T0
  have HA0 : Hid (w0.heap[w'.heap.size]? = some (.cells #[.bool fin, .slice sa sup.length scap, .int .i64 kind, .slice pa ps.length pcap, .slice ra rs.length rcap, .slice fa fs.length fcap] 108 (0, 0))) := T0.other A0.out hne (by decide)
  have c0 := cell_of HA0.out 0
  have c1 := cell_of HA0.out 1
  have c2 := cell_of HA0.out 2
  have c3 := cell_of HA0.out 3
  have c4 := cell_of HA0.out 4
  have c5 := cell_of HA0.out 5
  simp at c0 c1 c2 c3 c4 c5
  clear S0 T0 A0 HS
  go_wp2_with fail
  refine Calls.mono (C1.out w0 _ (HT.out.trans HT0.out) HS0.out (by simp only [List.length_append]; omega)) ?_
  rintro en w1 ⟨rfl, S1, T1⟩
  have HS1 : Hid (WrS wb w.heap.size w1 (cs ++ flagC fin ++ t1)) := S1
  have HT1 : Hid (WrT wb w.heap.size w' w1) := HT0.out.trans T1
  have HA1 : Hid (w1.heap[w'.heap.size]? = some (.cells #[.bool fin, .slice sa sup.length scap, .int .i64 kind, .slice pa ps.length pcap, .slice ra rs.length rcap, .slice fa fs.length fcap] 108 (0, 0))) := T1.other HA0.out hne (by decide)
  have d10 := cell_of HA1.out 0
  have d11 := cell_of HA1.out 1
  have d12 := cell_of HA1.out 2
  have d13 := cell_of HA1.out 3
  have d14 := cell_of HA1.out 4
  have d15 := cell_of HA1.out 5
  simp at d10 d11 d12 d13 d14 d15
  clear S1 T1 C1 HS0 HT0 HA0
  go_wp2_with fail
  refine Calls.mono (C2.out w1 _ (HT.out.trans HT1.out) HS1.out (by simp only [List.length_append]; omega)) ?_
  rintro en w2 ⟨rfl, S2, T2⟩
  have HS2 : Hid (WrS wb w.heap.size w2 (cs ++ flagC fin ++ t1 ++ t2)) := S2
  have HT2 : Hid (WrT wb w.heap.size w' w2) := HT1.out.trans T2
  have HA2 : Hid (w2.heap[w'.heap.size]? = some (.cells #[.bool fin, .slice sa sup.length scap, .int .i64 kind, .slice pa ps.length pcap, .slice ra rs.length rcap, .slice fa fs.length fcap] 108 (0, 0))) := T2.other HA1.out hne (by decide)
  have d20 := cell_of HA2.out 0
  have d21 := cell_of HA2.out 1
  have d22 := cell_of HA2.out 2
  have d23 := cell_of HA2.out 3
  have d24 := cell_of HA2.out 4
  have d25 := cell_of HA2.out 5
  simp at d20 d21 d22 d23 d24 d25
  clear S2 T2 C2 HS1 HT1 HA1
  go_wp2_with fail
  refine Calls.mono (C3.out w2 _ (HT.out.trans HT2.out) HS2.out (by simp only [List.length_append]; omega)) ?_
  rintro en w3 ⟨rfl, S3, T3⟩
  have HS3 : Hid (WrS wb w.heap.size w3 (cs ++ flagC fin ++ t1 ++ t2 ++ t3)) := S3
  have HT3 : Hid (WrT wb w.heap.size w' w3) := HT2.out.trans T3
  have HA3 : Hid (w3.heap[w'.heap.size]? = some (.cells #[.bool fin, .slice sa sup.length scap, .int .i64 kind, .slice pa ps.length pcap, .slice ra rs.length rcap, .slice fa fs.length fcap] 108 (0, 0))) := T3.other HA2.out hne (by decide)
  have d30 := cell_of HA3.out 0
  have d31 := cell_of HA3.out 1
  have d32 := cell_of HA3.out 2
  have d33 := cell_of HA3.out 3
  have d34 := cell_of HA3.out 4
  have d35 := cell_of HA3.out 5
  simp at d30 d31 d32 d33 d34 d35
  clear S3 T3 C3 HS2 HT2 HA2
  go_wp2_with fail
  refine Calls.mono (C4.out w3 _ (HT.out.trans HT3.out) HS3.out (by simp only [List.length_append]; omega)) ?_
  rintro en w4 ⟨rfl, S4, T4⟩
  have HS4 : Hid (WrS wb w.heap.size w4 (cs ++ flagC fin ++ t1 ++ t2 ++ t3 ++ t4)) := S4
  have HT4 : Hid (WrT wb w.heap.size w' w4) := HT3.out.trans T4
  have HA4 : Hid (w4.heap[w'.heap.size]? = some (.cells #[.bool fin, .slice sa sup.length scap, .int .i64 kind, .slice pa ps.length pcap, .slice ra rs.length rcap, .slice fa fs.length fcap] 108 (0, 0))) := T4.other HA3.out hne (by decide)
  have d40 := cell_of HA4.out 0
  have d41 := cell_of HA4.out 1
  have d42 := cell_of HA4.out 2
  have d43 := cell_of HA4.out 3
  have d44 := cell_of HA4.out 4
  have d45 := cell_of HA4.out 5
  simp at d40 d41 d42 d43 d44 d45
  clear S4 T4 C4 HS3 HT3 HA3
  go_wp2_with fail
  refine Calls.mono (C5.out w4 _ (HT.out.trans HT4.out) HS4.out (by simp only [List.length_append]; omega)) ?_
  rintro en w5 ⟨rfl, S5, T5⟩
  have HS5 : Hid (WrS wb w.heap.size w5 (cs ++ flagC fin ++ t1 ++ t2 ++ t3 ++ t4 ++ t5)) := S5
  have HT5 : Hid (WrT wb w.heap.size w' w5) := HT4.out.trans T5
  have HA5 : Hid (w5.heap[w'.heap.size]? = some (.cells #[.bool fin, .slice sa sup.length scap, .int .i64 kind, .slice pa ps.length pcap, .slice ra rs.length rcap, .slice fa fs.length fcap] 108 (0, 0))) := T5.other HA4.out hne (by decide)
  have d50 := cell_of HA5.out 0
  have d51 := cell_of HA5.out 1
  have d52 := cell_of HA5.out 2
  have d53 := cell_of HA5.out 3
  have d54 := cell_of HA5.out 4
  have d55 := cell_of HA5.out 5
  simp at d50 d51 d52 d53 d54 d55
  clear S5 T5 C5 HS4 HT4 HA4
  go_wp2_with fail
  go_end0
  refine ⟨rfl, ?_, HT5.out⟩
  have e : cs ++ (flagC fin ++ t1 ++ t2 ++ t3 ++ t4 ++ t5) = cs ++ flagC fin ++ t1 ++ t2 ++ t3 ++ t4 ++ t5 := by simp [List.append_assoc]
  rw [e]
  exact HS5.out
/- Bytes, as cells. -/
def Byt (cs : List Value) : Prop := ∃ l : List UInt8, cs = Lib.byteCells l
theorem Byt.app {a b : List Value} (h : Byt a) (k : Byt b) : Byt (a ++ b) := by
  obtain ⟨x, rfl⟩ := h
  obtain ⟨y, rfl⟩ := k
  exact ⟨x ++ y, by simp [Lib.byteCells]⟩
theorem Byt.flat {α : Type} {f : α → List Value} (h : ∀ a, Byt (f a)) : ∀ l : List α, Byt (l.flatMap f)
  | [] => ⟨[], rfl⟩
  | a :: r => by rw [List.flatMap_cons]; exact (h a).app (Byt.flat h r)
theorem byt_num (n : Int) : Byt (numC n) := ⟨Lib.itoa n ++ [32], by simp [numC, Lib.byteCells]⟩
theorem byt_flag (b : Bool) : Byt (flagC b) := byt_num _
theorem byt_val (x : VT) : Byt x.t := ((byt_num _).app (byt_flag _)).app (byt_num _)
theorem byt_field (x : FT) : Byt x.t := (byt_flag _).app (byt_val _)
theorem byt_sub (x : SB) : Byt x.t := (((((byt_flag _).app ((byt_num _).app (Byt.flat byt_num _))).app (byt_num _)).app ((byt_num _).app (Byt.flat byt_val _))).app ((byt_num _).app (Byt.flat byt_val _))).app ((byt_num _).app (Byt.flat byt_field _))
theorem byt_subs (l : List SB) : Byt (l.flatMap SB.t) := Byt.flat byt_sub l
theorem conv_nil (w : World) : (convert 215 9 (.slice none 0 0)).run Tryz.prog w = .ok (.string ⟨#[]⟩) w := by
  rw [run_convert_bytes_string w 215 9 5 none 0 0 Tryz.underlying215 Tryz.underlying5 Tryz.underlying9]
  rfl
theorem text_any {w : World} {tv : Value} {l : List SB} {ex : Bool} (h : LS w tv l) (hl : l.length ≤ 1048576) (hm : ∀ x ∈ l, Sml x) (hg : ∀ x ∈ l, Rng x) (ht : Lib.TabIs Tryz.prog w "internal/strconv.uint64pow10" .u64 Lib.pow10Tab) (hb : (l.flatMap SB.t).length ≤ 140737480000000) :
    Calls Tryz.prog 155 #[.agg #[tv, .bool ex]] w fun en w' => ∃ s : ByteArray, en = .returned (.string s) ∧ Lib.byteCells s.data.toList = l.flatMap SB.t ∧ Grew w w' := by
  obtain ⟨a, cap, hv, hcap, hmax⟩ := h.one
  subst hv
  have H : Hid (LS w (.slice a l.length cap) l) := h
  have CC : Hid (∀ x ∈ l, ∀ sv pv rv fv, SubR w x sv pv rv fv → Writes (w.heap.size + 1) w.heap.size 157 #[.pointer (some ⟨w.heap.size + 1, 0, none⟩), .agg #[.bool x.final_, sv, .int .i64 x.comp.kind, pv, rv, fv]] w x.t) := fun x hx sv pv rv fv hr => sub_wr hr (hm x hx) (hg x hx)
  have HTab : Hid (Lib.TabBelow Tryz.prog w.heap.size w "internal/strconv.uint64pow10" .u64 Lib.pow10Tab) := Lib.tabBelow_of_tabIs ht
  clear h hm hg ht
  go_enter Tryz.func155, Tryz.ntmps155
  go_wp2_with fail
  generalize hW : ((w.alloc (.cells #[.slice a l.length cap, .bool ex] 102)).alloc (.cells #[.slice none 0 0] 217)) = W
  have G0 : Grew w W := by rw [← hW]; exact ((Grew.refl w).alloc _).alloc _
  have A1 : BX W (w.heap.size + 1) 217 (.slice none 0 0) := by
    rw [← hW, ← alloc_size w (.cells #[.slice a l.length cap, .bool ex] 102)]
    exact heap_alloc_last _ _
  clear hW
  have T0 : Hid (WrT (w.heap.size + 1) w.heap.size w W) := WrT.of_grew G0 (Nat.le_refl _)
  have S0 : Hid (WrS (w.heap.size + 1) w.heap.size W []) := ⟨⟨_, A1, World.ownsRow_nil _ _ _ _⟩, by omega, HTab.out.on G0.1⟩
  clear G0 A1 HTab
  go_loopw [11] (fun i_ w2 => ∃ i : Nat, i_ = .int .i64 i ∧ i ≤ l.length ∧ Hid (WrS (w.heap.size + 1) w.heap.size w2 ((l.take i).flatMap SB.t)) ∧ Hid (WrT (w.heap.size + 1) w.heap.size w w2)) (fun i_ _ => l.length - (intOf i_).toNat)
  case atStart => exact ⟨0, rfl, Nat.zero_le _, by simpa using S0, T0⟩
  case round =>
    obtain ⟨i, rfl, hi, S2, T2⟩ := hrel
    obtain ⟨w0, hw0⟩ : ∃ w0, w0 = wr := ⟨_, rfl⟩
    rw [← hw0] at S2 T2 ⊢
    clear hw0
    have g2 : Grew w w0 := ⟨T2.out.1, T2.out.2.2⟩
    by_cases hlt : i < l.length
    · obtain ⟨x, hx⟩ : ∃ x, l[i]? = some x := ⟨_, List.getElem?_eq_getElem hlt⟩
      obtain ⟨b, off, ha, hc', hE⟩ := H.out.get (by omega)
      subst ha
      obtain ⟨sv, pv, rv, fv, hSR, c0, c1, c2, c3, c4, c5⟩ := hE i x hx
      clear hE
      have k0 := cell_grew c0 g2
      have k1 := cell_grew c1 g2
      have k2 := cell_grew c2 g2
      have k3 := cell_grew c3 g2
      have k4 := cell_grew c4 g2
      have k5 := cell_grew c5 g2
      have d1 : decide ((i : Int) < (l.length : Int)) = true := by simp; omega
      have d2 : decide (i < l.length) = true := by simp; omega
      have ht : (l.take (i + 1)).flatMap SB.t = (l.take i).flatMap SB.t ++ SB.t x := by rw [take_snoc hx, List.flatMap_append]; simp
      have hle : ((l.take (i + 1)).flatMap SB.t).length ≤ (l.flatMap SB.t).length := by
        have e : l.flatMap SB.t = (l.take (i + 1)).flatMap SB.t ++ (l.drop (i + 1)).flatMap SB.t := by rw [← List.flatMap_append, List.take_append_drop]
        rw [e, List.length_append]; omega
      have hle' := hle
      rw [ht, List.length_append] at hle'
      have hB2 := S2.out.le
      have C : Hid (∀ W, Grew w0 W → Calls Tryz.prog 157 #[.pointer (some ⟨w.heap.size + 1, 0, none⟩), .agg #[.bool x.final_, sv, .int .i64 x.comp.kind, pv, rv, fv]] W fun en w'' => en = .returned UNIT ∧ WrS (w.heap.size + 1) w.heap.size w'' ((l.take (i + 1)).flatMap SB.t) ∧ WrT (w.heap.size + 1) w.heap.size w0 w'') := fun W g => by
        refine Calls.mono (CC.out x (List.mem_of_getElem? hx) sv pv rv fv hSR W _ (T2.out.trans (WrT.of_grew g hB2)) (S2.out.grew g) (by omega)) ?_
        rintro en w'' ⟨he, h1, h2⟩
        exact ⟨he, by rw [ht]; exact h1, (WrT.of_grew g hB2).trans h2⟩
      obtain ⟨hs, hp, hr, hf⟩ := hSR
      obtain ⟨sa, scap, rfl, _, _⟩ := hs.one
      obtain ⟨pa, pcap, rfl, _, _⟩ := hp.one
      obtain ⟨ra, rcap, rfl, _, _⟩ := hr.one
      obtain ⟨fa, fcap, rfl, _, _⟩ := hf.one
      obtain ⟨tt, htt⟩ : ∃ tt, tt = (l.take (i + 1)).flatMap SB.t := ⟨_, rfl⟩
      have HTT : Hid (tt = (l.take (i + 1)).flatMap SB.t) := htt
      rw [← htt] at C ht hle
      clear htt
      obtain ⟨fin, sup, ⟨kind, ps, rs, fs⟩⟩ := x
      simp only at *
      clear hx ht hle g2 hs hp hr hf c0 c1 c2 c3 c4 c5
      go_wp2_with fail
      refine Calls.mono (C.out _ ((Grew.refl _).alloc _)) ?_
      rintro en w5 ⟨rfl, S5, T5⟩
      have HS5 : Hid (WrS (w.heap.size + 1) w.heap.size w5 tt) := S5
      have HT5 : Hid (WrT (w.heap.size + 1) w.heap.size w w5) := T2.out.trans T5
      clear S5 T5 C
      go_wp2_with fail
      go_roundw
      case rel => exact ⟨i + 1, by go_num, by omega, HTT.out ▸ HS5, HT5⟩
      case measure => simp [intOf]; omega
    · have d1 : decide ((i : Int) < (l.length : Int)) = false := by simp; omega
      have hin : l.take i = l := List.take_of_length_le (by omega)
      rw [hin] at S2
      obtain ⟨bs, hbs⟩ := byt_subs l
      have HBS : Hid (l.flatMap SB.t = Lib.byteCells bs) := hbs
      rw [hbs] at S2
      have hln : (Lib.byteCells bs).length = bs.length := by simp [Lib.byteCells]
      obtain ⟨⟨v, hbx, hr⟩, _, _⟩ := S2.out
      rw [hln] at hr
      have c0 := cell_of hbx 0
      simp at c0
      have hlb := lt_of_obj hbx
      have hr' := hr
      obtain ⟨hr1, ⟨hvn, hn0⟩ | ⟨g, cap', cur, hvv, hr3⟩⟩ := hr'
      · subst hvn
        have hcv := conv_nil w0
        have e : bs = [] := List.eq_nil_of_length_eq_zero (by omega)
        subst e
        clear S2 hbx hr hr1 hbs
        go_wp2_with fail
        go_ret
        exact ⟨_, rfl, by rw [HBS.out], g2⟩
      · subst hvv
        have hcv := run_convert_bytes_back (P := Tryz.prog) w0 215 9 5 ⟨g, 0, none⟩ cap' bs Tryz.underlying215 Tryz.underlying5 Tryz.underlying9 (fun j hj => hr.cells (g := g) rfl j _ (by simp [Lib.byteCells, hj]))
        clear S2 hbx hr hr1 hbs hr3
        go_wp2_with fail
        go_ret
        exact ⟨_, rfl, by rw [HBS.out], g2⟩
def valD (l : List UInt8) : Nat := l.foldl (fun a c => 10 * a + (c.toNat - 48)) 0
theorem valD_snoc (l : List UInt8) (c : UInt8) : valD (l ++ [c]) = 10 * valD l + (c.toNat - 48) := by simp [valD, List.foldl_append]
theorem dig_nat {k : Nat} (h : k < 10) : (UInt8.ofNat (48 + k)).toNat = 48 + k := by
  rw [UInt8.toNat_ofNat']; omega
theorem val_dec (u : Nat) : valD (Lib.decDigits u) = u := by
  induction u using Nat.strongRecOn with
  | _ u ih =>
    by_cases h : u < 10
    · rw [Lib.decDigits, dif_pos h]
      have := dig_nat h
      unfold valD
      simp only [List.foldl_cons, List.foldl_nil]
      omega
    · rw [Lib.decDigits, dif_neg h, valD_snoc, ih (u / 10) (by omega), dig_nat (Nat.mod_lt _ (by decide))]
      omega
theorem dec_mem (u : Nat) : ∀ c ∈ Lib.decDigits u, 48 ≤ c.toNat := by
  induction u using Nat.strongRecOn with
  | _ u ih =>
    intro c hc
    by_cases h : u < 10
    · rw [Lib.decDigits, dif_pos h, List.mem_singleton] at hc
      subst hc
      rw [dig_nat h]; omega
    · rw [Lib.decDigits, dif_neg h, List.mem_append, List.mem_singleton] at hc
      rcases hc with hc | hc
      · exact ih (u / 10) (by omega) c hc
      · subst hc
        rw [dig_nat (Nat.mod_lt _ (by decide))]; omega
theorem itoa_inj {n m : Int} (h : Lib.itoa n = Lib.itoa m) : n = m := by
  unfold Lib.itoa at h
  by_cases hn : n < 0 <;> by_cases hm : m < 0
  · rw [if_pos hn, if_pos hm] at h
    injection h with _ h
    have := congrArg valD h
    rw [val_dec, val_dec] at this
    omega
  · rw [if_pos hn, if_neg hm] at h
    have := dec_mem m.toNat 45 (by rw [← h]; simp)
    simp at this
  · rw [if_neg hn, if_pos hm] at h
    have := dec_mem n.toNat 45 (by rw [h]; simp)
    simp at this
  · rw [if_neg hn, if_neg hm] at h
    have := congrArg valD h
    rw [val_dec, val_dec] at this
    omega
theorem itoa_blank (n : Int) : ∀ c ∈ Lib.itoa n, c ≠ 32 := by
  intro c hc e
  subst e
  unfold Lib.itoa at hc
  split at hc
  · rcases List.mem_cons.1 hc with h | h
    · cases h
    · have := dec_mem _ _ h; simp at this
  · have := dec_mem _ _ hc; simp at this
def numB (n : Int) : List UInt8 := Lib.itoa n ++ [32]
/- What is written tells what it was, whatever stands behind it. -/
def Pre {α : Type} (f : α → List UInt8) : Prop := ∀ a b r s, f a ++ r = f b ++ s → a = b ∧ r = s
theorem split_blank : ∀ (a b r s : List UInt8), (∀ c ∈ a, c ≠ 32) → (∀ c ∈ b, c ≠ 32) → a ++ 32 :: r = b ++ 32 :: s → a = b ∧ r = s
  | [], [], r, s, _, _, h => by simpa using h
  | [], y :: b, r, s, _, hb, h => by
    rw [List.nil_append, List.cons_append] at h
    injection h with h1 _
    exact absurd h1.symm (hb y (by simp))
  | x :: a, [], r, s, ha, _, h => by
    rw [List.nil_append, List.cons_append] at h
    injection h with h1 _
    exact absurd h1 (ha x (by simp))
  | x :: a, y :: b, r, s, ha, hb, h => by
    rw [List.cons_append, List.cons_append] at h
    injection h with h1 h2
    obtain ⟨h3, h4⟩ := split_blank a b r s (fun c hc => ha c (by simp [hc])) (fun c hc => hb c (by simp [hc])) h2
    exact ⟨by rw [h1, h3], h4⟩
theorem pre_num : Pre numB := by
  intro a b r s h
  unfold numB at h
  rw [List.append_assoc, List.append_assoc] at h
  obtain ⟨h1, h2⟩ := split_blank _ _ r s (itoa_blank a) (itoa_blank b) (by simpa using h)
  exact ⟨itoa_inj h1, h2⟩
def flagB (b : Bool) : List UInt8 := numB (if b then 1 else 0)
theorem pre_flag : Pre flagB := by
  intro a b r s h
  obtain ⟨h1, h2⟩ := pre_num _ _ r s h
  exact ⟨by cases a <;> cases b <;> simp_all, h2⟩
def VT.b (x : VT) : List UInt8 := numB x.num ++ flagB x.null ++ numB x.heap
def FT.b (x : FT) : List UInt8 := flagB x.mut_ ++ x.ty.b
def listB {α : Type} (f : α → List UInt8) (l : List α) : List UInt8 := numB (l.length : Int) ++ l.flatMap f
def SB.b (x : SB) : List UInt8 := flagB x.final_ ++ listB numB x.supers ++ numB x.comp.kind ++ listB VT.b x.comp.params ++ listB VT.b x.comp.results ++ listB FT.b x.comp.fields
def txt (l : List SB) : List UInt8 := l.flatMap SB.b
theorem pre_V : Pre VT.b := by
  rintro ⟨a1, a2, a3⟩ ⟨b1, b2, b3⟩ r s h
  unfold VT.b at h
  simp only [List.append_assoc] at h
  obtain ⟨e1, h1⟩ := pre_num _ _ _ _ h
  obtain ⟨e2, h2⟩ := pre_flag _ _ _ _ h1
  obtain ⟨e3, h3⟩ := pre_num _ _ _ _ h2
  subst e1 e2 e3
  exact ⟨rfl, h3⟩
theorem pre_F : Pre FT.b := by
  rintro ⟨a1, a2⟩ ⟨b1, b2⟩ r s h
  unfold FT.b at h
  simp only [List.append_assoc] at h
  obtain ⟨e1, h1⟩ := pre_flag _ _ _ _ h
  obtain ⟨e2, h2⟩ := pre_V _ _ _ _ h1
  try simp only at e1 e2
  subst e1 e2
  exact ⟨rfl, h2⟩
theorem pre_flat {α : Type} {f : α → List UInt8} (hf : Pre f) : ∀ (a b : List α) (r s : List UInt8), a.length = b.length → a.flatMap f ++ r = b.flatMap f ++ s → a = b ∧ r = s
  | [], [], r, s, _, h => by simpa using h
  | x :: a, y :: b, r, s, hl, h => by
    rw [List.flatMap_cons, List.flatMap_cons, List.append_assoc, List.append_assoc] at h
    obtain ⟨e1, h⟩ := hf _ _ _ _ h
    obtain ⟨e2, h⟩ := pre_flat hf a b r s (by simpa using hl) h
    exact ⟨by rw [e1, e2], h⟩
theorem pre_list {α : Type} {f : α → List UInt8} (hf : Pre f) : Pre (listB f) := by
  intro a b r s h
  unfold listB at h
  simp only [List.append_assoc] at h
  obtain ⟨e1, h⟩ := pre_num _ _ _ _ h
  exact pre_flat hf a b r s (by omega) h
theorem pre_S : Pre SB.b := by
  rintro ⟨a1, a2, ⟨a3, a4, a5, a6⟩⟩ ⟨b1, b2, ⟨b3, b4, b5, b6⟩⟩ r s h
  unfold SB.b at h
  simp only [List.append_assoc] at h
  obtain ⟨e1, h1⟩ := pre_flag _ _ _ _ h
  obtain ⟨e2, h2⟩ := pre_list pre_num _ _ _ _ h1
  obtain ⟨e3, h3⟩ := pre_num _ _ _ _ h2
  obtain ⟨e4, h4⟩ := pre_list pre_V _ _ _ _ h3
  obtain ⟨e5, h5⟩ := pre_list pre_V _ _ _ _ h4
  obtain ⟨e6, h6⟩ := pre_list pre_F _ _ _ _ h5
  try simp only at e1 e2 e3 e4 e5 e6
  subst e1 e2 e3 e4 e5 e6
  exact ⟨rfl, h6⟩
theorem numB_ne (n : Int) : numB n ≠ [] := by unfold numB; simp
theorem SB.b_ne (x : SB) : x.b ≠ [] := by
  intro h
  unfold SB.b flagB at h
  simp only [List.append_eq_nil_iff] at h
  exact numB_ne _ h.1.1.1.1.1
theorem txt_inj : ∀ {a b : List SB}, txt a = txt b → a = b
  | [], [], _ => rfl
  | [], y :: b, h => by
    unfold txt at h
    rw [List.flatMap_nil, List.flatMap_cons] at h
    exact absurd (List.append_eq_nil_iff.1 h.symm).1 (SB.b_ne y)
  | x :: a, [], h => by
    unfold txt at h
    rw [List.flatMap_nil, List.flatMap_cons] at h
    exact absurd (List.append_eq_nil_iff.1 h).1 (SB.b_ne x)
  | x :: a, y :: b, h => by
    unfold txt at h
    rw [List.flatMap_cons, List.flatMap_cons] at h
    obtain ⟨e1, h⟩ := pre_S _ _ _ _ h
    rw [e1, txt_inj (a := a) (b := b) h]
/- The cells that are written are these bytes. -/
theorem bc_app (a b : List UInt8) : Lib.byteCells (a ++ b) = Lib.byteCells a ++ Lib.byteCells b := by simp [Lib.byteCells]
theorem num_bc (n : Int) : numC n = Lib.byteCells (numB n) := by
  unfold numC numB; rw [bc_app]; rfl
theorem flag_bc (b : Bool) : flagC b = Lib.byteCells (flagB b) := num_bc _
theorem V_bc (x : VT) : x.t = Lib.byteCells x.b := by
  unfold VT.t VT.b; rw [bc_app, bc_app, num_bc, flag_bc, num_bc]
theorem F_bc (x : FT) : x.t = Lib.byteCells x.b := by
  unfold FT.t FT.b; rw [bc_app, flag_bc, V_bc]
theorem flat_bc {α : Type} {f : α → List Value} {g : α → List UInt8} (h : ∀ a, f a = Lib.byteCells (g a)) : ∀ l : List α, l.flatMap f = Lib.byteCells (l.flatMap g)
  | [] => rfl
  | a :: l => by rw [List.flatMap_cons, List.flatMap_cons, bc_app, h a, flat_bc h l]
theorem S_bc (x : SB) : x.t = Lib.byteCells x.b := by
  unfold SB.t SB.b listB
  simp only [bc_app, num_bc, flag_bc, flat_bc num_bc, flat_bc V_bc, flat_bc F_bc]
theorem txt_bc (l : List SB) : l.flatMap SB.t = Lib.byteCells (txt l) := flat_bc S_bc l
theorem bc_inj : ∀ {a b : List UInt8}, Lib.byteCells a = Lib.byteCells b → a = b
  | [], [], _ => rfl
  | [], y :: b, h => by simp [Lib.byteCells] at h
  | x :: a, [], h => by simp [Lib.byteCells] at h
  | x :: a, y :: b, h => by
    simp only [Lib.byteCells, List.map_cons, List.cons.injEq] at h
    obtain ⟨h1, h2⟩ := h
    have e : x = y := by
      injection h1 with _ h1
      exact UInt8.toNat_inj.1 (by omega)
    rw [e, bc_inj (a := a) (b := b) h2]
theorem txt_len (l : List SB) : (txt l).length = (l.flatMap SB.t).length := by rw [txt_bc]; simp [Lib.byteCells]
end Go.Proofs.YtnmbniojejckpaaGreatDoor
