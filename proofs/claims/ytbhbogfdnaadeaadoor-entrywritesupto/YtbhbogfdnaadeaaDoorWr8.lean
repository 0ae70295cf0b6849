/-
  The writer: the walks of putList at types, recType; written at groups, and PutRecType; no statement is proved here.
-/
import Derived.Test.YtbhbogfdnaadeaaDoorWr7
import Derived.Test.YtbhbogfdnaadeaaDoorAwk
namespace Go.Proofs.YtbhbogfdnaadeaaDoor
open Go.RowKit
set_option linter.unusedVariables false
set_option linter.unusedSimpArgs false
set_option linter.constructorNameAsVariable false

theorem compW_len {c : CT} {m : List Int} (h : compW c = .ok m) : m.length ≤ 150000 := by
  unfold compW at h
  split at h
  · split at h
    · cases h1 : listW 1000 valW c.params with
      | error e => rw [h1] at h; cases h
      | ok a =>
        have := listW_len (K := 12) (fun _ _ h => valW_len h) h1
        cases h2 : listW 1000 valW c.results with
        | error e => rw [h1, h2] at h; cases h
        | ok b =>
          have := listW_len (K := 12) (fun _ _ h => valW_len h) h2
          rw [h1, h2] at h
          cases h
          simp
          omega
    · split at h
      · cases h1 : listW 10000 fieldW c.fields with
        | error e => rw [h1] at h; cases h
        | ok a =>
          have := listW_len (K := 13) (fun _ _ h => fieldW_len h) h1
          rw [h1] at h
          cases h
          simp
          omega
      · cases h1 : fieldW (c.fields.headD ⟨⟨0, false, 0⟩, false⟩) with
        | error e => rw [h1] at h; cases h
        | ok a =>
          have := fieldW_len h1
          rw [h1] at h
          cases h
          simp
          omega
  · cases h
theorem subW_len {x : SB} {m : List Int} (h : subW x = .ok m) : m.length ≤ 170000 := by
  unfold subW at h
  split at h
  · cases h1 : declW x with
    | error e => rw [h1] at h; cases h
    | ok a =>
      have := declW_len h1
      cases h2 : compW x.comp with
      | error e => rw [h1, h2] at h; cases h
      | ok b =>
        have := compW_len h2
        rw [h1, h2] at h
        cases h
        simp
        omega
  · have := compW_len h
    omega
def smallS (x : SB) : Prop := x.comp.params.length ≤ 1073741824 ∧ x.comp.results.length ≤ 1073741824
set_option maxRecDepth 100000 in
set_option maxHeartbeats 1000000 in
theorem putListS2 {b B : Nat} {w w0 : World} {l : List Int} (h : WS b B w l) (g0 : Grew w0 w) (hb0 : w0.heap.size ≤ b) (v : Value) (xs : List SB) (hv : LS w0 v xs) (lim : Nat) (hlim : lim ≤ 10000) (hsm : ∀ x ∈ xs, smallS x) (hl : l.length ≤ 12000000000000) :
    Calls Tryd.prog 78 #[.pointer (some ⟨b, 0, none⟩), .int .i64 (lim : Int), v, .func (.func 77) #[] #[]] w (W2 b B w l (listW lim subW xs)) := by
  have H : Hid (WS b B w l) := h
  have hblt := h.lt
  have hb : b < w.heap.size := h.blt
  have G0 : Hid (Grew w0 w) := g0
  have HV : Hid (LS w0 v xs) := hv
  obtain ⟨o, ho, hrow⟩ := h.ex
  obtain ⟨oa, oc, rfl⟩ := row_one hrow
  have q0 := cell_of ho 0
  simp at q0
  obtain ⟨a, cap, rfl, hlc, hm⟩ := hv.one
  have hxm : xs.length ≤ 9223372036854775807 := by unfold maxLen at hm; omega
  clear h g0 hv ho hrow
  unfold listW
  by_cases hlen : lim < xs.length
  · rw [if_pos hlen]
    have d1 : decide ((lim : Int) < (xs.length : Int)) = true := by simp; omega
    have d2 : decide (lim < xs.length) = true := by simpa using hlen
    go_enter Tryd.func78, Tryd.ntmps78
    go_wp2_with fail
    refine (giveUp_any _ 2 _).mono ?_
    rintro en w9 ⟨rfl, h9⟩
    obtain rfl := h9.symm
    go_wp2_with fail
    exact ⟨rfl, ⟨_, rfl⟩, WT.refl _ _ _⟩
  · rw [if_neg hlen]
    have d1 : decide ((lim : Int) < (xs.length : Int)) = false := by simp; omega
    have d2 : decide (lim < xs.length) = false := by simpa using hlen
    have cv : IntKind.u64.wrap (xs.length : Int) = (xs.length : Int) := by rw [IntKind.wrap_u64]; omega
    have C := W2.okc (unsigned2 H.out (xs.length : Int) (by omega) (by omega) (by omega)) rfl
    have hpl := PU_len (xs.length : Int)
    obtain ⟨R, hR⟩ : ∃ R, R = thenW (.ok (PU xs.length)) (manyW subW xs) := ⟨_, rfl⟩
    rw [← hR]
    have HR : Hid (R = thenW (.ok (PU xs.length ++ [])) (manyW subW (xs.drop 0))) := by
      have : R = thenW (.ok (PU xs.length ++ [])) (manyW subW (xs.drop 0)) := by rw [hR]; simp
      exact this
    clear hR
    go_enter Tryd.func78, Tryd.ntmps78
    go_wp2_with fail
    refine C.mono ?_
    rintro en w1 ⟨rfl, t1, s1⟩
    have T1 : Hid (WT b B w w1) := t1
    have S1 : Hid (WS b B w1 (l ++ PU xs.length)) := s1
    clear C t1 s1 q0
    go_wp2_with fail
    go_loopw [27] (fun i_ wr => ∃ (i : Nat) (m : List Int), i_ = .int .i64 i ∧ i ≤ xs.length ∧ m.length ≤ 170000 * i ∧ Hid (WT b B w wr) ∧ Hid (WS b B wr (l ++ (PU xs.length ++ m))) ∧ Hid (R = thenW (.ok (PU xs.length ++ m)) (manyW subW (xs.drop i)))) (fun i_ _ => xs.length - (intOf i_).toNat)
    case atStart => exact ⟨0, [], rfl, by omega, by simp, T1, by simpa using S1, HR⟩
    case round =>
      obtain ⟨i, m, rfl, hi, hml, TR, SR, HE⟩ := hrel
      by_cases hlt : i < xs.length
      · obtain ⟨x, hx⟩ : ∃ x, xs[i]? = some x := ⟨_, List.getElem?_eq_getElem hlt⟩
        have d3 : decide ((i : Int) < (xs.length : Int)) = true := by simp; omega
        have d4 : decide (i < xs.length) = true := by simpa using hlt
        have GR : Grew w0 wr := TR.out.grew0 G0.out hb0 (by omega)
        obtain ⟨bb, off, ea, _, hc⟩ := HV.out.get (by omega)
        have hce := hc i x hx
        subst ea
        have HE2 := HE.out
        rw [manyW_drop hx] at HE2
        have hlx : (l ++ (PU xs.length ++ m)).length ≤ 14000000000000 := by simp; omega
        skip
        obtain ⟨sv, pv, rv, fv, hsr0, q0, q1, q2, q3, q4, q5⟩ := hce
        have p0 := cell_grew q0 GR
        have p1 := cell_grew q1 GR
        have p2 := cell_grew q2 GR
        have p3 := cell_grew q3 GR
        have p4 := cell_grew q4 GR
        have p5 := cell_grew q5 GR
        clear q0 q1 q2 q3 q4 q5
        obtain ⟨sa, sc, e1, _, _⟩ := hsr0.1.one
        obtain ⟨pa, pc, e2, _, _⟩ := hsr0.2.1.one
        obtain ⟨ra, rc, e3, _, _⟩ := hsr0.2.2.1.one
        obtain ⟨fa, fc, e4, _, _⟩ := hsr0.2.2.2.one
        subst e1
        subst e2
        subst e3
        subst e4
        have D : ∀ (w1 : World), WS b B w1 (l ++ (PU xs.length ++ m)) → Grew w0 w1 → Calls Tryd.prog 77 #[.pointer (some ⟨b, 0, none⟩), .agg #[.bool x.final_, .slice sa x.supers.length sc, .int .i64 x.comp.kind, .slice pa x.comp.params.length pc, .slice ra x.comp.results.length rc, .slice fa x.comp.fields.length fc]] w1 (W2 b B w1 (l ++ (PU xs.length ++ m)) (subW x)) := fun w1 u g => subType2 u g hb0 x.final_ _ x.supers hsr0.1 x.comp _ _ _ ⟨hsr0.2.1, hsr0.2.2.1, hsr0.2.2.2⟩ (hsm x (List.mem_of_getElem? hx)) (by omega)
        clear hsr0
        cases hy : subW x with
        | error e =>
          have HE3 : Hid (R = .error e) := by
            have : R = .error e := by rw [HE2, hy]; rfl
            exact this
          have D2 := W2.erc (D (wr.alloc (.cells #[.bool x.final_, .slice sa x.supers.length sc, .int .i64 x.comp.kind, .slice pa x.comp.params.length pc, .slice ra x.comp.results.length rc, .slice fa x.comp.fields.length fc] 101)) (SR.out.grew ((Grew.refl wr).alloc _)) (GR.alloc _)) hy
          clear hc HE HE2 D hx GR
          go_wp2_with fail
          refine D2.mono ?_
          rintro en w2 ⟨⟨p, rfl⟩, t2⟩
          have T2 : Hid (WT b B w w2) := (TR.out.trans (WT.of_grew ((Grew.refl wr).alloc _))).trans t2
          clear D2 t2
          go_wp2_with fail
          exact ⟨rfl, by rw [HE3.out]; exact ⟨⟨p, rfl⟩, T2.out⟩⟩
        | ok n =>
          have hnl := subW_len hy
          have HE3 : Hid (R = thenW (.ok (PU xs.length ++ (m ++ n))) (manyW subW (xs.drop (i + 1)))) := by
            have : R = thenW (.ok (PU xs.length ++ (m ++ n))) (manyW subW (xs.drop (i + 1))) := by rw [HE2, hy, ← List.append_assoc]; rfl
            exact this
          have D2 := W2.okc (D (wr.alloc (.cells #[.bool x.final_, .slice sa x.supers.length sc, .int .i64 x.comp.kind, .slice pa x.comp.params.length pc, .slice ra x.comp.results.length rc, .slice fa x.comp.fields.length fc] 101)) (SR.out.grew ((Grew.refl wr).alloc _)) (GR.alloc _)) hy
          clear hc HE HE2 D hx GR hy
          go_wp2_with fail
          refine D2.mono ?_
          rintro en w2 ⟨rfl, t2, s2⟩
          have T2 : Hid (WT b B w w2) := (TR.out.trans (WT.of_grew ((Grew.refl wr).alloc _))).trans t2
          have s3 : WS b B w2 (l ++ (PU xs.length ++ (m ++ n))) := by simpa [List.append_assoc] using s2
          have S2 : Hid (WS b B w2 (l ++ (PU xs.length ++ (m ++ n)))) := s3
          clear D2 t2 s2 s3 TR SR
          go_wp2_with fail
          go_roundw
          case rel => exact ⟨i + 1, m ++ n, by go_num, by omega, by simp; omega, T2, S2, HE3⟩
          case measure => simp [intOf]; omega
      · have d3 : decide ((i : Int) < (xs.length : Int)) = false := by simp; omega
        have d4 : decide (i < xs.length) = false := by simpa using hlt
        have HE3 : Hid (R = .ok (PU xs.length ++ m)) := by
          have : R = .ok (PU xs.length ++ m) := by rw [HE.out, List.drop_eq_nil_of_le (by omega)]; simp [manyW, thenW]
          exact this
        go_wp2_with fail
        go_end0
        rw [HE3.out]
        exact ⟨rfl, TR.out, SR.out⟩
set_option maxRecDepth 100000 in
set_option maxHeartbeats 1000000 in
theorem recType2 {b B : Nat} {w : World} {l : List Int} (h : WS b B w l) {w0 : World} (g0 : Grew w0 w) (hb0 : w0.heap.size ≤ b) (tv : Value) (ts : List SB) (ex : Bool) (hv : LS w0 tv ts) (hsm : ∀ x ∈ ts, smallS x) (hl : l.length ≤ 11000000000000) :
    Calls Tryd.prog 42 #[.pointer (some ⟨b, 0, none⟩), .agg #[tv, .bool ex]] w (W2 b B w l (recW ⟨ts, ex⟩)) := by
  have H : Hid (WS b B w l) := h
  have hb : b < w.heap.size := h.blt
  have hB0 : w0.heap.size ≤ B := by have := h.lt; omega
  have G0 : Hid (Grew w0 w) := g0
  clear h g0
  obtain ⟨ta, tc, rfl, htc, htm⟩ := hv.one
  have HV : Hid (LS w0 (.slice ta ts.length tc) ts) := hv
  clear hv
  unfold recW
  simp only
  by_cases h1 : ts.length = 1
  · rw [if_pos h1]
    have e1 : ((ts.length : Int) == 1) = true := by simp; omega
    have hpos : 0 < ts.length := by omega
    have hfn : ¬ ts = [] := fun h => by rw [h] at hpos; simp at hpos
    have hdi : decide (0 < ts.length) = true := decide_eq_true hpos
    obtain ⟨bb, off, ea, _, hc⟩ := HV.out.get hpos
    obtain ⟨x, hx⟩ : ∃ x, ts[0]? = some x := ⟨_, List.getElem?_eq_getElem hpos⟩
    have hd : ts.headD ⟨false, [], ⟨0, [], [], []⟩⟩ = x := by
      cases ts with
      | nil => simp at hpos
      | cons a r => simpa using hx
    rw [hd]
    have hce := hc 0 x hx
    rw [Nat.zero_mul, Nat.add_zero] at hce
    obtain ⟨sv, pv, rv, fv, hsr0, q0, q1, q2, q3, q4, q5⟩ := hce
    obtain ⟨sa, sc, e2, _, _⟩ := hsr0.1.one
    obtain ⟨pa, pc, e3, _, _⟩ := hsr0.2.1.one
    obtain ⟨ra, rc, e4, _, _⟩ := hsr0.2.2.1.one
    obtain ⟨fa, fc, e5, _, _⟩ := hsr0.2.2.2.one
    subst ea
    subst e2
    subst e3
    subst e4
    subst e5
    have p0 := cell_grew q0 G0.out
    have p1 := cell_grew q1 G0.out
    have p2 := cell_grew q2 G0.out
    have p3 := cell_grew q3 G0.out
    have p4 := cell_grew q4 G0.out
    have p5 := cell_grew q5 G0.out
    have hbb : bb < w.heap.size := lt_of_cell p0
    have D : Hid (∀ (w1 : World), WS b B w1 l → Grew w0 w1 → Calls Tryd.prog 77 #[.pointer (some ⟨b, 0, none⟩), .agg #[.bool x.final_, .slice sa x.supers.length sc, .int .i64 x.comp.kind, .slice pa x.comp.params.length pc, .slice ra x.comp.results.length rc, .slice fa x.comp.fields.length fc]] w1 (W2 b B w1 l (subW x))) := fun w1 u g => subType2 u g hb0 x.final_ _ x.supers hsr0.1 x.comp _ _ _ ⟨hsr0.2.1, hsr0.2.2.1, hsr0.2.2.2⟩ (hsm x (List.mem_of_getElem? hx)) (by omega)
    clear hsr0 q0 q1 q2 q3 q4 q5 hc hx hd h1
    cases hy : subW x with
    | error e =>
      have S0 : Hid (WS b B (w.alloc (.cells #[.slice (some ⟨bb, off, none⟩) ts.length tc, .bool ex] 28)) l) := H.out.grew ((Grew.refl w).alloc _)
      have T0 : Hid (WT b B w (w.alloc (.cells #[.slice (some ⟨bb, off, none⟩) ts.length tc, .bool ex] 28))) := WT.of_grew ((Grew.refl w).alloc _)
      have N0 : Hid ((w.alloc (.cells #[.slice (some ⟨bb, off, none⟩) ts.length tc, .bool ex] 28)).heap[w.heap.size]? = some (.cells #[.slice (some ⟨bb, off, none⟩) ts.length tc, .bool ex] 28 (0, 0))) := heap_alloc_last _ _
      go_enter Tryd.func42, Tryd.ntmps42
      go_wp2_with fail
      refine (W2.erc (D.out _ S0.out (T0.out.grew0 G0.out hb0 hB0)) hy).mono ?_
      rintro en w1 ⟨⟨p, rfl⟩, t1⟩
      have T1 : Hid (WT b B w w1) := T0.out.trans t1
      clear t1
      go_wp2_with fail
      exact ⟨rfl, ⟨p, rfl⟩, T1.out⟩
    | ok m =>
      have S0 : Hid (WS b B (w.alloc (.cells #[.slice (some ⟨bb, off, none⟩) ts.length tc, .bool ex] 28)) l) := H.out.grew ((Grew.refl w).alloc _)
      have T0 : Hid (WT b B w (w.alloc (.cells #[.slice (some ⟨bb, off, none⟩) ts.length tc, .bool ex] 28))) := WT.of_grew ((Grew.refl w).alloc _)
      have N0 : Hid ((w.alloc (.cells #[.slice (some ⟨bb, off, none⟩) ts.length tc, .bool ex] 28)).heap[w.heap.size]? = some (.cells #[.slice (some ⟨bb, off, none⟩) ts.length tc, .bool ex] 28 (0, 0))) := heap_alloc_last _ _
      go_enter Tryd.func42, Tryd.ntmps42
      go_wp2_with fail
      refine (W2.okc (D.out _ S0.out (T0.out.grew0 G0.out hb0 hB0)) hy).mono ?_
      rintro en w1 ⟨rfl, t1, s1⟩
      have T1 : Hid (WT b B w w1) := T0.out.trans t1
      have S1 : Hid (WS b B w1 (l ++ m)) := s1
      have N1 : Hid (w1.heap[w.heap.size]? = some (.cells #[.slice (some ⟨bb, off, none⟩) ts.length tc, .bool ex] 28 (0, 0))) := t1.other N0.out (by simp; omega) (NoT.of N0.out (by decide))
      clear t1 s1 T0 S0 N0
      go_wp2_with fail
      go_end0
      exact ⟨rfl, T1.out, by have := S1.out; simpa [List.append_assoc] using this⟩
  · rw [if_neg h1]
    have e1 : ((ts.length : Int) == 1) = false := by simp; omega
    clear h1
    cases hy : listW 10000 subW ts with
    | error e =>
      rw [thenW_ee rfl rfl]
      have S0 : Hid (WS b B (w.alloc (.cells #[.slice ta ts.length tc, .bool ex] 28)) l) := H.out.grew ((Grew.refl w).alloc _)
      have T0 : Hid (WT b B w (w.alloc (.cells #[.slice ta ts.length tc, .bool ex] 28))) := WT.of_grew ((Grew.refl w).alloc _)
      have N0 : Hid ((w.alloc (.cells #[.slice ta ts.length tc, .bool ex] 28)).heap[w.heap.size]? = some (.cells #[.slice ta ts.length tc, .bool ex] 28 (0, 0))) := heap_alloc_last _ _
      go_enter Tryd.func42, Tryd.ntmps42
      go_wp2_with fail
      have RN := reads_new (w.alloc (.cells #[.slice ta ts.length tc, .bool ex] 28)) 78 5
      rw [alloc_size] at RN
      refine (W2.okc (put2 (r := [78]) (S0.out.grew ((Grew.refl _).alloc _)) RN (by simp; omega)) rfl).mono ?_
      rintro en w1 ⟨rfl, t1, s1⟩
      have T1 : Hid (WT b B w w1) := (T0.out.trans (WT.of_grew ((Grew.refl _).alloc _))).trans t1
      have S1 : Hid (WS b B w1 (l ++ [78])) := s1
      have N1 : Hid (w1.heap[w.heap.size]? = some (.cells #[.slice ta ts.length tc, .bool ex] 28 (0, 0))) := t1.other (heap_alloc N0.out _) (by simp; omega) (NoT.of (heap_alloc N0.out _) (by decide))
      clear t1 s1 T0 S0 N0 RN
      have n0_1 := cell_of N1.out 0
      have n1_1 := cell_of N1.out 1
      simp at n0_1 n1_1
      go_wp2_with fail
      refine (W2.erc (putListS2 S1.out (T1.out.grew0 G0.out hb0 hB0) hb0 _ ts HV.out 10000 (by decide) hsm (by simp; omega)) hy).mono ?_
      rintro en w2 ⟨⟨p, rfl⟩, t2⟩
      have T2 : Hid (WT b B w w2) := T1.out.trans t2
      clear t2
      go_wp2_with fail
      exact ⟨rfl, ⟨p, rfl⟩, T2.out⟩
    | ok m =>
      rw [thenW_ok rfl rfl]
      have S0 : Hid (WS b B (w.alloc (.cells #[.slice ta ts.length tc, .bool ex] 28)) l) := H.out.grew ((Grew.refl w).alloc _)
      have T0 : Hid (WT b B w (w.alloc (.cells #[.slice ta ts.length tc, .bool ex] 28))) := WT.of_grew ((Grew.refl w).alloc _)
      have N0 : Hid ((w.alloc (.cells #[.slice ta ts.length tc, .bool ex] 28)).heap[w.heap.size]? = some (.cells #[.slice ta ts.length tc, .bool ex] 28 (0, 0))) := heap_alloc_last _ _
      go_enter Tryd.func42, Tryd.ntmps42
      go_wp2_with fail
      have RN := reads_new (w.alloc (.cells #[.slice ta ts.length tc, .bool ex] 28)) 78 5
      rw [alloc_size] at RN
      refine (W2.okc (put2 (r := [78]) (S0.out.grew ((Grew.refl _).alloc _)) RN (by simp; omega)) rfl).mono ?_
      rintro en w1 ⟨rfl, t1, s1⟩
      have T1 : Hid (WT b B w w1) := (T0.out.trans (WT.of_grew ((Grew.refl _).alloc _))).trans t1
      have S1 : Hid (WS b B w1 (l ++ [78])) := s1
      have N1 : Hid (w1.heap[w.heap.size]? = some (.cells #[.slice ta ts.length tc, .bool ex] 28 (0, 0))) := t1.other (heap_alloc N0.out _) (by simp; omega) (NoT.of (heap_alloc N0.out _) (by decide))
      clear t1 s1 T0 S0 N0 RN
      have n0_1 := cell_of N1.out 0
      have n1_1 := cell_of N1.out 1
      simp at n0_1 n1_1
      go_wp2_with fail
      refine (W2.okc (putListS2 S1.out (T1.out.grew0 G0.out hb0 hB0) hb0 _ ts HV.out 10000 (by decide) hsm (by simp; omega)) hy).mono ?_
      rintro en w2 ⟨rfl, t2, s2⟩
      have T2 : Hid (WT b B w w2) := T1.out.trans t2
      have S2 : Hid (WS b B w2 ((l ++ [78]) ++ m)) := s2
      have N2 : Hid (w2.heap[w.heap.size]? = some (.cells #[.slice ta ts.length tc, .bool ex] 28 (0, 0))) := t2.other N1.out (by simp; omega) (NoT.of N1.out (by decide))
      clear t2 s2 T1 S1 N1
      go_wp2_with fail
      go_end0
      exact ⟨rfl, T2.out, by have := S2.out; simpa [List.append_assoc] using this⟩
end Go.Proofs.YtbhbogfdnaadeaaDoor
