/-
  The writer: the walks of putList at value types, fields and numbers, and of valTypes; no statement is proved here.
-/
import Derived.Test.YtbhbogfdnaadeaaDoorLs8
import Derived.Test.YtbhbogfdnaadeaaDoorWr3
namespace Go.Proofs.YtbhbogfdnaadeaaDoor
open Go.RowKit
set_option linter.unusedVariables false
set_option linter.unusedSimpArgs false
set_option linter.constructorNameAsVariable false

def manyW {α : Type} (wr : α → Except Nat (List Int)) : List α → Except Nat (List Int)
  | [] => .ok []
  | x :: r => thenW (wr x) (manyW wr r)
def listW {α : Type} (lim : Nat) (wr : α → Except Nat (List Int)) (xs : List α) : Except Nat (List Int) := if lim < xs.length then .error 2 else thenW (.ok (PU xs.length)) (manyW wr xs)
theorem thenW_nil (r : Except Nat (List Int)) : thenW r (.ok []) = r := by
  cases r with
  | error e => rfl
  | ok m => simp [thenW]
theorem thenW_assoc (a b c : Except Nat (List Int)) : thenW a (thenW b c) = thenW (thenW a b) c := by
  cases a with
  | error e => rfl
  | ok m =>
    cases b with
    | error e => rfl
    | ok n =>
      cases c with
      | error e => rfl
      | ok k => simp [thenW]
theorem manyW_drop {α : Type} {wr : α → Except Nat (List Int)} {xs : List α} {i : Nat} {x : α} (hx : xs[i]? = some x) (m : List Int) : thenW (.ok m) (manyW wr (xs.drop i)) = thenW (thenW (.ok m) (wr x)) (manyW wr (xs.drop (i + 1))) := by
  obtain ⟨h1, e1⟩ := List.getElem?_eq_some_iff.1 hx
  rw [List.drop_eq_getElem_cons h1, e1, manyW, thenW_assoc]
theorem uidxW_len {n : Int} {m : List Int} (h : uidxW n = .ok m) : m.length ≤ 11 := by
  unfold uidxW at h
  split at h
  · cases h; exact PU_len n
  · cases h
theorem fieldW_len {f : FT} {m : List Int} (h : fieldW f = .ok m) : m.length ≤ 13 := by
  unfold fieldW at h
  cases hx : storW f.ty with
  | error e => rw [hx] at h; cases h
  | ok k =>
    have := storW_len hx
    rw [hx] at h
    cases h
    simp [flagB]
    omega
set_option maxRecDepth 100000 in
set_option maxHeartbeats 1000000 in
theorem putListV2 {b B : Nat} {w w0 : World} {l : List Int} (h : WS b B w l) (g0 : Grew w0 w) (hb0 : w0.heap.size ≤ b) (v : Value) (xs : List VT) (hv : LV w0 v xs) (lim : Nat) (hlim : lim ≤ 10000) (hl : l.length ≤ 17000000000000) :
    Calls Tryd.prog 134 #[.pointer (some ⟨b, 0, none⟩), .int .i64 (lim : Int), v, .func (.func 35) #[] #[]] w (W2 b B w l (listW lim valW xs)) := by
  have H : Hid (WS b B w l) := h
  have hblt := h.lt
  have hb : b < w.heap.size := h.blt
  have G0 : Hid (Grew w0 w) := g0
  have HV : Hid (LV w0 v xs) := hv
  obtain ⟨o, ho, hrow⟩ := h.ex
  obtain ⟨oa, oc, rfl⟩ := row_one hrow
  have q0 := cell_of ho 0
  simp at q0
  obtain ⟨a, cap, rfl, hlc, hm⟩ := hv.one
  have hxm : xs.length ≤ 9223372036854775807 := by unfold maxLen at hm; omega
  clear h g0 hv ho hrow
  unfold listW
  by_cases hlen : lim < xs.length
  · rw [if_pos hlen]
    have d1 : decide ((lim : Int) < (xs.length : Int)) = true := by simp; omega
    have d2 : decide (lim < xs.length) = true := by simpa using hlen
    go_enter Tryd.func134, Tryd.ntmps134
    go_wp2_with fail
    refine (giveUp_any _ 2 _).mono ?_
    rintro en w9 ⟨rfl, h9⟩
    obtain rfl := h9.symm
    go_wp2_with fail
    exact ⟨rfl, ⟨_, rfl⟩, WT.refl _ _ _⟩
  · rw [if_neg hlen]
    have d1 : decide ((lim : Int) < (xs.length : Int)) = false := by simp; omega
    have d2 : decide (lim < xs.length) = false := by simpa using hlen
    have cv : IntKind.u64.wrap (xs.length : Int) = (xs.length : Int) := by rw [IntKind.wrap_u64]; omega
    have C := W2.okc (unsigned2 H.out (xs.length : Int) (by omega) (by omega) (by omega)) rfl
    have hpl := PU_len (xs.length : Int)
    obtain ⟨R, hR⟩ : ∃ R, R = thenW (.ok (PU xs.length)) (manyW valW xs) := ⟨_, rfl⟩
    rw [← hR]
    have HR : Hid (R = thenW (.ok (PU xs.length ++ [])) (manyW valW (xs.drop 0))) := by
      have : R = thenW (.ok (PU xs.length ++ [])) (manyW valW (xs.drop 0)) := by rw [hR]; simp
      exact this
    clear hR
    go_enter Tryd.func134, Tryd.ntmps134
    go_wp2_with fail
    refine C.mono ?_
    rintro en w1 ⟨rfl, t1, s1⟩
    have T1 : Hid (WT b B w w1) := t1
    have S1 : Hid (WS b B w1 (l ++ PU xs.length)) := s1
    clear C t1 s1 q0
    go_wp2_with fail
    go_loopw [27] (fun i_ wr => ∃ (i : Nat) (m : List Int), i_ = .int .i64 i ∧ i ≤ xs.length ∧ m.length ≤ 12 * i ∧ Hid (WT b B w wr) ∧ Hid (WS b B wr (l ++ (PU xs.length ++ m))) ∧ Hid (R = thenW (.ok (PU xs.length ++ m)) (manyW valW (xs.drop i)))) (fun i_ _ => xs.length - (intOf i_).toNat)
    case atStart => exact ⟨0, [], rfl, by omega, by simp, T1, by simpa using S1, HR⟩
    case round =>
      obtain ⟨i, m, rfl, hi, hml, TR, SR, HE⟩ := hrel
      by_cases hlt : i < xs.length
      · obtain ⟨x, hx⟩ : ∃ x, xs[i]? = some x := ⟨_, List.getElem?_eq_getElem hlt⟩
        have d3 : decide ((i : Int) < (xs.length : Int)) = true := by simp; omega
        have d4 : decide (i < xs.length) = true := by simpa using hlt
        have GR : Grew w0 wr := TR.out.grew0 G0.out hb0 (by omega)
        obtain ⟨bb, off, ea, _, hc⟩ := (HV.out.grew GR).get (by omega)
        have hce := hc i x hx
        subst ea
        have HE2 := HE.out
        rw [manyW_drop hx] at HE2
        have hlx : (l ++ (PU xs.length ++ m)).length ≤ 17000000000000 + 1000000 := by simp; omega
        have D := fun (w1 : World) (u : WS b B w1 (l ++ (PU xs.length ++ m))) => valType2 u x (by omega)
        obtain ⟨vn, vb, vh⟩ := x
        obtain ⟨p0, p1, p2⟩ := hce
        unfold VT.v vt at D
        simp only at p0 p1 p2 D
        cases hy : valW ⟨vn, vb, vh⟩ with
        | error e =>
          have HE3 : Hid (R = .error e) := by
            have : R = .error e := by rw [HE2, hy]; rfl
            exact this
          have D2 := W2.erc (D (wr.alloc (.cells #[.int .i64 vn, .bool vb, .int .i64 vh] 23)) (SR.out.grew ((Grew.refl wr).alloc _))) hy
          clear hc HE HE2 D hx GR
          go_wp2_with fail
          refine D2.mono ?_
          rintro en w2 ⟨⟨p, rfl⟩, t2⟩
          have T2 : Hid (WT b B w w2) := (TR.out.trans (WT.of_grew ((Grew.refl wr).alloc _))).trans t2
          clear D2 t2
          go_wp2_with fail
          exact ⟨rfl, by rw [HE3.out]; exact ⟨⟨p, rfl⟩, T2.out⟩⟩
        | ok n =>
          have hnl := valW_len hy
          have HE3 : Hid (R = thenW (.ok (PU xs.length ++ (m ++ n))) (manyW valW (xs.drop (i + 1)))) := by
            have : R = thenW (.ok (PU xs.length ++ (m ++ n))) (manyW valW (xs.drop (i + 1))) := by rw [HE2, hy, ← List.append_assoc]; rfl
            exact this
          have D2 := W2.okc (D (wr.alloc (.cells #[.int .i64 vn, .bool vb, .int .i64 vh] 23)) (SR.out.grew ((Grew.refl wr).alloc _))) hy
          clear hc HE HE2 D hx GR hy
          go_wp2_with fail
          refine D2.mono ?_
          rintro en w2 ⟨rfl, t2, s2⟩
          have T2 : Hid (WT b B w w2) := (TR.out.trans (WT.of_grew ((Grew.refl wr).alloc _))).trans t2
          have s3 : WS b B w2 (l ++ (PU xs.length ++ (m ++ n))) := by simpa [List.append_assoc] using s2
          have S2 : Hid (WS b B w2 (l ++ (PU xs.length ++ (m ++ n)))) := s3
          clear D2 t2 s2 s3 TR SR
          go_wp2_with fail
          go_roundw
          case rel => exact ⟨i + 1, m ++ n, by go_num, by omega, by simp; omega, T2, S2, HE3⟩
          case measure => simp [intOf]; omega
      · have d3 : decide ((i : Int) < (xs.length : Int)) = false := by simp; omega
        have d4 : decide (i < xs.length) = false := by simpa using hlt
        have HE3 : Hid (R = .ok (PU xs.length ++ m)) := by
          have : R = .ok (PU xs.length ++ m) := by rw [HE.out, List.drop_eq_nil_of_le (by omega)]; simp [manyW, thenW]
          exact this
        go_wp2_with fail
        go_end0
        rw [HE3.out]
        exact ⟨rfl, TR.out, SR.out⟩
set_option maxRecDepth 100000 in
set_option maxHeartbeats 1000000 in
theorem valTypes2 {b B : Nat} {w w0 : World} {l : List Int} (h : WS b B w l) (g0 : Grew w0 w) (hb0 : w0.heap.size ≤ b) (v : Value) (xs : List VT) (hv : LV w0 v xs) (hl : l.length ≤ 17000000000000) :
    Calls Tryd.prog 121 #[.pointer (some ⟨b, 0, none⟩), v] w (W2 b B w l (listW 1000 valW xs)) := by
  have C := putListV2 h g0 hb0 v xs hv 1000 (by decide) hl
  obtain ⟨a, cap, rfl, _, _⟩ := hv.one
  clear h g0 hv
  generalize listW 1000 valW xs = R at *
  go_enter Tryd.func121, Tryd.ntmps121
  go_wp2_with fail
  refine C.mono ?_
  intro en w1 ha
  clear C
  cases R with
  | error e =>
    obtain ⟨⟨p, rfl⟩, t1⟩ := ha
    have T1 : Hid (WT b B w w1) := t1
    clear t1
    go_wp2_with fail
    exact ⟨rfl, ⟨p, rfl⟩, T1.out⟩
  | ok m =>
    obtain ⟨rfl, t1, s1⟩ := ha
    have F1 : Hid (WT b B w w1 ∧ WS b B w1 (l ++ m)) := ⟨t1, s1⟩
    clear t1 s1
    go_wp2_with fail
    go_end0
    exact ⟨rfl, F1.out⟩
set_option maxRecDepth 100000 in
set_option maxHeartbeats 1000000 in
theorem putListF2 {b B : Nat} {w w0 : World} {l : List Int} (h : WS b B w l) (g0 : Grew w0 w) (hb0 : w0.heap.size ≤ b) (v : Value) (xs : List FT) (hv : LF w0 v xs) (lim : Nat) (hlim : lim ≤ 10000) (hl : l.length ≤ 17000000000000) :
    Calls Tryd.prog 122 #[.pointer (some ⟨b, 0, none⟩), .int .i64 (lim : Int), v, .func (.func 123) #[] #[]] w (W2 b B w l (listW lim fieldW xs)) := by
  have H : Hid (WS b B w l) := h
  have hblt := h.lt
  have hb : b < w.heap.size := h.blt
  have G0 : Hid (Grew w0 w) := g0
  have HV : Hid (LF w0 v xs) := hv
  obtain ⟨o, ho, hrow⟩ := h.ex
  obtain ⟨oa, oc, rfl⟩ := row_one hrow
  have q0 := cell_of ho 0
  simp at q0
  obtain ⟨a, cap, rfl, hlc, hm⟩ := hv.one
  have hxm : xs.length ≤ 9223372036854775807 := by unfold maxLen at hm; omega
  clear h g0 hv ho hrow
  unfold listW
  by_cases hlen : lim < xs.length
  · rw [if_pos hlen]
    have d1 : decide ((lim : Int) < (xs.length : Int)) = true := by simp; omega
    have d2 : decide (lim < xs.length) = true := by simpa using hlen
    go_enter Tryd.func122, Tryd.ntmps122
    go_wp2_with fail
    refine (giveUp_any _ 2 _).mono ?_
    rintro en w9 ⟨rfl, h9⟩
    obtain rfl := h9.symm
    go_wp2_with fail
    exact ⟨rfl, ⟨_, rfl⟩, WT.refl _ _ _⟩
  · rw [if_neg hlen]
    have d1 : decide ((lim : Int) < (xs.length : Int)) = false := by simp; omega
    have d2 : decide (lim < xs.length) = false := by simpa using hlen
    have cv : IntKind.u64.wrap (xs.length : Int) = (xs.length : Int) := by rw [IntKind.wrap_u64]; omega
    have C := W2.okc (unsigned2 H.out (xs.length : Int) (by omega) (by omega) (by omega)) rfl
    have hpl := PU_len (xs.length : Int)
    obtain ⟨R, hR⟩ : ∃ R, R = thenW (.ok (PU xs.length)) (manyW fieldW xs) := ⟨_, rfl⟩
    rw [← hR]
    have HR : Hid (R = thenW (.ok (PU xs.length ++ [])) (manyW fieldW (xs.drop 0))) := by
      have : R = thenW (.ok (PU xs.length ++ [])) (manyW fieldW (xs.drop 0)) := by rw [hR]; simp
      exact this
    clear hR
    go_enter Tryd.func122, Tryd.ntmps122
    go_wp2_with fail
    refine C.mono ?_
    rintro en w1 ⟨rfl, t1, s1⟩
    have T1 : Hid (WT b B w w1) := t1
    have S1 : Hid (WS b B w1 (l ++ PU xs.length)) := s1
    clear C t1 s1 q0
    go_wp2_with fail
    go_loopw [27] (fun i_ wr => ∃ (i : Nat) (m : List Int), i_ = .int .i64 i ∧ i ≤ xs.length ∧ m.length ≤ 13 * i ∧ Hid (WT b B w wr) ∧ Hid (WS b B wr (l ++ (PU xs.length ++ m))) ∧ Hid (R = thenW (.ok (PU xs.length ++ m)) (manyW fieldW (xs.drop i)))) (fun i_ _ => xs.length - (intOf i_).toNat)
    case atStart => exact ⟨0, [], rfl, by omega, by simp, T1, by simpa using S1, HR⟩
    case round =>
      obtain ⟨i, m, rfl, hi, hml, TR, SR, HE⟩ := hrel
      by_cases hlt : i < xs.length
      · obtain ⟨x, hx⟩ : ∃ x, xs[i]? = some x := ⟨_, List.getElem?_eq_getElem hlt⟩
        have d3 : decide ((i : Int) < (xs.length : Int)) = true := by simp; omega
        have d4 : decide (i < xs.length) = true := by simpa using hlt
        have GR : Grew w0 wr := TR.out.grew0 G0.out hb0 (by omega)
        obtain ⟨bb, off, ea, _, hc⟩ := (HV.out.grew GR).get (by omega)
        have hce := hc i x hx
        subst ea
        have HE2 := HE.out
        rw [manyW_drop hx] at HE2
        have hlx : (l ++ (PU xs.length ++ m)).length ≤ 17000000000000 + 1000000 := by simp; omega
        have D := fun (w1 : World) (u : WS b B w1 (l ++ (PU xs.length ++ m))) => field2 u x (by omega)
        obtain ⟨⟨vn, vb, vh⟩, mu⟩ := x
        obtain ⟨⟨p0, p1, p2⟩, p3⟩ := hce
        unfold FT.v at D
        simp only at p0 p1 p2 p3 D
        cases hy : fieldW ⟨⟨vn, vb, vh⟩, mu⟩ with
        | error e =>
          have HE3 : Hid (R = .error e) := by
            have : R = .error e := by rw [HE2, hy]; rfl
            exact this
          have D2 := W2.erc (D (wr.alloc (.cells #[.int .i64 vn, .bool vb, .int .i64 vh, .bool mu] 154)) (SR.out.grew ((Grew.refl wr).alloc _))) hy
          clear hc HE HE2 D hx GR
          go_wp2_with fail
          refine D2.mono ?_
          rintro en w2 ⟨⟨p, rfl⟩, t2⟩
          have T2 : Hid (WT b B w w2) := (TR.out.trans (WT.of_grew ((Grew.refl wr).alloc _))).trans t2
          clear D2 t2
          go_wp2_with fail
          exact ⟨rfl, by rw [HE3.out]; exact ⟨⟨p, rfl⟩, T2.out⟩⟩
        | ok n =>
          have hnl := fieldW_len hy
          have HE3 : Hid (R = thenW (.ok (PU xs.length ++ (m ++ n))) (manyW fieldW (xs.drop (i + 1)))) := by
            have : R = thenW (.ok (PU xs.length ++ (m ++ n))) (manyW fieldW (xs.drop (i + 1))) := by rw [HE2, hy, ← List.append_assoc]; rfl
            exact this
          have D2 := W2.okc (D (wr.alloc (.cells #[.int .i64 vn, .bool vb, .int .i64 vh, .bool mu] 154)) (SR.out.grew ((Grew.refl wr).alloc _))) hy
          clear hc HE HE2 D hx GR hy
          go_wp2_with fail
          refine D2.mono ?_
          rintro en w2 ⟨rfl, t2, s2⟩
          have T2 : Hid (WT b B w w2) := (TR.out.trans (WT.of_grew ((Grew.refl wr).alloc _))).trans t2
          have s3 : WS b B w2 (l ++ (PU xs.length ++ (m ++ n))) := by simpa [List.append_assoc] using s2
          have S2 : Hid (WS b B w2 (l ++ (PU xs.length ++ (m ++ n)))) := s3
          clear D2 t2 s2 s3 TR SR
          go_wp2_with fail
          go_roundw
          case rel => exact ⟨i + 1, m ++ n, by go_num, by omega, by simp; omega, T2, S2, HE3⟩
          case measure => simp [intOf]; omega
      · have d3 : decide ((i : Int) < (xs.length : Int)) = false := by simp; omega
        have d4 : decide (i < xs.length) = false := by simpa using hlt
        have HE3 : Hid (R = .ok (PU xs.length ++ m)) := by
          have : R = .ok (PU xs.length ++ m) := by rw [HE.out, List.drop_eq_nil_of_le (by omega)]; simp [manyW, thenW]
          exact this
        go_wp2_with fail
        go_end0
        rw [HE3.out]
        exact ⟨rfl, TR.out, SR.out⟩
set_option maxRecDepth 100000 in
set_option maxHeartbeats 1000000 in
theorem putListI2 {b B : Nat} {w w0 : World} {l : List Int} (h : WS b B w l) (g0 : Grew w0 w) (hb0 : w0.heap.size ≤ b) (v : Value) (xs : List Int) (hv : LI w0 v xs) (lim : Nat) (hlim : lim ≤ 10000) (hl : l.length ≤ 17000000000000) :
    Calls Tryd.prog 119 #[.pointer (some ⟨b, 0, none⟩), .int .i64 (lim : Int), v, .func (.func 82) #[] #[]] w (W2 b B w l (listW lim uidxW xs)) := by
  have H : Hid (WS b B w l) := h
  have hblt := h.lt
  have hb : b < w.heap.size := h.blt
  have G0 : Hid (Grew w0 w) := g0
  have HV : Hid (LI w0 v xs) := hv
  obtain ⟨o, ho, hrow⟩ := h.ex
  obtain ⟨oa, oc, rfl⟩ := row_one hrow
  have q0 := cell_of ho 0
  simp at q0
  obtain ⟨a, cap, rfl, hlc, hm⟩ := hv.one
  have hxm : xs.length ≤ 9223372036854775807 := by unfold maxLen at hm; omega
  clear h g0 hv ho hrow
  unfold listW
  by_cases hlen : lim < xs.length
  · rw [if_pos hlen]
    have d1 : decide ((lim : Int) < (xs.length : Int)) = true := by simp; omega
    have d2 : decide (lim < xs.length) = true := by simpa using hlen
    go_enter Tryd.func119, Tryd.ntmps119
    go_wp2_with fail
    refine (giveUp_any _ 2 _).mono ?_
    rintro en w9 ⟨rfl, h9⟩
    obtain rfl := h9.symm
    go_wp2_with fail
    exact ⟨rfl, ⟨_, rfl⟩, WT.refl _ _ _⟩
  · rw [if_neg hlen]
    have d1 : decide ((lim : Int) < (xs.length : Int)) = false := by simp; omega
    have d2 : decide (lim < xs.length) = false := by simpa using hlen
    have cv : IntKind.u64.wrap (xs.length : Int) = (xs.length : Int) := by rw [IntKind.wrap_u64]; omega
    have C := W2.okc (unsigned2 H.out (xs.length : Int) (by omega) (by omega) (by omega)) rfl
    have hpl := PU_len (xs.length : Int)
    obtain ⟨R, hR⟩ : ∃ R, R = thenW (.ok (PU xs.length)) (manyW uidxW xs) := ⟨_, rfl⟩
    rw [← hR]
    have HR : Hid (R = thenW (.ok (PU xs.length ++ [])) (manyW uidxW (xs.drop 0))) := by
      have : R = thenW (.ok (PU xs.length ++ [])) (manyW uidxW (xs.drop 0)) := by rw [hR]; simp
      exact this
    clear hR
    go_enter Tryd.func119, Tryd.ntmps119
    go_wp2_with fail
    refine C.mono ?_
    rintro en w1 ⟨rfl, t1, s1⟩
    have T1 : Hid (WT b B w w1) := t1
    have S1 : Hid (WS b B w1 (l ++ PU xs.length)) := s1
    clear C t1 s1 q0
    go_wp2_with fail
    go_loopw [27] (fun i_ wr => ∃ (i : Nat) (m : List Int), i_ = .int .i64 i ∧ i ≤ xs.length ∧ m.length ≤ 11 * i ∧ Hid (WT b B w wr) ∧ Hid (WS b B wr (l ++ (PU xs.length ++ m))) ∧ Hid (R = thenW (.ok (PU xs.length ++ m)) (manyW uidxW (xs.drop i)))) (fun i_ _ => xs.length - (intOf i_).toNat)
    case atStart => exact ⟨0, [], rfl, by omega, by simp, T1, by simpa using S1, HR⟩
    case round =>
      obtain ⟨i, m, rfl, hi, hml, TR, SR, HE⟩ := hrel
      by_cases hlt : i < xs.length
      · obtain ⟨x, hx⟩ : ∃ x, xs[i]? = some x := ⟨_, List.getElem?_eq_getElem hlt⟩
        have d3 : decide ((i : Int) < (xs.length : Int)) = true := by simp; omega
        have d4 : decide (i < xs.length) = true := by simpa using hlt
        have GR : Grew w0 wr := TR.out.grew0 G0.out hb0 (by omega)
        obtain ⟨bb, off, ea, _, hc⟩ := (HV.out.grew GR).get (by omega)
        have hce := hc i x hx
        subst ea
        have HE2 := HE.out
        rw [manyW_drop hx] at HE2
        have hlx : (l ++ (PU xs.length ++ m)).length ≤ 17000000000000 + 1000000 := by simp; omega
        have D := fun (w1 : World) (u : WS b B w1 (l ++ (PU xs.length ++ m))) => index2 u x (by omega)
        skip
        have p0 : wr.cell? ⟨bb, off + i * 1, none⟩ = some (.int .i64 x) := hce
        rw [Nat.mul_one] at p0
        cases hy : uidxW x with
        | error e =>
          have HE3 : Hid (R = .error e) := by
            have : R = .error e := by rw [HE2, hy]; rfl
            exact this
          have D2 := W2.erc (D wr SR.out) hy
          clear hc HE HE2 D hx GR
          go_wp2_with fail
          refine D2.mono ?_
          rintro en w2 ⟨⟨p, rfl⟩, t2⟩
          have T2 : Hid (WT b B w w2) := TR.out.trans t2
          clear D2 t2
          go_wp2_with fail
          exact ⟨rfl, by rw [HE3.out]; exact ⟨⟨p, rfl⟩, T2.out⟩⟩
        | ok n =>
          have hnl := uidxW_len hy
          have HE3 : Hid (R = thenW (.ok (PU xs.length ++ (m ++ n))) (manyW uidxW (xs.drop (i + 1)))) := by
            have : R = thenW (.ok (PU xs.length ++ (m ++ n))) (manyW uidxW (xs.drop (i + 1))) := by rw [HE2, hy, ← List.append_assoc]; rfl
            exact this
          have D2 := W2.okc (D wr SR.out) hy
          clear hc HE HE2 D hx GR hy
          go_wp2_with fail
          refine D2.mono ?_
          rintro en w2 ⟨rfl, t2, s2⟩
          have T2 : Hid (WT b B w w2) := TR.out.trans t2
          have s3 : WS b B w2 (l ++ (PU xs.length ++ (m ++ n))) := by simpa [List.append_assoc] using s2
          have S2 : Hid (WS b B w2 (l ++ (PU xs.length ++ (m ++ n)))) := s3
          clear D2 t2 s2 s3 TR SR
          go_wp2_with fail
          go_roundw
          case rel => exact ⟨i + 1, m ++ n, by go_num, by omega, by simp; omega, T2, S2, HE3⟩
          case measure => simp [intOf]; omega
      · have d3 : decide ((i : Int) < (xs.length : Int)) = false := by simp; omega
        have d4 : decide (i < xs.length) = false := by simpa using hlt
        have HE3 : Hid (R = .ok (PU xs.length ++ m)) := by
          have : R = .ok (PU xs.length ++ m) := by rw [HE.out, List.drop_eq_nil_of_le (by omega)]; simp [manyW, thenW]
          exact this
        go_wp2_with fail
        go_end0
        rw [HE3.out]
        exact ⟨rfl, TR.out, SR.out⟩
end Go.Proofs.YtbhbogfdnaadeaaDoor
