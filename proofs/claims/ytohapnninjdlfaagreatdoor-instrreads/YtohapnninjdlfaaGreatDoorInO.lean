/-
  The reader of instructions: the walks of below and opcode; no statement is proved here.
-/
import Derived.Test.YtohapnninjdlfaaGreatDoorInN
import Derived.Test.YtohapnninjdlfaaGreatDoorFormW
namespace Go.Proofs.YtohapnninjdlfaaGreatDoor
open Go.RowKit
set_option linter.unusedVariables false
set_option linter.unusedSimpArgs false
set_option linter.constructorNameAsVariable false

theorem runI_below (e : Int) (l : List Int) (st : Except (Nat × Nat) Nat) : runI (belowR e l) st = match st with
    | .ok p => thenR (byteR l p) fun c q => if e ≤ c then .error (p, 4) else .ok (c, q)
    | .error x => .error x := by
  cases st with
  | error x => rfl
  | ok p =>
    show belowR e l p = thenR (byteR l p) fun c q => if e ≤ c then .error (p, 4) else .ok (c, q)
    unfold belowR byteR
    by_cases hp : p < l.length
    · rw [atI_in hp, atI_in hp]; rfl
    · rw [atI_no hp, atI_no hp]; rfl
set_option maxRecDepth 100000 in
set_option maxHeartbeats 1000000 in
theorem ibelow_any {w : World} {b : Nat} {v : Value} {l : List Int} {st : Except (Nat × Nat) Nat} (h : DI w b v l st) (e : Int) (he : 0 < e) :
    Calls Tryz.prog 87 #[.pointer (some ⟨b, 0, none⟩), .int .u8 e] w (AnI (fun c => .int .u8 c) b v l w (runI (belowR e l) st)) := by
  have H : Hid (DI w b v l st) := h
  obtain ⟨a0, e0, ho⟩ := h.obj
  have c1 := cell_of ho 1
  simp at c1
  have C := octet_any h
  rw [runI_below]
  cases st with
  | error x =>
    obtain ⟨f, e1⟩ := x
    have d : decide (e ≤ 0) = false := by simp; omega
    clear h ho
    simp only
    go_enter Tryz.func87, Tryz.ntmps87
    go_wp2_with fail
    refine (Calls.zer C rfl).mono ?_
    rintro en w1 ⟨rfl, f1⟩
    have F1 : Hid (FinI b v l w w1 (.error (f, e1))) := f1
    clear f1
    go_wp2_with fail
    go_ret
    exact ⟨⟨0, rfl⟩, F1.out⟩
  | ok p =>
    have hpo : a0 = (p : Int) := by
      have := h.st.1
      rw [ho] at this
      simp [rdI] at this
      exact this.1
    subst hpo
    clear h ho
    simp only
    change Calls _ _ _ _ (AnZ _ _ _ _ _ (byteR l p)) at C
    cases hx : byteR l p with
    | error y =>
      obtain ⟨f, e1⟩ := y
      have d : decide (e ≤ 0) = false := by simp; omega
      simp only [thenR]
      go_enter Tryz.func87, Tryz.ntmps87
      go_wp2_with fail
      refine (Calls.zer C hx).mono ?_
      rintro en w1 ⟨rfl, f1⟩
      have F1 : Hid (FinI b v l w w1 (.error (f, e1))) := f1
      clear f1
      go_wp2_with fail
      go_ret
      exact ⟨⟨0, rfl⟩, F1.out⟩
    | ok y =>
      obtain ⟨c, q⟩ := y
      simp only [thenR]
      by_cases hc : e ≤ c
      · rw [if_pos hc]
        have d : decide (e ≤ c) = true := by simpa using hc
        go_enter Tryz.func87, Tryz.ntmps87
        go_wp2_with fail
        refine (Calls.zok C hx).mono ?_
        rintro en w1 ⟨rfl, t1, s1⟩
        have T1 : Hid (Turn [b] w w1) := t1
        have S1 : Hid (DI w1 b v l (.ok q)) := s1
        clear t1 s1
        go_wp2_with fail
        refine (ifail_any S1.out p 4 (by decide)).mono ?_
        rintro en w2 ⟨rfl, t2, s2⟩
        have F2 : Hid (FinI b v l w w2 (.error (p, 4))) := ⟨T1.out.trans t2, s2⟩
        clear t2 s2
        go_wp2_with fail
        go_ret
        exact ⟨⟨c, rfl⟩, F2.out⟩
      · rw [if_neg hc]
        have d : decide (e ≤ c) = false := by simpa using hc
        go_enter Tryz.func87, Tryz.ntmps87
        go_wp2_with fail
        refine (Calls.zok C hx).mono ?_
        rintro en w1 ⟨rfl, f1⟩
        have F1 : Hid (FinI b v l w w1 (.ok q)) := f1
        clear f1
        go_wp2_with fail
        go_ret
        exact ⟨rfl, F1.out⟩
/- The opcode. -/
theorem byteR_bd {l : List Int} (hb : Byt l) {p q : Nat} {c : Int} (h : byteR l p = .ok (c, q)) : 0 ≤ c ∧ c ≤ 255 ∧ p < l.length ∧ l.getD p 0 = c ∧ q = p + 1 := by
  unfold byteR atR at h
  split at h
  · simp only [Except.ok.injEq, Prod.mk.injEq] at h
    obtain ⟨rfl, rfl⟩ := h
    have := hb p
    rename_i hp
    exact ⟨this.1, this.2, hp, rfl, rfl⟩
  · cases h
theorem opR_is {l : List Int} {p : Nat} : opR l p = thenR (byteR l p) fun c q =>
    if c = 253 then .error (p, 8)
    else if c = 251 ∨ c = 252 then thenR (u32R l q) fun n r => if 255 < n then .error (p, 4) else opEnd p (c * 256 + n) r
    else opEnd p c q := by
  unfold opR byteR
  by_cases hp : p < l.length
  · rw [atI_in hp, atI_in hp]; rfl
  · rw [atI_no hp, atI_no hp]; rfl
theorem u32_bd {l : List Int} {p q : Nat} {n : Int} (hB : Byt l) (hp : p ≤ l.length) (h : u32R l p = .ok (n, q)) : 0 ≤ n ∧ n ≤ 4294967295 := by
  unfold u32R at h
  rcases numR_ways (b := 32) (sg := false) hp with ⟨n', q', hr, h1, h2, h3⟩ | ⟨n', f, e, hr, h1, h2, h3, h4⟩
  · rw [h3] at h
    simp only [Except.ok.injEq, Prod.mk.injEq] at h
    have hb := rd_32 hB hr
    omega
  · rw [h4] at h; cases h
theorem shl8 (c : Int) (h0 : 0 ≤ c) (h1 : c ≤ 255) : c * 2 ^ 8 = c * 256 := by omega
set_option maxRecDepth 100000 in
set_option maxHeartbeats 2000000 in
theorem opcode_any {w : World} {b : Nat} {v : Value} {l : List Int} {p : Nat} (h : DI w b v l (.ok p)) :
    Calls Tryz.prog 19 #[.pointer (some ⟨b, 0, none⟩)] w (AnI (fun c => .int .i64 c) b v l w (opR l p)) := by
  have H : Hid (DI w b v l (.ok p)) := h
  have c1 := cell_of h.st.1 1
  simp at c1
  have C := octet_any h
  have hB := h.byt
  change Calls _ _ _ _ (AnZ _ _ _ _ _ (byteR l p)) at C
  rw [opR_is]
  clear h
  cases hx : byteR l p with
  | error y =>
    obtain ⟨f, e⟩ := y
    simp only [thenR]
    go_enter Tryz.func19, Tryz.ntmps19
    go_wp2_with fail
    refine (Calls.zer C hx).mono ?_
    rintro en w1 ⟨rfl, f1⟩
    have F1 : Hid (FinI b v l w w1 (.error (f, e))) := f1
    clear f1
    go_wp2_with fail
    refine (formOf_any 0 _).mono ?_
    rintro en w2 ⟨rfl, h2⟩
    obtain rfl := h2.symm
    rw [show formP 0 = 1 from by decide +kernel]
    go_wp2_with fail
    go_ret
    exact ⟨⟨0, rfl⟩, F1.out⟩
  | ok y =>
    obtain ⟨c, q⟩ := y
    obtain ⟨b0, b1, hp, _, rfl⟩ := byteR_bd hB hx
    simp only [thenR]
    have hcw : IntKind.i64.wrap c = c := by rw [IntKind.wrap_i64]; omega
    by_cases h3 : c = 253
    · subst h3
      rw [if_pos rfl]
      go_enter Tryz.func19, Tryz.ntmps19
      go_wp2_with fail
      refine (Calls.zok C hx).mono ?_
      rintro en w1 ⟨rfl, t1, s1⟩
      have T1 : Hid (Turn [b] w w1) := t1
      have S1 : Hid (DI w1 b v l (.ok (p + 1))) := s1
      clear t1 s1
      go_wp2_with fail
      refine (ifail_any S1.out p 8 (by decide)).mono ?_
      rintro en w2 ⟨rfl, t2, s2⟩
      have T2 : Hid (Turn [b] w w2) := T1.out.trans t2
      have S2 : Hid (DI w2 b v l (.error (p, 8))) := s2
      clear t2 s2
      go_wp2_with fail
      refine (formOf_any (253) _).mono ?_
      rintro en w9 ⟨rfl, h9⟩
      obtain rfl := h9.symm
      rw [show formP 253 = 0 from by decide +kernel]
      go_wp2_with fail
      refine (ifail_any S2.out p 4 (by decide)).mono ?_
      rintro en w3 ⟨rfl, t3, s3⟩
      have T3 : Hid (Turn [b] w w3) := T2.out.trans t3
      have S3 : Hid (DI w3 b v l (.error (p, 8))) := s3
      clear t3 s3
      go_wp2_with fail
      go_ret
      exact ⟨⟨253, rfl⟩, T3.out, S3.out⟩
    · rw [if_neg h3]
      have d3 : (c == 253) = false := by simpa using h3
      by_cases h12 : c = 251 ∨ c = 252
      · rw [if_pos h12]
        rcases h12 with rfl | rfl
        · cases hn : u32R l (p + 1) with
          | error y =>
            obtain ⟨f, e⟩ := y
            simp only [thenR]
            go_enter Tryz.func19, Tryz.ntmps19
            go_wp2_with fail
            refine (Calls.zok C hx).mono ?_
            rintro en w1 ⟨rfl, t1, s1⟩
            have T1 : Hid (Turn [b] w w1) := t1
            have S1 : Hid (DI w1 b v l (.ok (p + 1))) := s1
            clear t1 s1
            go_wp2_with fail
            refine (Calls.ier (iindex_any S1.out) hn).mono ?_
            rintro en w2 ⟨⟨y, rfl⟩, t2, s2⟩
            have T2 : Hid (Turn [b] w w2) := T1.out.trans t2
            have S2 : Hid (DI w2 b v l (.error (f, e))) := s2
            clear t2 s2
            have yb : 0 ≤ encU y ∧ encU y ≤ 4294967295 := by unfold encU; omega
            generalize encU y = z at *
            by_cases h255 : 255 < z
            · have d255 : decide (255 < z) = true := by simpa using h255
              go_wp2_with fail
              refine (ifail_any S2.out p 4 (by decide)).mono ?_
              rintro en w3 ⟨rfl, t3, s3⟩
              have T3 : Hid (Turn [b] w w3) := T2.out.trans t3
              have S3 : Hid (DI w3 b v l (.error (f, e))) := s3
              clear t3 s3
              go_wp2_with fail
              by_cases hf : formP (64256 + z) = 0
              · have HF : Hid (formP (64256 + z) = 0) := hf
                clear hf
                refine (formOf_any (64256 + z) _).mono ?_
                rintro en w9 ⟨rfl, h9⟩
                obtain rfl := h9.symm
                rw [HF.out]
                go_wp2_with fail
                refine (ifail_any S3.out p 4 (by decide)).mono ?_
                rintro en w4 ⟨rfl, t4, s4⟩
                have T4 : Hid (Turn [b] w w4) := T3.out.trans t4
                have S4 : Hid (DI w4 b v l (.error (f, e))) := s4
                clear t4 s4
                go_wp2_with fail
                go_ret
                exact ⟨⟨64256 + z, rfl⟩, T4.out, S4.out⟩
              · have df : (formP (64256 + z) == 0) = false := by simpa using hf
                refine (formOf_any (64256 + z) _).mono ?_
                rintro en w9 ⟨rfl, h9⟩
                obtain rfl := h9.symm
                go_wp2_with fail
                go_ret
                exact ⟨⟨64256 + z, rfl⟩, T3.out, S3.out⟩
            · have d255 : decide (255 < z) = false := by simpa using h255
              go_wp2_with fail
              by_cases hf : formP (64256 + z) = 0
              · have HF : Hid (formP (64256 + z) = 0) := hf
                clear hf
                refine (formOf_any (64256 + z) _).mono ?_
                rintro en w9 ⟨rfl, h9⟩
                obtain rfl := h9.symm
                rw [HF.out]
                go_wp2_with fail
                refine (ifail_any S2.out p 4 (by decide)).mono ?_
                rintro en w3 ⟨rfl, t3, s3⟩
                have T3 : Hid (Turn [b] w w3) := T2.out.trans t3
                have S3 : Hid (DI w3 b v l (.error (f, e))) := s3
                clear t3 s3
                go_wp2_with fail
                go_ret
                exact ⟨⟨64256 + z, rfl⟩, T3.out, S3.out⟩
              · have df : (formP (64256 + z) == 0) = false := by simpa using hf
                refine (formOf_any (64256 + z) _).mono ?_
                rintro en w9 ⟨rfl, h9⟩
                obtain rfl := h9.symm
                go_wp2_with fail
                go_ret
                exact ⟨⟨64256 + z, rfl⟩, T2.out, S2.out⟩
          | ok y =>
            obtain ⟨n, r⟩ := y
            simp only [thenR]
            have nb : 0 ≤ n ∧ n ≤ 4294967295 := u32_bd hB (by omega) hn
            have he : encU n = n := by unfold encU; omega
            by_cases h255 : 255 < n
            · rw [if_pos h255]
              have d255 : decide (255 < n) = true := by simpa using h255
              go_enter Tryz.func19, Tryz.ntmps19
              go_wp2_with fail
              refine (Calls.zok C hx).mono ?_
              rintro en w1 ⟨rfl, t1, s1⟩
              have T1 : Hid (Turn [b] w w1) := t1
              have S1 : Hid (DI w1 b v l (.ok (p + 1))) := s1
              clear t1 s1
              go_wp2_with fail
              refine (Calls.iok (iindex_any S1.out) hn).mono ?_
              rintro en w2 ⟨rfl, t2, s2⟩
              have T2 : Hid (Turn [b] w w2) := T1.out.trans t2
              have S2 : Hid (DI w2 b v l (.ok r)) := s2
              clear t2 s2
              rw [he]
              go_wp2_with fail
              refine (ifail_any S2.out p 4 (by decide)).mono ?_
              rintro en w3 ⟨rfl, t3, s3⟩
              have T3 : Hid (Turn [b] w w3) := T2.out.trans t3
              have S3 : Hid (DI w3 b v l (.error (p, 4))) := s3
              clear t3 s3
              go_wp2_with fail
              by_cases hf : formP (64256 + n) = 0
              · have HF : Hid (formP (64256 + n) = 0) := hf
                clear hf
                refine (formOf_any (64256 + n) _).mono ?_
                rintro en w9 ⟨rfl, h9⟩
                obtain rfl := h9.symm
                rw [HF.out]
                go_wp2_with fail
                refine (ifail_any S3.out p 4 (by decide)).mono ?_
                rintro en w4 ⟨rfl, t4, s4⟩
                have T4 : Hid (Turn [b] w w4) := T3.out.trans t4
                have S4 : Hid (DI w4 b v l (.error (p, 4))) := s4
                clear t4 s4
                go_wp2_with fail
                go_ret
                exact ⟨⟨64256 + n, rfl⟩, T4.out, S4.out⟩
              · have df : (formP (64256 + n) == 0) = false := by simpa using hf
                refine (formOf_any (64256 + n) _).mono ?_
                rintro en w9 ⟨rfl, h9⟩
                obtain rfl := h9.symm
                go_wp2_with fail
                go_ret
                exact ⟨⟨64256 + n, rfl⟩, T3.out, S3.out⟩
            · rw [if_neg h255, show (251 : Int) * 256 + n = 64256 + n by omega]
              have d255 : decide (255 < n) = false := by simpa using h255
              unfold opEnd
              by_cases hf : formP (64256 + n) = 0
              · rw [if_pos hf]
                have HF : Hid (formP (64256 + n) = 0) := hf
                clear hf
                go_enter Tryz.func19, Tryz.ntmps19
                go_wp2_with fail
                refine (Calls.zok C hx).mono ?_
                rintro en w1 ⟨rfl, t1, s1⟩
                have T1 : Hid (Turn [b] w w1) := t1
                have S1 : Hid (DI w1 b v l (.ok (p + 1))) := s1
                clear t1 s1
                go_wp2_with fail
                refine (Calls.iok (iindex_any S1.out) hn).mono ?_
                rintro en w2 ⟨rfl, t2, s2⟩
                have T2 : Hid (Turn [b] w w2) := T1.out.trans t2
                have S2 : Hid (DI w2 b v l (.ok r)) := s2
                clear t2 s2
                rw [he]
                go_wp2_with fail
                refine (formOf_any (64256 + n) _).mono ?_
                rintro en w9 ⟨rfl, h9⟩
                obtain rfl := h9.symm
                rw [HF.out]
                go_wp2_with fail
                refine (ifail_any S2.out p 4 (by decide)).mono ?_
                rintro en w3 ⟨rfl, t3, s3⟩
                have T3 : Hid (Turn [b] w w3) := T2.out.trans t3
                have S3 : Hid (DI w3 b v l (.error (p, 4))) := s3
                clear t3 s3
                go_wp2_with fail
                go_ret
                exact ⟨⟨64256 + n, rfl⟩, T3.out, S3.out⟩
              · rw [if_neg hf]
                have df : (formP (64256 + n) == 0) = false := by simpa using hf
                go_enter Tryz.func19, Tryz.ntmps19
                go_wp2_with fail
                refine (Calls.zok C hx).mono ?_
                rintro en w1 ⟨rfl, t1, s1⟩
                have T1 : Hid (Turn [b] w w1) := t1
                have S1 : Hid (DI w1 b v l (.ok (p + 1))) := s1
                clear t1 s1
                go_wp2_with fail
                refine (Calls.iok (iindex_any S1.out) hn).mono ?_
                rintro en w2 ⟨rfl, t2, s2⟩
                have T2 : Hid (Turn [b] w w2) := T1.out.trans t2
                have S2 : Hid (DI w2 b v l (.ok r)) := s2
                clear t2 s2
                rw [he]
                go_wp2_with fail
                refine (formOf_any (64256 + n) _).mono ?_
                rintro en w9 ⟨rfl, h9⟩
                obtain rfl := h9.symm
                go_wp2_with fail
                go_ret
                exact ⟨rfl, T2.out, S2.out⟩
        · cases hn : u32R l (p + 1) with
          | error y =>
            obtain ⟨f, e⟩ := y
            simp only [thenR]
            go_enter Tryz.func19, Tryz.ntmps19
            go_wp2_with fail
            refine (Calls.zok C hx).mono ?_
            rintro en w1 ⟨rfl, t1, s1⟩
            have T1 : Hid (Turn [b] w w1) := t1
            have S1 : Hid (DI w1 b v l (.ok (p + 1))) := s1
            clear t1 s1
            go_wp2_with fail
            refine (Calls.ier (iindex_any S1.out) hn).mono ?_
            rintro en w2 ⟨⟨y, rfl⟩, t2, s2⟩
            have T2 : Hid (Turn [b] w w2) := T1.out.trans t2
            have S2 : Hid (DI w2 b v l (.error (f, e))) := s2
            clear t2 s2
            have yb : 0 ≤ encU y ∧ encU y ≤ 4294967295 := by unfold encU; omega
            generalize encU y = z at *
            by_cases h255 : 255 < z
            · have d255 : decide (255 < z) = true := by simpa using h255
              go_wp2_with fail
              refine (ifail_any S2.out p 4 (by decide)).mono ?_
              rintro en w3 ⟨rfl, t3, s3⟩
              have T3 : Hid (Turn [b] w w3) := T2.out.trans t3
              have S3 : Hid (DI w3 b v l (.error (f, e))) := s3
              clear t3 s3
              go_wp2_with fail
              by_cases hf : formP (64512 + z) = 0
              · have HF : Hid (formP (64512 + z) = 0) := hf
                clear hf
                refine (formOf_any (64512 + z) _).mono ?_
                rintro en w9 ⟨rfl, h9⟩
                obtain rfl := h9.symm
                rw [HF.out]
                go_wp2_with fail
                refine (ifail_any S3.out p 4 (by decide)).mono ?_
                rintro en w4 ⟨rfl, t4, s4⟩
                have T4 : Hid (Turn [b] w w4) := T3.out.trans t4
                have S4 : Hid (DI w4 b v l (.error (f, e))) := s4
                clear t4 s4
                go_wp2_with fail
                go_ret
                exact ⟨⟨64512 + z, rfl⟩, T4.out, S4.out⟩
              · have df : (formP (64512 + z) == 0) = false := by simpa using hf
                refine (formOf_any (64512 + z) _).mono ?_
                rintro en w9 ⟨rfl, h9⟩
                obtain rfl := h9.symm
                go_wp2_with fail
                go_ret
                exact ⟨⟨64512 + z, rfl⟩, T3.out, S3.out⟩
            · have d255 : decide (255 < z) = false := by simpa using h255
              go_wp2_with fail
              by_cases hf : formP (64512 + z) = 0
              · have HF : Hid (formP (64512 + z) = 0) := hf
                clear hf
                refine (formOf_any (64512 + z) _).mono ?_
                rintro en w9 ⟨rfl, h9⟩
                obtain rfl := h9.symm
                rw [HF.out]
                go_wp2_with fail
                refine (ifail_any S2.out p 4 (by decide)).mono ?_
                rintro en w3 ⟨rfl, t3, s3⟩
                have T3 : Hid (Turn [b] w w3) := T2.out.trans t3
                have S3 : Hid (DI w3 b v l (.error (f, e))) := s3
                clear t3 s3
                go_wp2_with fail
                go_ret
                exact ⟨⟨64512 + z, rfl⟩, T3.out, S3.out⟩
              · have df : (formP (64512 + z) == 0) = false := by simpa using hf
                refine (formOf_any (64512 + z) _).mono ?_
                rintro en w9 ⟨rfl, h9⟩
                obtain rfl := h9.symm
                go_wp2_with fail
                go_ret
                exact ⟨⟨64512 + z, rfl⟩, T2.out, S2.out⟩
          | ok y =>
            obtain ⟨n, r⟩ := y
            simp only [thenR]
            have nb : 0 ≤ n ∧ n ≤ 4294967295 := u32_bd hB (by omega) hn
            have he : encU n = n := by unfold encU; omega
            by_cases h255 : 255 < n
            · rw [if_pos h255]
              have d255 : decide (255 < n) = true := by simpa using h255
              go_enter Tryz.func19, Tryz.ntmps19
              go_wp2_with fail
              refine (Calls.zok C hx).mono ?_
              rintro en w1 ⟨rfl, t1, s1⟩
              have T1 : Hid (Turn [b] w w1) := t1
              have S1 : Hid (DI w1 b v l (.ok (p + 1))) := s1
              clear t1 s1
              go_wp2_with fail
              refine (Calls.iok (iindex_any S1.out) hn).mono ?_
              rintro en w2 ⟨rfl, t2, s2⟩
              have T2 : Hid (Turn [b] w w2) := T1.out.trans t2
              have S2 : Hid (DI w2 b v l (.ok r)) := s2
              clear t2 s2
              rw [he]
              go_wp2_with fail
              refine (ifail_any S2.out p 4 (by decide)).mono ?_
              rintro en w3 ⟨rfl, t3, s3⟩
              have T3 : Hid (Turn [b] w w3) := T2.out.trans t3
              have S3 : Hid (DI w3 b v l (.error (p, 4))) := s3
              clear t3 s3
              go_wp2_with fail
              by_cases hf : formP (64512 + n) = 0
              · have HF : Hid (formP (64512 + n) = 0) := hf
                clear hf
                refine (formOf_any (64512 + n) _).mono ?_
                rintro en w9 ⟨rfl, h9⟩
                obtain rfl := h9.symm
                rw [HF.out]
                go_wp2_with fail
                refine (ifail_any S3.out p 4 (by decide)).mono ?_
                rintro en w4 ⟨rfl, t4, s4⟩
                have T4 : Hid (Turn [b] w w4) := T3.out.trans t4
                have S4 : Hid (DI w4 b v l (.error (p, 4))) := s4
                clear t4 s4
                go_wp2_with fail
                go_ret
                exact ⟨⟨64512 + n, rfl⟩, T4.out, S4.out⟩
              · have df : (formP (64512 + n) == 0) = false := by simpa using hf
                refine (formOf_any (64512 + n) _).mono ?_
                rintro en w9 ⟨rfl, h9⟩
                obtain rfl := h9.symm
                go_wp2_with fail
                go_ret
                exact ⟨⟨64512 + n, rfl⟩, T3.out, S3.out⟩
            · rw [if_neg h255, show (252 : Int) * 256 + n = 64512 + n by omega]
              have d255 : decide (255 < n) = false := by simpa using h255
              unfold opEnd
              by_cases hf : formP (64512 + n) = 0
              · rw [if_pos hf]
                have HF : Hid (formP (64512 + n) = 0) := hf
                clear hf
                go_enter Tryz.func19, Tryz.ntmps19
                go_wp2_with fail
                refine (Calls.zok C hx).mono ?_
                rintro en w1 ⟨rfl, t1, s1⟩
                have T1 : Hid (Turn [b] w w1) := t1
                have S1 : Hid (DI w1 b v l (.ok (p + 1))) := s1
                clear t1 s1
                go_wp2_with fail
                refine (Calls.iok (iindex_any S1.out) hn).mono ?_
                rintro en w2 ⟨rfl, t2, s2⟩
                have T2 : Hid (Turn [b] w w2) := T1.out.trans t2
                have S2 : Hid (DI w2 b v l (.ok r)) := s2
                clear t2 s2
                rw [he]
                go_wp2_with fail
                refine (formOf_any (64512 + n) _).mono ?_
                rintro en w9 ⟨rfl, h9⟩
                obtain rfl := h9.symm
                rw [HF.out]
                go_wp2_with fail
                refine (ifail_any S2.out p 4 (by decide)).mono ?_
                rintro en w3 ⟨rfl, t3, s3⟩
                have T3 : Hid (Turn [b] w w3) := T2.out.trans t3
                have S3 : Hid (DI w3 b v l (.error (p, 4))) := s3
                clear t3 s3
                go_wp2_with fail
                go_ret
                exact ⟨⟨64512 + n, rfl⟩, T3.out, S3.out⟩
              · rw [if_neg hf]
                have df : (formP (64512 + n) == 0) = false := by simpa using hf
                go_enter Tryz.func19, Tryz.ntmps19
                go_wp2_with fail
                refine (Calls.zok C hx).mono ?_
                rintro en w1 ⟨rfl, t1, s1⟩
                have T1 : Hid (Turn [b] w w1) := t1
                have S1 : Hid (DI w1 b v l (.ok (p + 1))) := s1
                clear t1 s1
                go_wp2_with fail
                refine (Calls.iok (iindex_any S1.out) hn).mono ?_
                rintro en w2 ⟨rfl, t2, s2⟩
                have T2 : Hid (Turn [b] w w2) := T1.out.trans t2
                have S2 : Hid (DI w2 b v l (.ok r)) := s2
                clear t2 s2
                rw [he]
                go_wp2_with fail
                refine (formOf_any (64512 + n) _).mono ?_
                rintro en w9 ⟨rfl, h9⟩
                obtain rfl := h9.symm
                go_wp2_with fail
                go_ret
                exact ⟨rfl, T2.out, S2.out⟩
      · rw [if_neg h12]
        have d1 : (c == 251) = false := by simp; omega
        have d2 : (c == 252) = false := by simp; omega
        unfold opEnd
        by_cases hf : formP c = 0
        · rw [if_pos hf]
          have HF : Hid (formP c = 0) := hf
          clear hf
          go_enter Tryz.func19, Tryz.ntmps19
          go_wp2_with fail
          refine (Calls.zok C hx).mono ?_
          rintro en w1 ⟨rfl, t1, s1⟩
          have T1 : Hid (Turn [b] w w1) := t1
          have S1 : Hid (DI w1 b v l (.ok (p + 1))) := s1
          clear t1 s1
          go_wp2_with fail
          refine (formOf_any (c) _).mono ?_
          rintro en w9 ⟨rfl, h9⟩
          obtain rfl := h9.symm
          rw [HF.out]
          go_wp2_with fail
          refine (ifail_any S1.out p 4 (by decide)).mono ?_
          rintro en w2 ⟨rfl, t2, s2⟩
          have T2 : Hid (Turn [b] w w2) := T1.out.trans t2
          have S2 : Hid (DI w2 b v l (.error (p, 4))) := s2
          clear t2 s2
          go_wp2_with fail
          go_ret
          exact ⟨⟨c, rfl⟩, T2.out, S2.out⟩
        · rw [if_neg hf]
          have df : (formP c == 0) = false := by simpa using hf
          go_enter Tryz.func19, Tryz.ntmps19
          go_wp2_with fail
          refine (Calls.zok C hx).mono ?_
          rintro en w1 ⟨rfl, t1, s1⟩
          have T1 : Hid (Turn [b] w w1) := t1
          have S1 : Hid (DI w1 b v l (.ok (p + 1))) := s1
          clear t1 s1
          go_wp2_with fail
          refine (formOf_any (c) _).mono ?_
          rintro en w9 ⟨rfl, h9⟩
          obtain rfl := h9.symm
          
          go_wp2_with fail
          go_ret
          exact ⟨rfl, T1.out, S1.out⟩
end Go.Proofs.YtohapnninjdlfaaGreatDoor
