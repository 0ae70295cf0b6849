/-
  The document's reading of instructions: the opcode; no statement is proved here.
-/
import Derived.Test.YtohapnninjdlfaaGreatDoorD9f
import Derived.Test.YtohapnninjdlfaaGreatDoorFindW
namespace Go.Proofs.YtohapnninjdlfaaGreatDoor
open Go.RowKit
set_option linter.unusedVariables false
set_option linter.unusedSimpArgs false
set_option linter.constructorNameAsVariable false

def An9z (b : Nat) (v : Value) (l : List Int) (w : World) (r : RS Int) (en : Ending) (w' : World) : Prop := ∃ y st, en = .returned (.int .u32 y) ∧ Fin9 b v l w w' st ∧ TieI r y st ∧ (∀ e, st = .error e → y = 0)
set_option maxRecDepth 100000 in
set_option maxHeartbeats 2000000 in
theorem d9u32_z {w : World} {b : Nat} {v : Value} {l : List Int} {st : Except (Nat × Nat) Nat} (h : D9 w b v l st) :
    Calls Tryz.prog 24 #[.pointer (some ⟨b, 0, none⟩)] w (An9z b v l w (runI (u32R l) st)) := by
  have H : Hid (D9 w b v l st) := h
  have hb : b < w.heap.size := h.lt
  have hl := h.len
  cases st with
  | error x =>
    obtain ⟨f, e⟩ := x
    obtain ⟨a0, ho, ha, he0⟩ := h.st
    have c3 := cell_of ho 3
    simp at c3
    have de : ((e : Int) != 0) = true := by simp; exact he0
    clear h ho
    go_enter Tryz.func24, Tryz.ntmps24
    go_wp2_with fail
    go_ret
    exact ⟨0, .error (f, e), rfl, ⟨Turn.refl _ _, H.out⟩, rfl, fun _ _ => rfl⟩
  | ok p =>
    have c0 := cell_of h.st.1 0
    have c1 := cell_of h.st.1 1
    have c3 := cell_of h.st.1 3
    have z1 := free_of h.st.1 1
    have hle := h.st.2
    have hB := h.byt
    simp at c0 c1 c3
    have HC : Hid (∀ w1, Grew w w1 → Calls Tryz.prog 58 #[v, .int .i64 (p : Int), .int .i64 (l.length : Int), .int .i64 32, .bool false] w1 fun en w' => en = .returned (.tuple #[.int .u64 (rd 32 false l p l.length).1, .int .i64 (rd 32 false l p l.length).2.1, .int .i64 (rd 32 false l p l.length).2.2]) ∧ Grew w1 w') := fun w1 g => (num32u_any v l (p : Int) (l.length : Int) w1 (g.reads h.rd) hB hl).mono fun en w2 ⟨h1, h2⟩ => ⟨h1, by rw [h2]; exact Grew.refl _⟩
    obtain ⟨y, f, e, st', ht, hti, hw⟩ := num_ways (b := 32) (sg := false) hle
    rw [ht] at HC
    
    simp only at HC
    have HT : Hid (TieI (u32R l p) y st') := hti
    obtain ⟨a, cap, rfl⟩ := h.rd.len
    rcases hw with ⟨rfl, rfl, hq⟩ | ⟨rfl, he⟩
    · have hen : IntKind.u32.wrap y = y := by have := u32_bd hB hle (show u32R l p = .ok (y, f) from HT.out); rw [IntKind.wrap_u32]; omega
      clear h ht hti
      go_enter Tryz.func24, Tryz.ntmps24
      go_wp2_with fail
      refine wp_region_ck [(b, 0, .slice a l.length cap), (b, 1, .int .i64 p)] (by kernel_rfl) (by kernel_rfl) ⟨⟨hb, c0⟩, ⟨hb, c1⟩, trivial⟩ ?_
      repeat (first
        | go_big_quiet_skip
        | (go_big_quiet_want
           go_big_quiet_op
           first
           | go_big_quiet_on
           | (refine ⟨_, fun _ _ => rfl, ?_⟩; go_big_quiet_on)
           | (refine ⟨.slice a l.length cap, fun w' hw' => ?_, ?_⟩
              · (obtain ⟨_, ⟨_, hc0⟩, ⟨_, hc1⟩, _⟩ := hw'; go_simp; done)
              go_big_quiet_on)
           | (refine ⟨.int .i64 p, fun w' hw' => ?_, ?_⟩
              · (obtain ⟨_, ⟨_, hc0⟩, ⟨_, hc1⟩, _⟩ := hw'; go_simp; done)
              go_big_quiet_on)
           | (apply Exists.intro
              refine ⟨fun w' hw' => ?_, ?_⟩
              · exact hw'.call (HC.out _ hw'.1)
              go_big_quiet_on)))
      refine wpQuiet_nil ?_
      rintro w3 ⟨g3, _⟩
      have G3 : Hid (Grew w w3) := g3
      have hBb := (G3.out.turn []).other H.out.st.1 (by simp)
      have m1 := cell_of hBb 1
      have n1 := free_of hBb 1
      simp at m1
      have HB : Hid (w3.heap[b]? = some (rdg9 (.slice a l.length cap) (p : Int) 0 0)) := hBb
      clear g3 hBb c0 c1
      go_wp2_with fail
      go_ret
      refine ⟨y, .ok f, ?_, ?_, HT.out, fun _ hh => by cases hh⟩
      · first | rfl | (rw [hen]; done) | (rw [hen])
      refine (fun t => ⟨t, H.out.of t ⟨by rw [heap_set HB.out 1 _]; simp [rdg9], hq⟩⟩) ?_
      exact (G3.out.turn _).set (Or.inl (by simp)) _
    · have de : ((e : Int) != 0) = true := by simp; exact he
      clear h ht hti
      go_enter Tryz.func24, Tryz.ntmps24
      go_wp2_with fail
      refine wp_region_ck [(b, 0, .slice a l.length cap), (b, 1, .int .i64 p)] (by kernel_rfl) (by kernel_rfl) ⟨⟨hb, c0⟩, ⟨hb, c1⟩, trivial⟩ ?_
      repeat (first
        | go_big_quiet_skip
        | (go_big_quiet_want
           go_big_quiet_op
           first
           | go_big_quiet_on
           | (refine ⟨_, fun _ _ => rfl, ?_⟩; go_big_quiet_on)
           | (refine ⟨.slice a l.length cap, fun w' hw' => ?_, ?_⟩
              · (obtain ⟨_, ⟨_, hc0⟩, ⟨_, hc1⟩, _⟩ := hw'; go_simp; done)
              go_big_quiet_on)
           | (refine ⟨.int .i64 p, fun w' hw' => ?_, ?_⟩
              · (obtain ⟨_, ⟨_, hc0⟩, ⟨_, hc1⟩, _⟩ := hw'; go_simp; done)
              go_big_quiet_on)
           | (apply Exists.intro
              refine ⟨fun w' hw' => ?_, ?_⟩
              · exact hw'.call (HC.out _ hw'.1)
              go_big_quiet_on)))
      refine wpQuiet_nil ?_
      rintro w3 ⟨g3, _⟩
      have G3 : Hid (Grew w w3) := g3
      have D3 : Hid (D9 w3 b (.slice a l.length cap) l (.ok p)) := H.out.grew G3.out
      clear g3 c0 c1
      go_wp2_with fail
      refine (fail9_any D3.out f e he).mono ?_
      rintro en w4 ⟨rfl, t4, s4⟩
      have F4 : Hid (Fin9 b (.slice a l.length cap) l w w4 (.error (f, e))) := ⟨(G3.out.turn _).trans t4, s4⟩
      clear t4 s4
      go_wp2_with fail
      go_ret
      exact ⟨0, .error (f, e), rfl, F4.out, HT.out, fun _ _ => rfl⟩
theorem ba_list (l : List UInt8) : (BA l).toList = l := by rw [ByteArray.toList_eq]; simp [BA]
theorem formD_nil (op : Int) : (formD op = [] ↔ formP op = 0) := by
  obtain ⟨h1, h2, h3⟩ := form_same op
  rw [← h1]
  have key : ∀ k : _root_.Fin 17, wordP (k.val : Int) = [] ↔ (k.val : Int) = 0 := by decide +kernel
  have := key ⟨(formP op).toNat, by omega⟩
  simpa [Int.toNat_of_nonneg h2] using this
theorem D9.at_ {w : World} {b : Nat} {v : Value} {l : List Int} {p : Nat} (h : D9 w b v l (.ok p)) : w.cell? ⟨b, 1, none⟩ = some (.int .i64 (p : Int)) := by
  have := cell_of h.st.1 1
  simpa [rdg9] using this
set_option maxRecDepth 100000 in
set_option maxHeartbeats 2000000 in
theorem d9opcode_any {w : World} {b : Nat} {v : Value} {l : List Int} {p : Nat} (h : D9 w b v l (.ok p)) :
    Calls Tryz.prog 11 #[.pointer (some ⟨b, 0, none⟩)] w fun en w' => ∃ y st', en = .returned (.int .i64 y) ∧ (0 ≤ y ∧ y ≤ 65535) ∧ Fin9 b v l w w' st' ∧ TieI (opR l p) y st' := by
  have H : Hid (D9 w b v l (.ok p)) := h
  have c1 := h.at_
  have C := d9byte_t h
  clear h
  obtain ⟨R, hR⟩ : ∃ R, opR l p = R := ⟨_, rfl⟩
  rw [hR]
  have HR : Hid (R = opR l p) := hR.symm
  clear hR
  go_enter Tryz.func11, Tryz.ntmps11
  go_wp2_with fail
  refine C.mono ?_
  rintro en w1 ⟨c, st1, rfl, hc, f1, t1⟩
  have F1 : Hid (Fin9 b v l w w1 st1) := f1
  have T1 : Hid (TieI (byteR l p) c st1) := t1
  clear C
  cases st1 with
  | error x =>
    obtain ⟨f, e⟩ := x
    obtain ⟨k3, de⟩ := f1.2.e1
    have de' : ((e : Int) != 0) = true := by simpa using de
    clear f1 t1 hc
    go_wp2_with fail
    go_ret
    refine ⟨0, .error (f, e), rfl, by omega, F1.out, ?_⟩
    have hx : byteR l p = .error (f, e) := T1.out
    rw [HR.out, opR_is, hx]
    rfl
  | ok q =>
    obtain ⟨y0, y1⟩ := hc q rfl
    have k3 := f1.2.e0
    have HX : Hid (byteR l p = .ok (c, q)) := T1.out
    have hcw : IntKind.i64.wrap c = c := by rw [IntKind.wrap_i64]; omega
    clear f1 t1 hc
    by_cases h253 : c = 253
    · subst h253
      go_wp2_with fail
      refine (fail9_any F1.out.2 p 8 (by decide)).mono ?_
      rintro en w2 ⟨rfl, t2, s2⟩
      have F2 : Hid (Fin9 b v l w w2 (.error (p, 8))) := ⟨F1.out.1.trans t2, s2⟩
      clear t2 s2
      go_wp2_with fail
      go_ret
      refine ⟨0, _, rfl, by omega, F2.out, ?_⟩
      rw [HR.out, opR_is, HX.out]
      rfl
    · have H253 : Hid (¬ c = 253) := h253
      have d253 : (c == 253) = false := by simpa using h253
      by_cases hpre : c = 251 ∨ c = 252
      · obtain ⟨d251, hd251⟩ : ∃ d, (c == 251) = d := ⟨_, rfl⟩
        obtain ⟨d252, hd252⟩ : ∃ d, (c == 252) = d := ⟨_, rfl⟩
        have hor : d251 = true ∨ (d251 = false ∧ d252 = true) := by
          rcases hpre with rfl | rfl
          · left; rw [← hd251]; rfl
          · right; exact ⟨by rw [← hd251]; rfl, by rw [← hd252]; rfl⟩
        have HPR : Hid (c = 251 ∨ c = 252) := hpre
        clear hpre h253
        rcases hor with hh | ⟨hh, hh2⟩
        all_goals
          subst hh
          first | subst hh2 | skip
          go_wp2_with fail
          refine (d9u32_z F1.out.2).mono ?_
          rintro en w3 ⟨n, st3, rfl, f3, t3, hz⟩
          have R3 : Hid (TieI (u32R l q) n st3) := t3
          have FX3 : Hid (Fin9 b v l w w3 st3) := ⟨F1.out.1.trans f3.1, f3.2⟩
          have hB := H.out.byt
          have hle : q ≤ l.length := F1.out.2.st.2
          cases st3 with
          | error x =>
            obtain ⟨f, e⟩ := x
            obtain ⟨k3', de⟩ := f3.2.e1
            have hn0 := hz _ rfl
            subst hn0
            clear f3 t3 hz
            have hm : (256 : Int) * c ≤ 65535 ∧ 0 ≤ (256 : Int) * c := by omega
            have hw1 : IntKind.i64.wrap (256 * c) = 256 * c := by rw [IntKind.wrap_i64]; omega
            go_wp2_with fail
            have FX : Hid (Fin9 b v l w w3 (.error (f, e))) := FX3
            have BND : Hid (0 ≤ 256 * c ∧ 256 * c ≤ 65535) := (by omega : 0 ≤ 256 * c ∧ 256 * c ≤ 65535)
            have TI : Hid (TieI R 0 (.error (f, e))) := by
              show TieI R 0 _
              have h3 : u32R l q = .error (f, e) := R3.out
              rw [HR.out, opR_is, HX.out]
              simp only [thenR, if_neg H253.out, if_pos HPR.out, h3]
              rfl
            clear hm hw1 hcw k3 y0 y1
            generalize 256 * c = op at *
            obtain ⟨g0, g1⟩ := BND.out
            have CF := refForm_any op (by omega) (by omega) w3
            refine CF.mono ?_
            rintro en w7 ⟨rfl, g7⟩
            have F7 : Hid (Fin9 b v l w w7 (.error (f, e))) := ⟨FX.out.1.trans (g7.turn _), FX.out.2.grew g7⟩
            clear CF g7
            by_cases hf : formP op = 0
            · have hnil := (formD_nil op).2 hf
              have HF : Hid (formP op = 0) := hf
              have hem : (BA (formD op)).toList.isEmpty = true := by rw [hnil, ba_list]; rfl
              obtain ⟨sx, hsx⟩ : ∃ sx, BA (formD op) = sx := ⟨_, rfl⟩
              rw [hsx] at hem ⊢
              clear hnil hf hsx
              go_wp2_with fail
              refine (fail9_any F7.out.2 p 4 (by decide)).mono ?_
              rintro en w8 ⟨rfl, t8, s8⟩
              have F8 : Hid (Fin9 b v l w w8 (failI (.error (f, e)) p 4)) := ⟨F7.out.1.trans t8, s8⟩
              clear t8 s8
              go_wp2_with fail
              go_ret
              refine ⟨op, _, rfl, ⟨g0, g1⟩, F8.out, ?_⟩
              exact TI.out
            · have hne : (BA (formD op)).toList.isEmpty = false := by
                have : formD op ≠ [] := fun hh => hf ((formD_nil op).1 hh)
                simpa [BA] using this
              have HF : Hid (¬ formP op = 0) := hf
              obtain ⟨sx, hsx⟩ : ∃ sx, BA (formD op) = sx := ⟨_, rfl⟩
              rw [hsx] at hne ⊢
              clear hsx hf
              go_wp2_with fail
              go_ret
              refine ⟨op, _, rfl, ⟨g0, g1⟩, F7.out, ?_⟩
              exact TI.out
          | ok r =>
            obtain ⟨n0, n1⟩ := u32_bd hB hle R3.out
            have k3' := f3.2.e0
            clear f3 t3 hz
            have hm : (256 : Int) * c ≤ 65535 ∧ 0 ≤ (256 : Int) * c := by omega
            have hw1 : IntKind.i64.wrap (256 * c) = 256 * c := by rw [IntKind.wrap_i64]; omega
            have hw2 : IntKind.i64.wrap (n % 256) = n % 256 := by rw [IntKind.wrap_i64]; omega
            have hw3 : IntKind.i64.wrap (256 * c + n % 256) = 256 * c + n % 256 := by rw [IntKind.wrap_i64]; omega
            have hmod : n.tmod 256 = n % 256 := Int.tmod_eq_emod_of_nonneg n0
            by_cases hbig : (256 : Int) ≤ n
            · have dbig : decide ((256 : Int) ≤ n) = true := by simpa using hbig
              go_wp2_with fail
              refine (fail9_any FX3.out.2 p 4 (by decide)).mono ?_
              rintro en w5 ⟨rfl, t5, s5⟩
              have FX : Hid (Fin9 b v l w w5 (.error (p, 4))) := ⟨FX3.out.1.trans t5, s5⟩
              clear t5 s5
              go_wp2_with fail
              have BND : Hid (0 ≤ 256 * c + n % 256 ∧ 256 * c + n % 256 ≤ 65535) := (by rcases HPR.out with h | h <;> omega : 0 ≤ 256 * c + n % 256 ∧ 256 * c + n % 256 ≤ 65535)
              have TI : Hid (∀ y, TieI R y (.error (p, 4))) := by
                intro y
                have h3 : u32R l q = .ok (n, r) := R3.out
                rw [HR.out, opR_is, HX.out]
                simp only [thenR, if_neg H253.out, if_pos HPR.out, h3]
                rw [if_pos (by omega)]
                rfl
              clear hm hw1 hw2 hw3 hcw k3 k3' y0 y1
              generalize 256 * c + n % 256 = op at *
              obtain ⟨g0, g1⟩ := BND.out
              have CF := refForm_any op (by omega) (by omega) w5
              refine CF.mono ?_
              rintro en w7 ⟨rfl, g7⟩
              have F7 : Hid (Fin9 b v l w w7 (.error (p, 4))) := ⟨FX.out.1.trans (g7.turn _), FX.out.2.grew g7⟩
              clear CF g7
              by_cases hf : formP op = 0
              · have hnil := (formD_nil op).2 hf
                have HF : Hid (formP op = 0) := hf
                have hem : (BA (formD op)).toList.isEmpty = true := by rw [hnil, ba_list]; rfl
                obtain ⟨sx, hsx⟩ : ∃ sx, BA (formD op) = sx := ⟨_, rfl⟩
                rw [hsx] at hem ⊢
                clear hnil hf hsx
                go_wp2_with fail
                refine (fail9_any F7.out.2 p 4 (by decide)).mono ?_
                rintro en w8 ⟨rfl, t8, s8⟩
                have F8 : Hid (Fin9 b v l w w8 (failI (.error (p, 4)) p 4)) := ⟨F7.out.1.trans t8, s8⟩
                clear t8 s8
                go_wp2_with fail
                go_ret
                refine ⟨op, _, rfl, ⟨g0, g1⟩, F8.out, ?_⟩
                exact TI.out _
              · have hne : (BA (formD op)).toList.isEmpty = false := by
                  have : formD op ≠ [] := fun hh => hf ((formD_nil op).1 hh)
                  simpa [BA] using this
                have HF : Hid (¬ formP op = 0) := hf
                obtain ⟨sx, hsx⟩ : ∃ sx, BA (formD op) = sx := ⟨_, rfl⟩
                rw [hsx] at hne ⊢
                clear hsx hf
                go_wp2_with fail
                go_ret
                refine ⟨op, _, rfl, ⟨g0, g1⟩, F7.out, ?_⟩
                exact TI.out _
            · have dbig : decide ((256 : Int) ≤ n) = false := by simpa using hbig
              go_wp2_with fail
              have FX := FX3
              have BND : Hid (0 ≤ 256 * c + n % 256 ∧ 256 * c + n % 256 ≤ 65535) := (by rcases HPR.out with h | h <;> omega : 0 ≤ 256 * c + n % 256 ∧ 256 * c + n % 256 ≤ 65535)
              have TI : Hid (R = opEnd p (256 * c + n % 256) r) := by
                have h3 : u32R l q = .ok (n, r) := R3.out
                show R = _
                rw [HR.out, opR_is, HX.out]
                simp only [thenR, if_neg H253.out, if_pos HPR.out, h3]
                rw [if_neg (by omega)]
                congr 1
                omega
              clear hm hw1 hw2 hw3 hcw k3 k3' y0 y1
              generalize 256 * c + n % 256 = op at *
              obtain ⟨g0, g1⟩ := BND.out
              have CF := refForm_any op (by omega) (by omega) w3
              refine CF.mono ?_
              rintro en w7 ⟨rfl, g7⟩
              have F7 : Hid (Fin9 b v l w w7 (.ok r)) := ⟨FX.out.1.trans (g7.turn _), FX.out.2.grew g7⟩
              clear CF g7
              by_cases hf : formP op = 0
              · have hnil := (formD_nil op).2 hf
                have HF : Hid (formP op = 0) := hf
                have hem : (BA (formD op)).toList.isEmpty = true := by rw [hnil, ba_list]; rfl
                obtain ⟨sx, hsx⟩ : ∃ sx, BA (formD op) = sx := ⟨_, rfl⟩
                rw [hsx] at hem ⊢
                clear hnil hf hsx
                go_wp2_with fail
                refine (fail9_any F7.out.2 p 4 (by decide)).mono ?_
                rintro en w8 ⟨rfl, t8, s8⟩
                have F8 : Hid (Fin9 b v l w w8 (failI (.ok r) p 4)) := ⟨F7.out.1.trans t8, s8⟩
                clear t8 s8
                go_wp2_with fail
                go_ret
                refine ⟨op, _, rfl, ⟨g0, g1⟩, F8.out, ?_⟩
                rw [TI.out]
                unfold opEnd
                rw [if_pos HF.out]
                rfl
              · have hne : (BA (formD op)).toList.isEmpty = false := by
                  have : formD op ≠ [] := fun hh => hf ((formD_nil op).1 hh)
                  simpa [BA] using this
                have HF : Hid (¬ formP op = 0) := hf
                obtain ⟨sx, hsx⟩ : ∃ sx, BA (formD op) = sx := ⟨_, rfl⟩
                rw [hsx] at hne ⊢
                clear hsx hf
                go_wp2_with fail
                go_ret
                refine ⟨op, _, rfl, ⟨g0, g1⟩, F7.out, ?_⟩
                rw [TI.out]
                unfold opEnd
                rw [if_neg HF.out]
                rfl
      · have d251 : (c == 251) = false := by simp; exact fun hh => hpre (Or.inl hh)
        have d252 : (c == 252) = false := by simp; exact fun hh => hpre (Or.inr hh)
        have HPR : Hid (¬ (c = 251 ∨ c = 252)) := hpre
        clear hpre h253
        go_wp2_with fail
        have FX := F1
        have BND : Hid (0 ≤ c ∧ c ≤ 65535) := (by omega : 0 ≤ c ∧ c ≤ 65535)
        have TI : Hid (R = opEnd p c q) := by
          show R = _
          rw [HR.out, opR_is, HX.out]
          simp only [thenR, if_neg H253.out]
          rw [if_neg HPR.out]
        clear hcw k3 y0 y1
        obtain ⟨g0, g1⟩ := BND.out
        have CF := refForm_any c (by omega) (by omega) w1
        refine CF.mono ?_
        rintro en w7 ⟨rfl, g7⟩
        have F7 : Hid (Fin9 b v l w w7 (.ok q)) := ⟨FX.out.1.trans (g7.turn _), FX.out.2.grew g7⟩
        clear CF g7
        by_cases hf : formP c = 0
        · have hnil := (formD_nil c).2 hf
          have HF : Hid (formP c = 0) := hf
          have hem : (BA (formD c)).toList.isEmpty = true := by rw [hnil, ba_list]; rfl
          obtain ⟨sx, hsx⟩ : ∃ sx, BA (formD c) = sx := ⟨_, rfl⟩
          rw [hsx] at hem ⊢
          clear hnil hf hsx
          go_wp2_with fail
          refine (fail9_any F7.out.2 p 4 (by decide)).mono ?_
          rintro en w8 ⟨rfl, t8, s8⟩
          have F8 : Hid (Fin9 b v l w w8 (failI (.ok q) p 4)) := ⟨F7.out.1.trans t8, s8⟩
          clear t8 s8
          go_wp2_with fail
          go_ret
          refine ⟨c, _, rfl, ⟨g0, g1⟩, F8.out, ?_⟩
          rw [TI.out]
          unfold opEnd
          rw [if_pos HF.out]
          rfl
        · have hne : (BA (formD c)).toList.isEmpty = false := by
            have : formD c ≠ [] := fun hh => hf ((formD_nil c).1 hh)
            simpa [BA] using this
          have HF : Hid (¬ formP c = 0) := hf
          obtain ⟨sx, hsx⟩ : ∃ sx, BA (formD c) = sx := ⟨_, rfl⟩
          rw [hsx] at hne ⊢
          clear hsx hf
          go_wp2_with fail
          go_ret
          refine ⟨c, _, rfl, ⟨g0, g1⟩, F7.out, ?_⟩
          rw [TI.out]
          unfold opEnd
          rw [if_neg HF.out]
          rfl
end Go.Proofs.YtohapnninjdlfaaGreatDoor
