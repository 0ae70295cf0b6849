/-
  The walk of the program's each, for each closure that it is handed; no statement is proved here.
-/
import Derived.Test.YtojkonoffdlbpaaDoorEach
namespace Go.Proofs.YtojkonoffdlbpaaDoor
open Go.RowKit
set_option linter.unusedVariables false
set_option linter.unusedSimpArgs false

set_option maxRecDepth 100000 in
set_option maxHeartbeats 2000000 in
theorem each_spk {w : World} (T : World → World → Prop) (Is Ip Ir If : Nat → World → Prop) {fin : Bool} {kind : Int} {sa pa ra fa : Option Addr} {ns sc np pc nr rc nf fc sb so pb po rb ro fb fo : Nat} {pv rv fv c1 c2 : Value}
    (hpv : KP kind pv = .slice pa np pc) (hrv : KP kind rv = .slice ra nr rc) (hfv : KF kind fv = .slice fa nf fc) (xp : ∃ a n c, pv = .slice a n c) (xr : ∃ a n c, rv = .slice a n c) (xf : ∃ a n c, fv = .slice a n c)
    (as_ : 0 < ns → sa = some ⟨sb, so, none⟩) (ap : 0 < np → pa = some ⟨pb, po, none⟩) (ar : 0 < nr → ra = some ⟨rb, ro, none⟩) (af : 0 < nf → fa = some ⟨fb, fo, none⟩)
    (ls : ns ≤ sc) (lp : np ≤ pc) (lr : nr ≤ rc) (lf : nf ≤ fc) (ms : ns ≤ 1048576) (mp : np ≤ 1048576) (mr : nr ≤ 1048576) (mf : nf ≤ 1048576)
    (tg : ∀ w' w'', Grew w' w'' → T w' w'') (tt : ∀ a b c, T a b → T b c → T a c) (ts : ∀ a b, T a b → a.heap.size ≤ b.heap.size) (tk : ∀ w' w'', T w' w'' → ∀ b, w.heap.size ≤ b → ∀ cs t, (t = 32 ∨ t = 30) → w'.heap[b]? = some (.cells cs t (0, 0)) → w''.heap[b]? = some (.cells cs t (0, 0))) (h0 : Is 0 w) (gs : ∀ i w' w'', Is i w' → Grew w' w'' → Is i w'') (gp : ∀ i w' w'', Ip i w' → Grew w' w'' → Ip i w'')
    (sp : ∀ w', Is ns w' → Ip 0 w') (pr : ∀ w', Ip np w' → Ir 0 w') (rf : ∀ w', Ir nr w' → If 0 w')
    (hs : ∀ i, i < ns → ∀ w', Is i w' → T w w' → Calls Tryd.prog 28 #[.pointer (some ⟨sb, so + i, none⟩), c1, c2] w' fun e w'' => e = .returned UNIT ∧ Is (i + 1) w'' ∧ T w' w'')
    (hp : ∀ i, i < np → ∀ w', Ip i w' → T w w' → Calls Tryd.prog 42 #[.pointer (some ⟨pb, po + i * 3, none⟩), (.func (.func 28) #[] #[c1, c2])] w' fun e w'' => e = .returned UNIT ∧ Ip (i + 1) w'' ∧ T w' w'')
    (hr : ∀ i, i < nr → ∀ w', Ir i w' → T w w' → Calls Tryd.prog 42 #[.pointer (some ⟨rb, ro + i * 3, none⟩), (.func (.func 28) #[] #[c1, c2])] w' fun e w'' => e = .returned UNIT ∧ Ir (i + 1) w'' ∧ T w' w'')
    (hf : ∀ i, i < nf → ∀ w', If i w' → T w w' → Calls Tryd.prog 42 #[.pointer (some ⟨fb, fo + i * 4, none⟩), (.func (.func 28) #[] #[c1, c2])] w' fun e w'' => e = .returned UNIT ∧ If (i + 1) w'' ∧ T w' w'') :
    Calls Tryd.prog 27 #[.agg #[.bool fin, .slice sa ns sc, .int .i64 kind, pv, rv, fv], (.func (.func 28) #[] #[c1, c2])] w fun e w' => e = .returned UNIT ∧ If nf w' ∧ T w w' := by
  unfold UNIT at *
  have C := fun w' => ofKind_any kind pv rv fv w' xp xr xf
  rw [hpv, hrv, hfv] at C
  obtain ⟨pa0, pn0, pc0, rfl⟩ := xp
  obtain ⟨ra0, rn0, rc0, rfl⟩ := xr
  obtain ⟨fa0, fn0, fc0, rfl⟩ := xf
  have TG : Hid (∀ w' w'', Grew w' w'' → T w' w'') := tg
  have TT : Hid (∀ a b c, T a b → T b c → T a c) := tt
  have TS : Hid (∀ a b, T a b → a.heap.size ≤ b.heap.size) := ts
  have TK : Hid (∀ w' w'', T w' w'' → ∀ b, w.heap.size ≤ b → ∀ cs t, (t = 32 ∨ t = 30) → w'.heap[b]? = some (.cells cs t (0, 0)) → w''.heap[b]? = some (.cells cs t (0, 0))) := tk
  have GP : Hid (∀ i w' w'', Ip i w' → Grew w' w'' → Ip i w'') := gp
  have SP : Hid (∀ w', Is ns w' → Ip 0 w') := sp
  have PR : Hid (∀ w', Ip np w' → Ir 0 w') := pr
  have RF : Hid (∀ w', Ir nr w' → If 0 w') := rf
  have HHS : Hid (∀ i, i < ns → ∀ w', Is i w' → T w w' → Calls Tryd.prog 28 #[.pointer (some ⟨sb, so + i, none⟩), c1, c2] w' fun e w'' => e = .returned (.tuple #[]) ∧ Is (i + 1) w'' ∧ T w' w'') := hs
  have HHP : Hid (∀ i, i < np → ∀ w', Ip i w' → T w w' → Calls Tryd.prog 42 #[.pointer (some ⟨pb, po + i * 3, none⟩), (.func (.func 28) #[] #[c1, c2])] w' fun e w'' => e = .returned (.tuple #[]) ∧ Ip (i + 1) w'' ∧ T w' w'') := hp
  have HHR : Hid (∀ i, i < nr → ∀ w', Ir i w' → T w w' → Calls Tryd.prog 42 #[.pointer (some ⟨rb, ro + i * 3, none⟩), (.func (.func 28) #[] #[c1, c2])] w' fun e w'' => e = .returned (.tuple #[]) ∧ Ir (i + 1) w'' ∧ T w' w'') := hr
  have HHF : Hid (∀ i, i < nf → ∀ w', If i w' → T w w' → Calls Tryd.prog 42 #[.pointer (some ⟨fb, fo + i * 4, none⟩), (.func (.func 28) #[] #[c1, c2])] w' fun e w'' => e = .returned (.tuple #[]) ∧ If (i + 1) w'' ∧ T w' w'') := hf
  have I0 : Hid (Is 0 (w.alloc (.cells #[.bool fin, .slice sa ns sc, .int .i64 kind, .slice pa0 pn0 pc0, .slice ra0 rn0 rc0, .slice fa0 fn0 fc0] 32))) := gs _ _ _ h0 ((Grew.refl w).alloc _)
  have T0 : Hid (T w (w.alloc (.cells #[.bool fin, .slice sa ns sc, .int .i64 kind, .slice pa0 pn0 pc0, .slice ra0 rn0 rc0, .slice fa0 fn0 fc0] 32))) := tg _ _ ((Grew.refl w).alloc _)
  have A0 : Hid ((w.alloc (.cells #[.bool fin, .slice sa ns sc, .int .i64 kind, .slice pa0 pn0 pc0, .slice ra0 rn0 rc0, .slice fa0 fn0 fc0] 32)).heap[w.heap.size]? = some (sobj fin (.slice sa ns sc) kind (.slice pa0 pn0 pc0) (.slice ra0 rn0 rc0) (.slice fa0 fn0 fc0))) := heap_alloc_last _ _
  generalize hW : (w.alloc (.cells #[.bool fin, .slice sa ns sc, .int .i64 kind, .slice pa0 pn0 pc0, .slice ra0 rn0 rc0, .slice fa0 fn0 fc0] 32)) = W at *
  obtain ⟨b0, b1, b2, b3, b4, b5⟩ := box_s A0.out
  clear gp sp pr rf hs hp hr hf h0 gs hpv hrv hfv tg tt ts tk
  go_enter Tryd.func27, Tryd.ntmps27
  go_wp2_with fail
  go_loopw [12] (fun i_ w' => ∃ i : Nat, i_ = .int .i64 i ∧ i ≤ ns ∧ Hid (Is i w') ∧ Hid (T w w') ∧ Hid (w'.heap[w.heap.size]? = some (sobj fin (.slice sa ns sc) kind (.slice pa0 pn0 pc0) (.slice ra0 rn0 rc0) (.slice fa0 fn0 fc0)))) (fun i_ _ => ns - (intOf i_).toNat)
  case atStart => exact ⟨0, rfl, Nat.zero_le _, I0, T0, A0⟩
  case round =>
    clear I0 T0 A0 b0 b1 b2 b3 b4 b5
    obtain ⟨i, rfl, hi, I, TW, A⟩ := hrel
    obtain ⟨w0, hw0⟩ : ∃ w0, w0 = wr := ⟨_, rfl⟩
    rw [← hw0] at I TW A ⊢
    clear hw0 hW
    obtain ⟨b0, b1, b2, b3, b4, b5⟩ := box_s A.out
    by_cases hlt : i < ns
    · have hsa := as_ (by omega)
      subst hsa
      have d1 : decide ((i : Int) < (ns : Int)) = true := by simp; omega
      have d2 : decide (i < ns) = true := by simp; omega
      have D := HHS.out i hlt w0 I.out TW.out
      go_wp2_with fail
      refine D.mono ?_
      rintro en w1 ⟨rfl, i1, t1⟩
      have I1 : Hid (Is (i + 1) w1) := i1
      have T1 : Hid (T w w1) := TT.out _ _ _ TW.out t1
      have A1 : Hid (w1.heap[w.heap.size]? = some (sobj fin (.slice (some ⟨sb, so, none⟩) ns sc) kind (.slice pa0 pn0 pc0) (.slice ra0 rn0 rc0) (.slice fa0 fn0 fc0))) := TK.out _ _ t1 _ (Nat.le_refl _) _ _ (Or.inl rfl) A.out
      clear D i1 t1
      go_wp2_with fail
      go_roundw
      case rel => exact ⟨i + 1, by go_num, by omega, I1, T1, A1⟩
      case measure => simp [intOf]; omega
    · have d1 : decide ((i : Int) < (ns : Int)) = false := by simp; omega
      have hin : i = ns := by omega
      rw [hin] at I
      clear hin
      go_wp2_with fail
      refine (C _).mono ?_
      rintro en w1 ⟨rfl, g1⟩
      have J1 : Hid (Ip 0 w1) := GP.out _ _ _ (SP.out _ I.out) g1
      have T1 : Hid (T w w1) := TT.out _ _ _ TW.out (TG.out _ _ g1)
      have hsz : w.heap.size ≤ w1.heap.size := TS.out _ _ T1.out
      clear g1 C I TW A b0 b1 b2 b3 b4 b5
      go_wp2_with fail
      have J2 : Hid (Ip 0 (w1.alloc (.cells #[.int .i64 kind, .slice pa np pc, .slice ra nr rc, .slice fa nf fc] 30))) := GP.out _ _ _ J1.out ((Grew.refl _).alloc _)
      have T2 : Hid (T w (w1.alloc (.cells #[.int .i64 kind, .slice pa np pc, .slice ra nr rc, .slice fa nf fc] 30))) := TT.out _ _ _ T1.out (TG.out _ _ ((Grew.refl _).alloc _))
      have A2 : Hid ((w1.alloc (.cells #[.int .i64 kind, .slice pa np pc, .slice ra nr rc, .slice fa nf fc] 30)).heap[w1.heap.size]? = some (cobj kind (.slice pa np pc) (.slice ra nr rc) (.slice fa nf fc))) := heap_alloc_last _ _
      generalize (w1.alloc (.cells #[.int .i64 kind, .slice pa np pc, .slice ra nr rc, .slice fa nf fc] 30)) = W2 at *
      generalize hbx : w1.heap.size = bx at *
      clear hbx J1 T1
      go_loopw [28] (fun i_ w' => ∃ i : Nat, i_ = .int .i64 i ∧ i ≤ np ∧ Hid (Ip i w') ∧ Hid (T w w') ∧ Hid (w'.heap[bx]? = some (cobj kind (.slice pa np pc) (.slice ra nr rc) (.slice fa nf fc)))) (fun i_ _ => np - (intOf i_).toNat)
      case atStart => exact ⟨0, rfl, Nat.zero_le _, J2, T2, A2⟩
      case round =>
        clear J2 T2 A2
        obtain ⟨i, rfl, hi, I, TW, A⟩ := hrel
        obtain ⟨w0, hw0⟩ : ∃ w0, w0 = wr := ⟨_, rfl⟩
        rw [← hw0] at I TW A ⊢
        clear hw0
        obtain ⟨b0, b1, b2, b3⟩ := box_c A.out
        by_cases hlt : i < np
        · have hsa := ap (by omega)
          subst hsa
          have d1 : decide ((i : Int) < (np : Int)) = true := by simp; omega
          have d2 : decide (i < np) = true := by simp; omega
          have D := HHP.out i hlt w0 I.out TW.out
          go_wp2_with fail
          refine D.mono ?_
          rintro en w3 ⟨rfl, i1, t1⟩
          have I1 : Hid (Ip (i + 1) w3) := i1
          have T1 : Hid (T w w3) := TT.out _ _ _ TW.out t1
          have A1 := TK.out _ _ t1 _ hsz _ _ (Or.inr rfl) A.out
          clear D i1 t1
          go_wp2_with fail
          go_roundw
          case rel => exact ⟨i + 1, by go_num, by omega, I1, T1, A1⟩
          case measure => simp [intOf]; omega
        · have d1 : decide ((i : Int) < (np : Int)) = false := by simp; omega
          have hin : i = np := by omega
          rw [hin] at I
          clear hin
          have J3 : Hid (Ir 0 w0) := PR.out _ I.out
          go_wp2_with fail
          go_loopw [41] (fun i_ w' => ∃ i : Nat, i_ = .int .i64 i ∧ i ≤ nr ∧ Hid (Ir i w') ∧ Hid (T w w') ∧ Hid (w'.heap[bx]? = some (cobj kind (.slice pa np pc) (.slice ra nr rc) (.slice fa nf fc)))) (fun i_ _ => nr - (intOf i_).toNat)
          case atStart => exact ⟨0, rfl, Nat.zero_le _, J3, TW, A⟩
          case round =>
            clear I J3 TW A b0 b1 b2 b3
            obtain ⟨i, rfl, hi, I, TW, A⟩ := hrel
            obtain ⟨w0, hw0⟩ : ∃ w0, w0 = wr := ⟨_, rfl⟩
            rw [← hw0] at I TW A ⊢
            clear hw0
            obtain ⟨b0, b1, b2, b3⟩ := box_c A.out
            by_cases hlt : i < nr
            · have hsa := ar (by omega)
              subst hsa
              have d1 : decide ((i : Int) < (nr : Int)) = true := by simp; omega
              have d2 : decide (i < nr) = true := by simp; omega
              have D := HHR.out i hlt w0 I.out TW.out
              go_wp2_with fail
              refine D.mono ?_
              rintro en w3 ⟨rfl, i1, t1⟩
              have I1 : Hid (Ir (i + 1) w3) := i1
              have T1 : Hid (T w w3) := TT.out _ _ _ TW.out t1
              have A1 := TK.out _ _ t1 _ hsz _ _ (Or.inr rfl) A.out
              clear D i1 t1
              go_wp2_with fail
              go_roundw
              case rel => exact ⟨i + 1, by go_num, by omega, I1, T1, A1⟩
              case measure => simp [intOf]; omega
            · have d1 : decide ((i : Int) < (nr : Int)) = false := by simp; omega
              have hin : i = nr := by omega
              rw [hin] at I
              clear hin
              have J4 : Hid (If 0 w0) := RF.out _ I.out
              go_wp2_with fail
              go_loopw [54] (fun i_ w' => ∃ i : Nat, i_ = .int .i64 i ∧ i ≤ nf ∧ Hid (If i w') ∧ Hid (T w w') ∧ Hid (w'.heap[bx]? = some (cobj kind (.slice pa np pc) (.slice ra nr rc) (.slice fa nf fc)))) (fun i_ _ => nf - (intOf i_).toNat)
              case atStart => exact ⟨0, rfl, Nat.zero_le _, J4, TW, A⟩
              case round =>
                clear I J4 TW A b0 b1 b2 b3
                obtain ⟨i, rfl, hi, I, TW, A⟩ := hrel
                obtain ⟨w0, hw0⟩ : ∃ w0, w0 = wr := ⟨_, rfl⟩
                rw [← hw0] at I TW A ⊢
                clear hw0
                obtain ⟨b0, b1, b2, b3⟩ := box_c A.out
                by_cases hlt : i < nf
                · have hsa := af (by omega)
                  subst hsa
                  have d1 : decide ((i : Int) < (nf : Int)) = true := by simp; omega
                  have d2 : decide (i < nf) = true := by simp; omega
                  have D := HHF.out i hlt w0 I.out TW.out
                  go_wp2_with fail
                  refine D.mono ?_
                  rintro en w3 ⟨rfl, i1, t1⟩
                  have I1 : Hid (If (i + 1) w3) := i1
                  have T1 : Hid (T w w3) := TT.out _ _ _ TW.out t1
                  have A1 := TK.out _ _ t1 _ hsz _ _ (Or.inr rfl) A.out
                  clear D i1 t1
                  go_wp2_with fail
                  go_roundw
                  case rel => exact ⟨i + 1, by go_num, by omega, I1, T1, A1⟩
                  case measure => simp [intOf]; omega
                · have d1 : decide ((i : Int) < (nf : Int)) = false := by simp; omega
                  have hin : i = nf := by omega
                  rw [hin] at I
                  clear hin
                  go_wp2_with fail
                  try go_end0
                  exact ⟨rfl, I.out, TW.out⟩
set_option maxRecDepth 100000 in
theorem heapOf_spk {w : World} {b o : Nat} {x : VT} {c1 c2 : Value} (hV : EV w b o x) (K : World → Prop) (hcall : x.num = 5 → absB x.heap = false → Calls Tryd.prog 28 #[.pointer (some ⟨b, o + 2, none⟩), c1, c2] w fun e w' => e = .returned UNIT ∧ K w') (hno : (x.num = 5 → absB x.heap = true) → K w) :
    Calls Tryd.prog 42 #[.pointer (some ⟨b, o, none⟩), (.func (.func 28) #[] #[c1, c2])] w fun e w' => e = .returned UNIT ∧ K w' := by
  unfold UNIT at *
  obtain ⟨c0, c1', c2'⟩ := hV
  by_cases h5 : x.num = 5
  · have AB := abstract_any x.heap w
    cases hb : absB x.heap with
    | true =>
      have HK : Hid (K w) := hno (fun _ => hb)
      rw [hb] at AB
      rw [h5] at c0
      clear hcall hno
      go_enter Tryd.func42, Tryd.ntmps42
      go_wp2_with fail
      refine AB.mono ?_
      rintro en w1 ⟨rfl, h1⟩
      obtain rfl := h1.symm
      clear AB
      go_wp2_with fail
      try go_end0
      exact ⟨rfl, HK.out⟩
    | false =>
      have D := hcall h5 hb
      rw [hb] at AB
      rw [h5] at c0
      clear hcall hno
      go_enter Tryd.func42, Tryd.ntmps42
      go_wp2_with fail
      refine AB.mono ?_
      rintro en w1 ⟨rfl, h1⟩
      obtain rfl := h1.symm
      clear AB
      go_wp2_with fail
      refine D.mono ?_
      rintro en w2 ⟨rfl, k2⟩
      have HK : Hid (K w2) := k2
      clear D k2
      go_wp2_with fail
      try go_end0
      exact ⟨rfl, HK.out⟩
  · have HK : Hid (K w) := hno (fun h => absurd h h5)
    have d5 : (x.num == 5) = false := by simpa using h5
    clear hcall hno
    go_enter Tryd.func42, Tryd.ntmps42
    go_wp2_with fail
    try go_end0
    exact ⟨rfl, HK.out⟩
end Go.Proofs.YtojkonoffdlbpaaDoor
