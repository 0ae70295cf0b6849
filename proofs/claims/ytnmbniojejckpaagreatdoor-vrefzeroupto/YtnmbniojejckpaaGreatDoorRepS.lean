/-
  The program's each with the closure of replaced: a type's numbers turned; no statement is proved here.
-/
import Derived.Test.YtnmbniojejckpaaGreatDoorClo
set_option maxRecDepth 100000
set_option maxHeartbeats 8000000
namespace Go.Proofs.YtnmbniojejckpaaGreatDoor
open Go.RowKit
set_option linter.unusedVariables false
set_option linter.unusedSimpArgs false
theorem each_spk {w : World} (T : World → World → Prop) (Is Ip Ir If : Nat → World → Prop) {fin : Bool} {kind : Int} {sa pa ra fa : Option Addr} {ns sc np pc nr rc nf fc sb so pb po rb ro fb fo : Nat} {pv rv fv c1 c2 : Value}
    (hpv : KP kind pv = .slice pa np pc) (hrv : KP kind rv = .slice ra nr rc) (hfv : KF kind fv = .slice fa nf fc) (xp : ∃ a n c, pv = .slice a n c) (xr : ∃ a n c, rv = .slice a n c) (xf : ∃ a n c, fv = .slice a n c)
    (as_ : 0 < ns → sa = some ⟨sb, so, none⟩) (ap : 0 < np → pa = some ⟨pb, po, none⟩) (ar : 0 < nr → ra = some ⟨rb, ro, none⟩) (af : 0 < nf → fa = some ⟨fb, fo, none⟩)
    (ls : ns ≤ sc) (lp : np ≤ pc) (lr : nr ≤ rc) (lf : nf ≤ fc) (ms : ns ≤ 1048576) (mp : np ≤ 1048576) (mr : nr ≤ 1048576) (mf : nf ≤ 1048576)
    (tg : ∀ w' w'', Grew w' w'' → T w' w'') (tt : ∀ a b c, T a b → T b c → T a c) (ts : ∀ a b, T a b → a.heap.size ≤ b.heap.size) (tk : ∀ w' w'', T w' w'' → ∀ b, w.heap.size ≤ b → ∀ cs t, (t = 108 ∨ t = 106) → w'.heap[b]? = some (.cells cs t (0, 0)) → w''.heap[b]? = some (.cells cs t (0, 0))) (h0 : Is 0 w) (gs : ∀ i w' w'', Is i w' → Grew w' w'' → Is i w'') (gp : ∀ i w' w'', Ip i w' → Grew w' w'' → Ip i w'')
    (sp : ∀ w', Is ns w' → Ip 0 w') (pr : ∀ w', Ip np w' → Ir 0 w') (rf : ∀ w', Ir nr w' → If 0 w')
    (hs : ∀ i, i < ns → ∀ w', Is i w' → T w w' → Calls Tryz.prog 140 #[.pointer (some ⟨sb, so + i, none⟩), c1, c2] w' fun e w'' => e = .returned UNIT ∧ Is (i + 1) w'' ∧ T w' w'')
    (hp : ∀ i, i < np → ∀ w', Ip i w' → T w w' → Calls Tryz.prog 148 #[.pointer (some ⟨pb, po + i * 3, none⟩), (.func (.func 140) #[] #[c1, c2])] w' fun e w'' => e = .returned UNIT ∧ Ip (i + 1) w'' ∧ T w' w'')
    (hr : ∀ i, i < nr → ∀ w', Ir i w' → T w w' → Calls Tryz.prog 148 #[.pointer (some ⟨rb, ro + i * 3, none⟩), (.func (.func 140) #[] #[c1, c2])] w' fun e w'' => e = .returned UNIT ∧ Ir (i + 1) w'' ∧ T w' w'')
    (hf : ∀ i, i < nf → ∀ w', If i w' → T w w' → Calls Tryz.prog 148 #[.pointer (some ⟨fb, fo + i * 4, none⟩), (.func (.func 140) #[] #[c1, c2])] w' fun e w'' => e = .returned UNIT ∧ If (i + 1) w'' ∧ T w' w'') :
    Calls Tryz.prog 139 #[.agg #[.bool fin, .slice sa ns sc, .int .i64 kind, pv, rv, fv], (.func (.func 140) #[] #[c1, c2])] w fun e w' => e = .returned UNIT ∧ If nf w' ∧ T w w' := by
  unfold UNIT at *
  have C := fun w' => ofKind_any kind pv rv fv w' xp xr xf
  rw [hpv, hrv, hfv] at C
  obtain ⟨pa0, pn0, pc0, rfl⟩ := xp
  obtain ⟨ra0, rn0, rc0, rfl⟩ := xr
  obtain ⟨fa0, fn0, fc0, rfl⟩ := xf
  have TG : Hid (∀ w' w'', Grew w' w'' → T w' w'') := tg
  have TT : Hid (∀ a b c, T a b → T b c → T a c) := tt
  have TS : Hid (∀ a b, T a b → a.heap.size ≤ b.heap.size) := ts
  have TK : Hid (∀ w' w'', T w' w'' → ∀ b, w.heap.size ≤ b → ∀ cs t, (t = 108 ∨ t = 106) → w'.heap[b]? = some (.cells cs t (0, 0)) → w''.heap[b]? = some (.cells cs t (0, 0))) := tk
  have GP : Hid (∀ i w' w'', Ip i w' → Grew w' w'' → Ip i w'') := gp
  have SP : Hid (∀ w', Is ns w' → Ip 0 w') := sp
  have PR : Hid (∀ w', Ip np w' → Ir 0 w') := pr
  have RF : Hid (∀ w', Ir nr w' → If 0 w') := rf
  have HHS : Hid (∀ i, i < ns → ∀ w', Is i w' → T w w' → Calls Tryz.prog 140 #[.pointer (some ⟨sb, so + i, none⟩), c1, c2] w' fun e w'' => e = .returned (.tuple #[]) ∧ Is (i + 1) w'' ∧ T w' w'') := hs
  have HHP : Hid (∀ i, i < np → ∀ w', Ip i w' → T w w' → Calls Tryz.prog 148 #[.pointer (some ⟨pb, po + i * 3, none⟩), (.func (.func 140) #[] #[c1, c2])] w' fun e w'' => e = .returned (.tuple #[]) ∧ Ip (i + 1) w'' ∧ T w' w'') := hp
  have HHR : Hid (∀ i, i < nr → ∀ w', Ir i w' → T w w' → Calls Tryz.prog 148 #[.pointer (some ⟨rb, ro + i * 3, none⟩), (.func (.func 140) #[] #[c1, c2])] w' fun e w'' => e = .returned (.tuple #[]) ∧ Ir (i + 1) w'' ∧ T w' w'') := hr
  have HHF : Hid (∀ i, i < nf → ∀ w', If i w' → T w w' → Calls Tryz.prog 148 #[.pointer (some ⟨fb, fo + i * 4, none⟩), (.func (.func 140) #[] #[c1, c2])] w' fun e w'' => e = .returned (.tuple #[]) ∧ If (i + 1) w'' ∧ T w' w'') := hf
  have I0 : Hid (Is 0 (w.alloc (.cells #[.bool fin, .slice sa ns sc, .int .i64 kind, .slice pa0 pn0 pc0, .slice ra0 rn0 rc0, .slice fa0 fn0 fc0] 108))) := gs _ _ _ h0 ((Grew.refl w).alloc _)
  have T0 : Hid (T w (w.alloc (.cells #[.bool fin, .slice sa ns sc, .int .i64 kind, .slice pa0 pn0 pc0, .slice ra0 rn0 rc0, .slice fa0 fn0 fc0] 108))) := tg _ _ ((Grew.refl w).alloc _)
  have A0 : Hid ((w.alloc (.cells #[.bool fin, .slice sa ns sc, .int .i64 kind, .slice pa0 pn0 pc0, .slice ra0 rn0 rc0, .slice fa0 fn0 fc0] 108)).heap[w.heap.size]? = some (sobj fin (.slice sa ns sc) kind (.slice pa0 pn0 pc0) (.slice ra0 rn0 rc0) (.slice fa0 fn0 fc0))) := heap_alloc_last _ _
  generalize hW : (w.alloc (.cells #[.bool fin, .slice sa ns sc, .int .i64 kind, .slice pa0 pn0 pc0, .slice ra0 rn0 rc0, .slice fa0 fn0 fc0] 108)) = W at *
  obtain ⟨b0, b1, b2, b3, b4, b5⟩ := box_s A0.out
  clear gp sp pr rf hs hp hr hf h0 gs hpv hrv hfv tg tt ts tk
  go_enter Tryz.func139, Tryz.ntmps139
  go_wp2_with fail
  go_loopw [12] (fun i_ w' => ∃ i : Nat, i_ = .int .i64 i ∧ i ≤ ns ∧ Hid (Is i w') ∧ Hid (T w w') ∧ Hid (w'.heap[w.heap.size]? = some (sobj fin (.slice sa ns sc) kind (.slice pa0 pn0 pc0) (.slice ra0 rn0 rc0) (.slice fa0 fn0 fc0)))) (fun i_ _ => ns - (intOf i_).toNat)
  case atStart => exact ⟨0, rfl, Nat.zero_le _, I0, T0, A0⟩
  case round =>
    clear I0 T0 A0 b0 b1 b2 b3 b4 b5
    obtain ⟨i, rfl, hi, I, TW, A⟩ := hrel
    obtain ⟨w0, hw0⟩ : ∃ w0, w0 = wr := ⟨_, rfl⟩
    rw [← hw0] at I TW A ⊢
    clear hw0 hW
    obtain ⟨b0, b1, b2, b3, b4, b5⟩ := box_s A.out
    by_cases hlt : i < ns
    · have hsa := as_ (by omega)
      subst hsa
      have d1 : decide ((i : Int) < (ns : Int)) = true := by simp; omega
      have d2 : decide (i < ns) = true := by simp; omega
      have D := HHS.out i hlt w0 I.out TW.out
      go_wp2_with fail
      refine D.mono ?_
      rintro en w1 ⟨rfl, i1, t1⟩
      have I1 : Hid (Is (i + 1) w1) := i1
      have T1 : Hid (T w w1) := TT.out _ _ _ TW.out t1
      have A1 : Hid (w1.heap[w.heap.size]? = some (sobj fin (.slice (some ⟨sb, so, none⟩) ns sc) kind (.slice pa0 pn0 pc0) (.slice ra0 rn0 rc0) (.slice fa0 fn0 fc0))) := TK.out _ _ t1 _ (Nat.le_refl _) _ _ (Or.inl rfl) A.out
      clear D i1 t1
      go_wp2_with fail
      go_roundw
      case rel => exact ⟨i + 1, by go_num, by omega, I1, T1, A1⟩
      case measure => simp [intOf]; omega
    · have d1 : decide ((i : Int) < (ns : Int)) = false := by simp; omega
      have hin : i = ns := by omega
      rw [hin] at I
      clear hin
      go_wp2_with fail
      refine (C _).mono ?_
      rintro en w1 ⟨rfl, g1⟩
      have J1 : Hid (Ip 0 w1) := GP.out _ _ _ (SP.out _ I.out) g1
      have T1 : Hid (T w w1) := TT.out _ _ _ TW.out (TG.out _ _ g1)
      have hsz : w.heap.size ≤ w1.heap.size := TS.out _ _ T1.out
      clear g1 C I TW A b0 b1 b2 b3 b4 b5
      go_wp2_with fail
      have J2 : Hid (Ip 0 (w1.alloc (.cells #[.int .i64 kind, .slice pa np pc, .slice ra nr rc, .slice fa nf fc] 106))) := GP.out _ _ _ J1.out ((Grew.refl _).alloc _)
      have T2 : Hid (T w (w1.alloc (.cells #[.int .i64 kind, .slice pa np pc, .slice ra nr rc, .slice fa nf fc] 106))) := TT.out _ _ _ T1.out (TG.out _ _ ((Grew.refl _).alloc _))
      have A2 : Hid ((w1.alloc (.cells #[.int .i64 kind, .slice pa np pc, .slice ra nr rc, .slice fa nf fc] 106)).heap[w1.heap.size]? = some (cobj kind (.slice pa np pc) (.slice ra nr rc) (.slice fa nf fc))) := heap_alloc_last _ _
      generalize (w1.alloc (.cells #[.int .i64 kind, .slice pa np pc, .slice ra nr rc, .slice fa nf fc] 106)) = W2 at *
      generalize hbx : w1.heap.size = bx at *
      clear hbx J1 T1
      go_loopw [28] (fun i_ w' => ∃ i : Nat, i_ = .int .i64 i ∧ i ≤ np ∧ Hid (Ip i w') ∧ Hid (T w w') ∧ Hid (w'.heap[bx]? = some (cobj kind (.slice pa np pc) (.slice ra nr rc) (.slice fa nf fc)))) (fun i_ _ => np - (intOf i_).toNat)
      case atStart => exact ⟨0, rfl, Nat.zero_le _, J2, T2, A2⟩
      case round =>
        clear J2 T2 A2
        obtain ⟨i, rfl, hi, I, TW, A⟩ := hrel
        obtain ⟨w0, hw0⟩ : ∃ w0, w0 = wr := ⟨_, rfl⟩
        rw [← hw0] at I TW A ⊢
        clear hw0
        obtain ⟨b0, b1, b2, b3⟩ := box_c A.out
        by_cases hlt : i < np
        · have hsa := ap (by omega)
          subst hsa
          have d1 : decide ((i : Int) < (np : Int)) = true := by simp; omega
          have d2 : decide (i < np) = true := by simp; omega
          have D := HHP.out i hlt w0 I.out TW.out
          go_wp2_with fail
          refine D.mono ?_
          rintro en w3 ⟨rfl, i1, t1⟩
          have I1 : Hid (Ip (i + 1) w3) := i1
          have T1 : Hid (T w w3) := TT.out _ _ _ TW.out t1
          have A1 := TK.out _ _ t1 _ hsz _ _ (Or.inr rfl) A.out
          clear D i1 t1
          go_wp2_with fail
          go_roundw
          case rel => exact ⟨i + 1, by go_num, by omega, I1, T1, A1⟩
          case measure => simp [intOf]; omega
        · have d1 : decide ((i : Int) < (np : Int)) = false := by simp; omega
          have hin : i = np := by omega
          rw [hin] at I
          clear hin
          have J3 : Hid (Ir 0 w0) := PR.out _ I.out
          go_wp2_with fail
          go_loopw [41] (fun i_ w' => ∃ i : Nat, i_ = .int .i64 i ∧ i ≤ nr ∧ Hid (Ir i w') ∧ Hid (T w w') ∧ Hid (w'.heap[bx]? = some (cobj kind (.slice pa np pc) (.slice ra nr rc) (.slice fa nf fc)))) (fun i_ _ => nr - (intOf i_).toNat)
          case atStart => exact ⟨0, rfl, Nat.zero_le _, J3, TW, A⟩
          case round =>
            clear I J3 TW A b0 b1 b2 b3
            obtain ⟨i, rfl, hi, I, TW, A⟩ := hrel
            obtain ⟨w0, hw0⟩ : ∃ w0, w0 = wr := ⟨_, rfl⟩
            rw [← hw0] at I TW A ⊢
            clear hw0
            obtain ⟨b0, b1, b2, b3⟩ := box_c A.out
            by_cases hlt : i < nr
            · have hsa := ar (by omega)
              subst hsa
              have d1 : decide ((i : Int) < (nr : Int)) = true := by simp; omega
              have d2 : decide (i < nr) = true := by simp; omega
              have D := HHR.out i hlt w0 I.out TW.out
              go_wp2_with fail
              refine D.mono ?_
              rintro en w3 ⟨rfl, i1, t1⟩
              have I1 : Hid (Ir (i + 1) w3) := i1
              have T1 : Hid (T w w3) := TT.out _ _ _ TW.out t1
              have A1 := TK.out _ _ t1 _ hsz _ _ (Or.inr rfl) A.out
              clear D i1 t1
              go_wp2_with fail
              go_roundw
              case rel => exact ⟨i + 1, by go_num, by omega, I1, T1, A1⟩
              case measure => simp [intOf]; omega
            · have d1 : decide ((i : Int) < (nr : Int)) = false := by simp; omega
              have hin : i = nr := by omega
              rw [hin] at I
              clear hin
              have J4 : Hid (If 0 w0) := RF.out _ I.out
              go_wp2_with fail
              go_loopw [54] (fun i_ w' => ∃ i : Nat, i_ = .int .i64 i ∧ i ≤ nf ∧ Hid (If i w') ∧ Hid (T w w') ∧ Hid (w'.heap[bx]? = some (cobj kind (.slice pa np pc) (.slice ra nr rc) (.slice fa nf fc)))) (fun i_ _ => nf - (intOf i_).toNat)
              case atStart => exact ⟨0, rfl, Nat.zero_le _, J4, TW, A⟩
              case round =>
                clear I J4 TW A b0 b1 b2 b3
                obtain ⟨i, rfl, hi, I, TW, A⟩ := hrel
                obtain ⟨w0, hw0⟩ : ∃ w0, w0 = wr := ⟨_, rfl⟩
                rw [← hw0] at I TW A ⊢
                clear hw0
                obtain ⟨b0, b1, b2, b3⟩ := box_c A.out
                by_cases hlt : i < nf
                · have hsa := af (by omega)
                  subst hsa
                  have d1 : decide ((i : Int) < (nf : Int)) = true := by simp; omega
                  have d2 : decide (i < nf) = true := by simp; omega
                  have D := HHF.out i hlt w0 I.out TW.out
                  go_wp2_with fail
                  refine D.mono ?_
                  rintro en w3 ⟨rfl, i1, t1⟩
                  have I1 : Hid (If (i + 1) w3) := i1
                  have T1 : Hid (T w w3) := TT.out _ _ _ TW.out t1
                  have A1 := TK.out _ _ t1 _ hsz _ _ (Or.inr rfl) A.out
                  clear D i1 t1
                  go_wp2_with fail
                  go_roundw
                  case rel => exact ⟨i + 1, by go_num, by omega, I1, T1, A1⟩
                  case measure => simp [intOf]; omega
                · have d1 : decide ((i : Int) < (nf : Int)) = false := by simp; omega
                  have hin : i = nf := by omega
                  rw [hin] at I
                  clear hin
                  go_wp2_with fail
                  try go_end0
                  exact ⟨rfl, I.out, TW.out⟩
theorem heapOf_spk {w : World} {b o : Nat} {x : VT} {c1 c2 : Value} (hV : EV w b o x) (K : World → Prop) (hcall : x.num = 5 → absB x.heap = false → Calls Tryz.prog 140 #[.pointer (some ⟨b, o + 2, none⟩), c1, c2] w fun e w' => e = .returned UNIT ∧ K w') (hno : (x.num = 5 → absB x.heap = true) → K w) :
    Calls Tryz.prog 148 #[.pointer (some ⟨b, o, none⟩), (.func (.func 140) #[] #[c1, c2])] w fun e w' => e = .returned UNIT ∧ K w' := by
  unfold UNIT at *
  obtain ⟨c0, c1', c2'⟩ := hV
  by_cases h5 : x.num = 5
  · have AB := abstract_any x.heap w
    cases hb : absB x.heap with
    | true =>
      have HK : Hid (K w) := hno (fun _ => hb)
      rw [hb] at AB
      rw [h5] at c0
      clear hcall hno
      go_enter Tryz.func148, Tryz.ntmps148
      go_wp2_with fail
      refine AB.mono ?_
      rintro en w1 ⟨rfl, h1⟩
      obtain rfl := h1.symm
      clear AB
      go_wp2_with fail
      try go_end0
      exact ⟨rfl, HK.out⟩
    | false =>
      have D := hcall h5 hb
      rw [hb] at AB
      rw [h5] at c0
      clear hcall hno
      go_enter Tryz.func148, Tryz.ntmps148
      go_wp2_with fail
      refine AB.mono ?_
      rintro en w1 ⟨rfl, h1⟩
      obtain rfl := h1.symm
      clear AB
      go_wp2_with fail
      refine D.mono ?_
      rintro en w2 ⟨rfl, k2⟩
      have HK : Hid (K w2) := k2
      clear D k2
      go_wp2_with fail
      try go_end0
      exact ⟨rfl, HK.out⟩
  · have HK : Hid (K w) := hno (fun h => absurd h h5)
    have d5 : (x.num == 5) = false := by simpa using h5
    clear hcall hno
    go_enter Tryz.func148, Tryz.ntmps148
    go_wp2_with fail
    try go_end0
    exact ⟨rfl, HK.out⟩
theorem flat_set {α : Type} {f : α → List Value} {k : Nat} (hf : ∀ a, (f a).length = k) {x' : α} {j : Nat} {u : Value} : ∀ (l : List α) (i : Nat) (x : α), l[i]? = some x → j < k → (f x).set j u = f x' → (l.flatMap f).set (i * k + j) u = (l.set i x').flatMap f := by
  intro l
  induction l with
  | nil => intro i x h; simp at h
  | cons a l ih =>
    intro i x h hj hx
    cases i with
    | zero =>
      simp only [List.getElem?_cons_zero, Option.some.injEq] at h
      subst h
      rw [List.flatMap_cons, List.set_cons_zero, List.flatMap_cons, Nat.zero_mul, Nat.zero_add, List.set_append_left _ _ (by rw [hf]; exact hj), hx]
    | succ i =>
      rw [List.getElem?_cons_succ] at h
      rw [List.flatMap_cons, List.set_cons_succ, List.flatMap_cons, List.set_append_right _ _ (by rw [hf, Nat.succ_mul]; omega), hf, show (i + 1) * k + j - k = i * k + j by rw [Nat.succ_mul]; omega, ih i x h hj hx]
/- The row behind the closure. -/
theorem row_rep {α : Type} {f : α → List Value} {k : Nat} (hf : ∀ a, (f a).length = k) {w w' : World} {lo g c : Nat} {e : TypeId} {l : List α} {i j okb : Nat} {x x' : α} {m : Int} (h : w.ownsRow lo e k (.slice (some ⟨g, 0, none⟩) l.length c) l.length (l.flatMap f)) (hx : l[i]? = some x) (hj : j < k) (hs : (f x).set j (.int .i64 m) = f x') (r : RepO g (i * k + j) okb m w w') :
    w'.ownsRow lo e k (.slice (some ⟨g, 0, none⟩) (l.set i x').length c) (l.set i x').length ((l.set i x').flatMap f) := by
  have h1 := World.ownsRow.stored h (i * k + j) (.int .i64 m)
  rw [flat_set hf l i x hx hj hs] at h1
  rw [List.length_set]
  refine row_same h1.1 (fun g' hg => ?_)
  cases hg
  exact r.num
theorem row_at {w : World} {B : Nat} {e : TypeId} {k : Nat} {v : Value} {n : Nat} {cs : List Value} (h : w.ownsRow B e k v n cs) (hn : 0 < n) : ∃ g c, v = .slice (some ⟨g, 0, none⟩) n c ∧ n ≤ c ∧ v.ownBlock = some g := by
  obtain ⟨h1, ⟨_, h2⟩ | ⟨g, cap, cur, rfl, hB, hg, h3⟩⟩ := h
  · omega
  · exact ⟨g, cap, rfl, h3.1, rfl⟩
/- A row of another kind, or elsewhere, stays. -/
theorem row_rep_tag {w w' : World} {lo lo' g j okb : Nat} {m : Int} {e e' : TypeId} {k k' : Nat} {v v' : Value} {n n' : Nat} {cs cs' : List Value} (h : w.ownsRow lo e k v n cs) (r : RepO g j okb m w w') (hg : w.ownsRow lo' e' k' v' n' cs') (hb : v'.ownBlock = some g) (hne : e' ≠ e) (hok : w.heap[okb]? = some (bobj true)) (hnb : e ≠ 4) : w'.ownsRow lo e k v n cs := by
  refine row_turnP h r.turn (fun g' hg' hx => ?_)
  obtain ⟨cur, hcur⟩ := row_tag h hg'
  obtain ⟨cur2, hcur2⟩ := row_tag hg hb
  rcases hx with rfl | rfl
  · rw [hcur] at hcur2; injection hcur2 with q; injection q with _ q2 _; exact hne q2.symm
  · rw [hcur] at hok; injection hok with q; unfold bobj at q; injection q with _ q2 _; exact hnb q2
theorem row_rep_apart {w w' : World} {lo g j okb : Nat} {m : Int} {e : TypeId} {k : Nat} {v : Value} {n : Nat} {cs : List Value} (h : w.ownsRow lo e k v n cs) (r : RepO g j okb m w w') (hb : ∀ g', v.ownBlock = some g' → g' ≠ g) (hok : w.heap[okb]? = some (bobj true)) (hnb : e ≠ 4) : w'.ownsRow lo e k v n cs := by
  refine row_turnP h r.turn (fun g' hg' hx => ?_)
  obtain ⟨cur, hcur⟩ := row_tag h hg'
  rcases hx with rfl | rfl
  · exact hb _ hg' rfl
  · rw [hcur] at hok; injection hok with q; unfold bobj at q; injection q with _ q2 _; exact hnb q2
def VT.put (x : VT) (m : Int) : VT := ⟨x.num, x.null, m⟩
def FT.put (x : FT) (m : Int) : FT := ⟨x.ty.put m, x.mut_⟩
theorem SubO.setP {a b : Nat} {w w' : World} {x : SB} {q : Q4} {g i okb : Nat} {y : VT} {m : Int} (s : SubO a b w x q) (hg : q.p.ownBlock = some g) (hx : x.comp.params[i]? = some y) (hok : w.heap[okb]? = some (bobj true)) (r : RepO g (i * 3 + 2) okb m w w') :
    SubO a b w' ⟨x.final_, x.supers, ⟨x.comp.kind, x.comp.params.set i (y.put m), x.comp.results, x.comp.fields⟩⟩ q := by
  obtain ⟨h1, h2, h3, h4, h5, h6, h7, h8, h9⟩ := s
  obtain ⟨g', c, hv, _, hb⟩ := row_at h2 (by have := (List.getElem?_eq_some_iff.1 hx).1; omega)
  rw [hb] at hg
  cases hg
  refine ⟨row_rep_tag h1 r h2 hb (by decide) hok (by decide), ?_, row_rep_apart h3 r (fun g'' hg'' e => h5 _ hb (by rw [← e]; exact hg'')) hok (by decide), row_rep_tag h4 r h2 hb (by decide) hok (by decide), h5, h6, h7, h8, h9⟩
  have h1' := h2
  unfold RowV at h1' ⊢
  rw [hv] at h1'
  have := row_rep (f := VT.c) (k := 3) (fun _ => rfl) h1' hx (j := 2) (by decide) (x' := y.put m) (m := m) rfl r
  rw [hv]
  simp only [List.length_set] at this ⊢
  exact this
theorem SubO.setR {a b : Nat} {w w' : World} {x : SB} {q : Q4} {g i okb : Nat} {y : VT} {m : Int} (s : SubO a b w x q) (hg : q.r.ownBlock = some g) (hx : x.comp.results[i]? = some y) (hok : w.heap[okb]? = some (bobj true)) (r : RepO g (i * 3 + 2) okb m w w') :
    SubO a b w' ⟨x.final_, x.supers, ⟨x.comp.kind, x.comp.params, x.comp.results.set i (y.put m), x.comp.fields⟩⟩ q := by
  obtain ⟨h1, h2, h3, h4, h5, h6, h7, h8, h9⟩ := s
  obtain ⟨g', c, hv, _, hb⟩ := row_at h3 (by have := (List.getElem?_eq_some_iff.1 hx).1; omega)
  rw [hb] at hg
  cases hg
  refine ⟨row_rep_tag h1 r h3 hb (by decide) hok (by decide), row_rep_apart h2 r (fun g'' hg'' e => h5 g'' hg'' (by rw [e]; exact hb)) hok (by decide), ?_, row_rep_tag h4 r h3 hb (by decide) hok (by decide), h5, h6, h7, h8, h9⟩
  have h1' := h3
  unfold RowV at h1' ⊢
  rw [hv] at h1'
  have := row_rep (f := VT.c) (k := 3) (fun _ => rfl) h1' hx (j := 2) (by decide) (x' := y.put m) (m := m) rfl r
  rw [hv]
  simp only [List.length_set] at this ⊢
  exact this
def VT.mp (σ : Int → Int) (x : VT) : VT := if x.num = 5 ∧ absB x.heap = false then x.put (σ x.heap) else x
def FT.mp (σ : Int → Int) (x : FT) : FT := ⟨x.ty.mp σ, x.mut_⟩
def CT.mp (σ : Int → Int) (c : CT) : CT := ⟨c.kind, c.params.map (VT.mp σ), c.results.map (VT.mp σ), c.fields.map (FT.mp σ)⟩
def SB.mp (σ : Int → Int) (y : SB) : SB := ⟨y.final_, y.supers.map σ, y.comp.mp σ⟩
/- A number that a type speaks of. -/
def NumV (l : List VT) (n : Int) : Prop := ∃ v ∈ l, v.num = 5 ∧ absB v.heap = false ∧ v.heap = n
def Num (y : SB) (n : Int) : Prop := n ∈ y.supers ∨ NumV y.comp.params n ∨ NumV y.comp.results n ∨ NumV (y.comp.fields.map FT.ty) n
/- A type has only lists that its kind has. -/
def Kin (c : CT) : Prop := (c.kind ≠ 1 → c.params = [] ∧ c.results = []) ∧ (c.kind ≠ 2 ∧ c.kind ≠ 3 → c.fields = [])
theorem Kin.cp (c : CT) : Kin c.cp := by
  unfold CT.cp CT.ofK Kin
  by_cases h1 : c.kind = 1
  · simp [h1]
  · by_cases h2 : c.kind = 2 ∨ c.kind = 3
    · rw [if_neg h1, if_pos h2]; simp; omega
    · rw [if_neg h1, if_neg h2]; simp
def OkS (okb a b : Nat) (q : Q4) (y : SB) (w : World) : Prop := w.heap[okb]? = some (bobj true) ∧ SubO a b w y q
theorem OkS.grew {okb a b : Nat} {q : Q4} {y : SB} {w w' : World} (h : OkS okb a b q y w) (g : Grew w w') : OkS okb a b q y w' := ⟨g.other h.1, h.2.turnP (g.turnP (fun _ => False)) (fun _ _ _ h => h)⟩
def Q4.owns (q : Q4) (k : Nat) : Prop := q.s.ownBlock = some k ∨ q.p.ownBlock = some k ∨ q.r.ownBlock = some k ∨ q.f.ownBlock = some k
theorem RepO.mono {g j okb : Nat} {q : Q4} {m : Int} {w w' : World} (r : RepO g j okb m w w') (hg : q.owns g) : TurnP (fun k => q.owns k ∨ k = okb) w w' := r.turn.mono (fun k _ h => h.elim (fun e => Or.inl (by rw [e]; exact hg)) Or.inr)
theorem SubO.owns {a b : Nat} {w : World} {y : SB} {q : Q4} (s : SubO a b w y q) {k : Nat} (h : q.owns k) : a ≤ k ∧ k < b ∧ k < w.heap.size := by
  obtain ⟨h1, h2, h3, h4, h5, h6, h7, h8, h9⟩ := s
  rcases h with h | h | h | h
  · exact ⟨(World.ownsRow.lt h1 k h).1, h6 k h, (World.ownsRow.lt h1 k h).2⟩
  · exact ⟨(World.ownsRow.lt h2 k h).1, h7 k h, (World.ownsRow.lt h2 k h).2⟩
  · exact ⟨(World.ownsRow.lt h3 k h).1, h8 k h, (World.ownsRow.lt h3 k h).2⟩
  · exact ⟨(World.ownsRow.lt h4 k h).1, h9 k h, (World.ownsRow.lt h4 k h).2⟩
end Go.Proofs.YtnmbniojejckpaaGreatDoor
