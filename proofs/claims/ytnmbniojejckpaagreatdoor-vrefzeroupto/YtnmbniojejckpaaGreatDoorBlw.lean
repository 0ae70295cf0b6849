/-
  Sub's below of an order; no statement is proved here.
-/
import Derived.Test.YtnmbniojejckpaaGreatDoorItR
set_option maxRecDepth 100000
set_option maxHeartbeats 8000000
namespace Go.Proofs.YtnmbniojejckpaaGreatDoor
open Go.RowKit Go.Shelf
set_option linter.unusedVariables false
set_option linter.unusedSimpArgs false
attribute [local go_sem] Oper.semAt_some
def idAt (L : List RT) (n : Int) : Int := (idsU L).getD n.toNat 0
def belowP (L : List RT) (a b : Nat) : Bool := (rowL L a).any fun n => idAt L n == idAt L (b : Int)
theorem rowF_lt {L : List RT} (hc : closedP 0 L = true) : ∀ (k a : Nat), a < (flatT L).length → ∀ x ∈ rowF L k a, ∃ n : Nat, x = n ∧ n < (flatT L).length := by
  intro k
  induction k with
  | zero => intro a ha x hx; cases hx
  | succ k ih =>
    intro a ha x hx
    cases e : supI L a with
    | none =>
      rw [rowF_none e] at hx
      simp at hx
      exact ⟨a, hx, ha⟩
    | some s =>
      rw [rowF_some e] at hx
      obtain ⟨m, rfl, hm⟩ := closed_sup hc e
      rcases List.mem_cons.1 hx with rfl | hx
      · exact ⟨a, rfl, ha⟩
      · exact ih m hm x hx
theorem idAt_get {L : List RT} {ob : Nat} {w W : World} (h : OW ob L w W) {n : Nat} (hn : n < (flatT L).length) : (idsU L)[n]? = some (idAt L (n : Int)) := by
  obtain ⟨s', _, hl, _⟩ := idsU_eq h.fit.sml h.cl
  have : n < (idsU L).length := by rw [hl, ← flat_cnt]; exact hn
  unfold idAt
  rw [Int.toNat_natCast, List.getD_eq_getElem?_getD, List.getElem?_eq_getElem this]
  rfl
theorem KX.set (X : Nat → Prop) (A : World) (p : Addr) (v : Value) : KX X A (A.setCell p v) := ⟨(KeepsOthers.setCell A p v).size, fun k o h1 h2 _ => (KeepsOthers.setCell A p v).same k o h1 h2⟩
theorem TurnP.kx {S : Nat → Prop} {A B : World} (h : TurnP S A B) (X : Nat → Prop) (hS : ∀ k o, S k → A.heap[k]? = some o → o.isCells = true) : KX X A B := ⟨h.size, fun k o h1 h2 _ => h.other h1 (fun hs => by rw [hS k o hs h1] at h2; cases h2)⟩
theorem OW.isC {ob : Nat} {L : List RT} {w W : World} (h : OW ob L w W) : ∀ k o, OB ob k → W.heap[k]? = some o → o.isCells = true := by
  rintro k o rfl ho
  obtain ⟨v, tv, iv, h1, _⟩ := h.o
  rw [h1] at ho
  injection ho with ho
  subst ho
  rfl
theorem OW.set {ob q : Nat} {L : List RT} {w A : World} (h : OW ob L w A) {cs : Array Value} {t : TypeId} {f : Nat × Nat} (hq : A.heap[q]? = some (.cells cs t f)) (h1 : t ≠ 109) (h2 : t ≠ 3) (h3 : q ≠ ob) (h4 : w.heap.size ≤ q) (j : Nat) (u : Value) : OW ob L w (A.setCell ⟨q, j, none⟩ u) := by
  obtain ⟨v, tv, iv, e1, e2, ⟨ps, p1, p2, p3⟩, e4⟩ := h.o
  exact ⟨h.fit, h.cl, h.tab, h.g.set h4 _, h.lo, v, tv, iv, heap_other e1 (fun e => h3 e.symm) _, e2, ⟨ps, p1, row_set p2 (NoT.of hq h1) _, p3⟩, e4.imp id (fun e4 => row_set e4 (NoT.of hq h2) _)⟩
theorem TurnP.setN {S : Nat → Prop} {w A : World} (h : TurnP S w A) {q : Nat} (hq : w.heap.size ≤ q) (j : Nat) (u : Value) : TurnP S w (A.setCell ⟨q, j, none⟩ u) :=
  ⟨h.os, h.tape, h.output, by simpa [World.setCell] using h.size, fun k hk hn => (Below.heap_setCell _ _ _ _ (by show k ≠ q; omega)).trans (h.block k hk hn)⟩
/- One box. -/
abbrev Bx (W : World) (b : Nat) (v : Value) (t : TypeId) : Prop := W.heap[b]? = some (.cells #[v] t (0, 0))
theorem GN.bx {N : Nat} {A B : World} (h : GN N A B) {b : Nat} {v : Value} {t : TypeId} (hb : Bx A b v t) : Bx B b v t := h.block _ _ hb (Or.inr rfl)
theorem bx_ne {W : World} {ob b : Nat} {L : List RT} {w : World} {v : Value} {t : TypeId} (h : OW ob L w W) (hb : Bx W b v t) : b ≠ ob := by
  rintro rfl
  obtain ⟨v', tv, iv, h1, _⟩ := h.o
  have hb' : W.heap[b]? = some (.cells #[v] t (0, 0)) := hb
  rw [h1] at hb'
  unfold oobj at hb'
  injection hb' with hb'
  injection hb' with hb' _ _
  have := congrArg Array.size hb'
  simp at this
theorem MV.ob {ob : Nat} {A B : World} (h : MV ob A B) {k : Nat} {o : Obj} (hk : k ≠ ob) (ho : A.heap[k]? = some o) : B.heap[k]? = some o := h.t.other ho hk
/- The frame of below: its boxes. -/
structure BF (ob : Nat) (L : List RT) (w W : World) (B : Nat) (b : Nat) (r : Bool) (A : World) : Prop where
  o : OW ob L w A
  t : MV ob W A
  b3 : Bx A B (.pointer (some ⟨ob, 0, none⟩)) 163
  b5 : Bx A (B + 1) (.int .i64 (b : Int)) 3
  b6 : Bx A (B + 1 + 1) (.bool r) 4
  hB : W.heap.size ≤ B
  hw : w.heap.size ≤ W.heap.size
theorem MV.gn {ob N : Nat} {w A B : World} (h : MV ob w A) (k : GN N A B) (hN : w.heap.size ≤ N) : MV ob w B := ⟨h.t.gn k hN, h.k.trans (k.kc ob), fun v tv iv v' tv' iv' g h1 h2 h3 h4 => by
    obtain ⟨iv2, h5⟩ := h.k.2 v tv iv h1
    have h6 := k.block _ _ h5 (Or.inr rfl)
    rw [h6] at h2
    obtain ⟨_, _, rfl⟩ := oobj_inj h2
    exact h.n _ _ _ _ _ _ g h1 h5 h3 h4⟩
theorem MV.setN {ob q : Nat} {w A : World} (h : MV ob w A) (hq : w.heap.size ≤ q) (hne : q ≠ ob) (j : Nat) (u : Value) : MV ob w (A.setCell ⟨q, j, none⟩ u) :=
  ⟨h.t.setN hq j u, ⟨fun k o h0 h1 h2 => heap_other (h.k.1 k o h0 h1 h2) (by have := lt_of_obj h1; show k ≠ q; omega) _, fun v tv iv h1 => by
    obtain ⟨iv', h2⟩ := h.k.2 v tv iv h1
    exact ⟨iv', heap_other h2 (fun e => hne e.symm) _⟩⟩, fun v tv iv v' tv' iv' g h1 h2 h3 h4 => by
    obtain ⟨iv2, h5⟩ := h.k.2 v tv iv h1
    have h6 := heap_other h5 (p := ⟨q, j, none⟩) (fun e => hne e.symm) u
    rw [h6] at h2
    obtain ⟨_, _, rfl⟩ := oobj_inj h2
    exact h.n _ _ _ _ _ _ g h1 h5 h3 h4⟩
theorem BF.gn {ob N B b : Nat} {L : List RT} {w W A C : World} {r : Bool} (h : BF ob L w W B b r A) (k : GN N A C) (hN : W.heap.size ≤ N) : BF ob L w W B b r C :=
  ⟨h.o.gn k (Nat.le_trans h.hw hN), h.t.gn k hN, k.bx h.b3, k.bx h.b5, k.bx h.b6, h.hB, h.hw⟩
theorem BF.mv {ob B b : Nat} {L : List RT} {w W A C : World} {r : Bool} (h : BF ob L w W B b r A) (o : OW ob L w C) (k : MV ob A C) : BF ob L w W B b r C :=
  ⟨o, h.t.trans k, k.ob (bx_ne h.o h.b3) h.b3, k.ob (bx_ne h.o h.b5) h.b5, k.ob (bx_ne h.o h.b6) h.b6, h.hB, h.hw⟩
theorem BF.setR {ob B b : Nat} {L : List RT} {w W A : World} {r : Bool} (h : BF ob L w W B b r A) (r' : Bool) : BF ob L w W B b r' (A.setCell ⟨B + 1 + 1, 0, none⟩ (.bool r')) := by
  have hz : w.heap.size ≤ B + 1 + 1 := by have := h.hB; have := h.hw; omega
  refine ⟨h.o.set h.b6 (by decide) (by decide) (bx_ne h.o h.b6) hz 0 _, h.t.setN (by have := h.hB; omega) (bx_ne h.o h.b6) 0 _, heap_other h.b3 (by show B ≠ B + 1 + 1; omega) _, heap_other h.b5 (by show B + 1 ≠ B + 1 + 1; omega) _, ?_, h.hB, h.hw⟩
  have := heap_set h.b6 0 (.bool r')
  exact this
theorem below_any {ob a b : Nat} {L : List RT} {w W : World} (hO : OW ob L w W) (ha : a < (flatT L).length) (hb : b < (flatT L).length) :
    Calls Tryz.prog 137 #[.pointer (some ⟨ob, 0, none⟩), .int .i64 (a : Int), .int .i64 (b : Int)] W fun en w' => en = .returned (.bool (belowP L a b)) ∧ OW ob L w w' ∧ MV ob W w' := by
  have hw : w.heap.size ≤ W.heap.size := hO.g.2
  have CR : Hid (∀ X, Calls Tryz.prog 143 #[.pointer (some ⟨ob, 0, none⟩), .int .i64 (a : Int)] X fun en w' => en = .returned (.func (.func 149) #[] #[.pointer (some ⟨X.heap.size + 1, 0, none⟩), .pointer (some ⟨X.heap.size, 0, none⟩)]) ∧ w'.heap[X.heap.size]? = some (.cells #[.pointer (some ⟨ob, 0, none⟩)] 163 (0, 0)) ∧ w'.heap[X.heap.size + 1]? = some (.cells #[.int .i64 (a : Int)] 3 (0, 0)) ∧ Grew X w') := fun X => row_any _ _ X ⟨_, rfl⟩
  have HS : Hid (∀ X bn bo, OW ob L w X → X.heap[bn]? = some (.cells #[.int .i64 (a : Int)] 3 (0, 0)) → X.heap[bo]? = some (.cells #[.pointer (some ⟨ob, 0, none⟩)] 163 (0, 0)) → SeqO ob 149 #[.pointer (some ⟨bn, 0, none⟩), .pointer (some ⟨bo, 0, none⟩)] (rowL L a) X) := fun X bn bo h1 h2 h3 => row_seq h1.cl h1.fit h1.rd ha h2 h3
  have K0 : Hid (BF ob L w W W.heap.size b false (((W.alloc (.cells #[.pointer (some ⟨ob, 0, none⟩)] 163)).alloc (.cells #[.int .i64 (b : Int)] 3)).alloc (.cells #[.bool false] 4))) := by
    have g : Grew W (((W.alloc (.cells #[.pointer (some ⟨ob, 0, none⟩)] 163)).alloc (.cells #[.int .i64 (b : Int)] 3)).alloc (.cells #[.bool false] 4)) := (((Grew.refl W).alloc _).alloc _).alloc _
    have e1 : (W.alloc (.cells #[.pointer (some ⟨ob, 0, none⟩)] 163)).heap.size = W.heap.size + 1 := alloc_size _ _
    have e2 : ((W.alloc (.cells #[.pointer (some ⟨ob, 0, none⟩)] 163)).alloc (.cells #[.int .i64 (b : Int)] 3)).heap.size = W.heap.size + 1 + 1 := by rw [alloc_size, e1]
    have x1 := heap_alloc_last (W.alloc (.cells #[.pointer (some ⟨ob, 0, none⟩)] 163)) (.cells #[.int .i64 (b : Int)] 3)
    have x2 := heap_alloc_last ((W.alloc (.cells #[.pointer (some ⟨ob, 0, none⟩)] 163)).alloc (.cells #[.int .i64 (b : Int)] 3)) (.cells #[.bool false] 4)
    rw [e1] at x1
    rw [e2] at x2
    have : BF ob L w W W.heap.size b false (((W.alloc (.cells #[.pointer (some ⟨ob, 0, none⟩)] 163)).alloc (.cells #[.int .i64 (b : Int)] 3)).alloc (.cells #[.bool false] 4)) :=
      ⟨hO.grew g, g.mv ob, heap_alloc (heap_alloc (heap_alloc_last _ _) _) _, heap_alloc x1 _, x2, Nat.le_refl _, hw⟩
    exact this
  have HO : Hid (OW ob L w W) := hO
  clear hO
  refine (callsIn_wide (n := 0)).1 ?_
  refine callsIn_of_wp_marks Tryz.func137 rfl trivial ?_ rfl
  simp only [Tryz.ntmps137, List.size_toArray, List.length_cons, List.length_nil, Nat.reduceAdd, Nat.reduceSub, Array.replicate_succ, Array.replicate_zero, List.push_toArray, List.append_toArray, List.nil_append, List.cons_append]
  gi_wp2
  refine ⟨trivial, rfl, (callsIn_wide.2 (CR.out _)).mono ?_⟩
  rintro e w1 ⟨rfl, r1, r2, g1⟩
  have K1 : Hid (BF ob L w W W.heap.size b false w1) := K0.out.gn (g1.gn W.heap.size) (Nat.le_refl _)
  have hz1 : W.heap.size + 1 + 1 < w1.heap.size := lt_of_obj K1.out.b6
  simp only [World.size_alloc] at r1 r2
  have CO : Hid (∀ X (x : Int), OW ob L w X → x ∈ rowL L a → Calls Tryz.prog 144 #[.pointer (some ⟨ob, 0, none⟩), .int .i64 x, .int .i64 (b : Int)] X fun en w' => en = .returned (.bool (idAt L x == idAt L (b : Int))) ∧ OW ob L w w' ∧ MV ob X w') := fun X x hX hx => by
    obtain ⟨n, rfl, hn⟩ := rowF_lt HO.out.cl _ a ha x hx
    exact one_any hX (idAt_get hX hn) (idAt_get hX hb)
  have S1 : Hid (∀ X, Grew w1 X → SeqO ob 149 #[.pointer (some ⟨W.heap.size + 1 + 1 + 1 + 1, 0, none⟩), .pointer (some ⟨W.heap.size + 1 + 1 + 1, 0, none⟩)] (rowL L a) X) := fun X g => HS.out X _ _ (K1.out.o.grew g) (g.other r2) (g.other r1)
  have hmem : Hid (∀ pre x, (pre ++ [x]) <+: rowL L a → x ∈ rowL L a) := fun pre x h => h.subset (by simp)
  clear K0 g1 r1 r2
  gi_wp2
  refine wp_rangeO (ob := ob) (X := fun _ => False) (xs := rowL L a) (I := fun pre A => BF ob L w W W.heap.size b false A ∧ ∀ x ∈ pre, x ≠ (b : Int)) (Ix := fun pre A => BF ob L w W W.heap.size b true A ∧ (b : Int) ∈ rowL L a) (fun _ h => h.elim) rfl (enters_of Tryz.func149 (by kernel_rfl) rfl) S1.out ?hI ?hIx ?h0
    (fun x => { tmps := #[.pointer (some ⟨ob, 0, none⟩), .int .i64 (a : Int), .int .i64 (b : Int), .pointer (some ⟨W.heap.size, 0, none⟩), undef, .pointer (some ⟨W.heap.size + 1, 0, none⟩), .pointer (some ⟨W.heap.size + 1 + 1, 0, none⟩), .int .i64 x, undef, .pointer (some ⟨ob, 0, none⟩), .int .i64 (a : Int), .func (.func 149) #[] #[.pointer (some ⟨W.heap.size + 1 + 1 + 1 + 1, 0, none⟩), .pointer (some ⟨W.heap.size + 1 + 1 + 1, 0, none⟩)], .int .i64 x, undef, undef, undef, undef, undef, undef, undef, undef, undef, undef, undef], defers := [] }) ?ha ?hb ?hdone ?hstop
  case hI => exact fun s A B h g => ⟨h.1.gn g (by omega), h.2⟩
  case hIx => exact fun s A B h g => ⟨h.1.gn g (by omega), h.2⟩
  case h0 => exact ⟨K1.out, fun x hx => by cases hx⟩
  case ha =>
    intro l x W K hK
    gi_wp2
    exact hK
  case hb =>
    rintro l pre x A hl ⟨hA, hp⟩ hpre _
    have HA : Hid (BF ob L w W W.heap.size b false A) := hA
    have HP : Hid (∀ y ∈ pre, y ≠ (b : Int)) := hp
    have c5 := cell_obj hA.b5
    have c6 := cell_obj hA.b6
    have z6 := free_of hA.b6 0
    have l5 := lt_of_obj hA.b6
    by_cases hx : x = (b : Int)
    · subst hx
      have hm := hmem.out _ _ hpre
      have HM : Hid ((b : Int) ∈ rowL L a) := hm
      clear hA hp hpre hm
      gi_wp2
      exact ⟨KX.set _ _ _ _, HA.out.setR true, HM.out⟩
    · have d : (x == (b : Int)) = false := by simpa using hx
      have HX : Hid (x ≠ (b : Int)) := hx
      clear hA hp hpre hx
      gi_wp2
      exact ⟨KX.refl _ _, KC.refl _ _, HA.out, fun y hy => by
        rcases List.mem_append.1 hy with h | h
        · exact HP.out y h
        · simp at h; rw [h]; exact HX.out⟩
  case hstop =>
    rintro D pre X hD _ ⟨hX, hm⟩ hK
    have r : belowP L a b = true := List.any_eq_true.2 ⟨_, hm, by simp⟩
    gi_wp2
    refine ⟨by simp, .inl ⟨_, _, rfl, run_takeDeferred hK, ?_⟩⟩
    have hX' := hX.gn (GN.put hK rfl hD (.deferred none)) (by omega)
    have c6 := cell_obj hX'.b6
    refine ⟨.bool true, (by simp [results, Tryz.results137, go_sem, c6]), by rw [r], hX'.o, hX'.t⟩
  case hdone =>
    rintro D X hD ⟨hX, hp⟩ hK
    have HX : Hid (BF ob L w W W.heap.size b false X) := hX
    have HP : Hid (∀ y ∈ rowL L a, y ≠ (b : Int)) := hp
    have HK : Hid (X.heap[D]? = some (.deferred (some []))) := hK
    have c3 := cell_obj hX.b3
    clear hX hp hK S1
    gi_wp2
    refine ⟨trivial, rfl, (callsIn_wide.2 (CR.out _)).mono ?_⟩
    rintro e w2 ⟨rfl, r1, r2, g2⟩
    have K2 : Hid (BF ob L w W W.heap.size b false w2 ∧ w2.heap[D]? = some (.deferred (some []))) := ⟨HX.out.gn (g2.gn W.heap.size) (Nat.le_refl _), g2.other HK.out⟩
    have hz2 : D < w2.heap.size := lt_of_obj K2.out.2
    have S2 : Hid (∀ Y, Grew w2 Y → SeqO ob 149 #[.pointer (some ⟨X.heap.size + 1, 0, none⟩), .pointer (some ⟨X.heap.size, 0, none⟩)] (rowL L a) Y) := fun Y g => HS.out Y _ _ (K2.out.1.o.grew g) (g.other r2) (g.other r1)
    clear HX HK g2 r1 r2 c3
    gi_wp2
    refine wp_rangeO (ob := ob) (X := fun _ => False) (xs := rowL L a) (I := fun pre A => (BF ob L w W W.heap.size b false A ∧ A.heap[D]? = some (.deferred (some []))) ∧ ∀ x ∈ pre, (idAt L x == idAt L (b : Int)) = false) (Ix := fun pre A => (BF ob L w W W.heap.size b true A ∧ A.heap[D]? = some (.deferred (some []))) ∧ belowP L a b = true) (fun _ h => h.elim) rfl (enters_of Tryz.func149 (by kernel_rfl) rfl) S2.out ?hI2 ?hIx2 ?h02
      (fun x => { tmps := #[.pointer (some ⟨ob, 0, none⟩), .int .i64 (a : Int), .int .i64 (b : Int), .pointer (some ⟨W.heap.size, 0, none⟩), undef, .pointer (some ⟨W.heap.size + 1, 0, none⟩), .pointer (some ⟨W.heap.size + 1 + 1, 0, none⟩), undef, .int .i64 x, .pointer (some ⟨ob, 0, none⟩), .int .i64 (a : Int), .func (.func 149) #[] #[.pointer (some ⟨W.heap.size + 1 + 1 + 1 + 1, 0, none⟩), .pointer (some ⟨W.heap.size + 1 + 1 + 1, 0, none⟩)], undef, undef, undef, undef, .pointer (some ⟨ob, 0, none⟩), .int .i64 (a : Int), .func (.func 149) #[] #[.pointer (some ⟨X.heap.size + 1, 0, none⟩), .pointer (some ⟨X.heap.size, 0, none⟩)], .int .i64 x, undef, undef, undef, undef], defers := [] }) ?ha2 ?hb2 ?hdone2 ?hstop2
    case hI2 => exact fun s A B h g => ⟨⟨h.1.1.gn g (by omega), g.block _ _ h.1.2 (Or.inl hz2)⟩, h.2⟩
    case hIx2 => exact fun s A B h g => ⟨⟨h.1.1.gn g (by omega), g.block _ _ h.1.2 (Or.inl hz2)⟩, h.2⟩
    case h02 => exact ⟨K2.out, fun x hx => by cases hx⟩
    case ha2 =>
      intro l x W K hK
      gi_wp2
      exact hK
    case hb2 =>
      rintro l pre x A hl ⟨⟨hA, hD2⟩, hp⟩ hpre _
      have HA : Hid (BF ob L w W W.heap.size b false A ∧ A.heap[D]? = some (.deferred (some []))) := ⟨hA, hD2⟩
      have HP : Hid (∀ x ∈ pre, (idAt L x == idAt L (b : Int)) = false) := hp
      have c3 := cell_obj hA.b3
      have c5 := cell_obj hA.b5
      have hm := hmem.out _ _ hpre
      have HM : Hid (x ∈ rowL L a) := hm
      have C1 : Hid (Calls Tryz.prog 144 #[.pointer (some ⟨ob, 0, none⟩), .int .i64 x, .int .i64 (b : Int)] A fun en w' => en = .returned (.bool (idAt L x == idAt L (b : Int))) ∧ OW ob L w w' ∧ MV ob A w') := CO.out A x hA.o hm
      have hne : D ≠ ob := by
        rintro rfl
        have := hA.o.isC _ _ rfl hD2
        cases this
      clear hA hD2 hp hpre hm
      gi_wp2
      refine ⟨trivial, rfl, CallsIn.inRound l ((callsIn_wide.2 C1.out).mono ?_)⟩
      rintro e Y ⟨rfl, y1, y2⟩
      have kxy : KX (fun _ => False) A Y := y2.t.kx _ HA.out.1.o.isC
      have HY : Hid ((BF ob L w W W.heap.size b false Y ∧ Y.heap[D]? = some (.deferred (some []))) ∧ KX (fun _ => False) A Y ∧ KC ob A Y) := ⟨⟨HA.out.1.mv y1 y2, y2.ob hne HA.out.2⟩, kxy, y2.k⟩
      clear y1 y2 C1 c3 c5 kxy
      cases hr : (idAt L x == idAt L (b : Int)) with
      | true =>
        have HR : Hid (belowP L a b = true) := List.any_eq_true.2 ⟨x, HM.out, hr⟩
        have c6 := cell_obj HY.out.1.1.b6
        have z6 := free_of HY.out.1.1.b6 0
        have l6 := lt_of_obj HY.out.1.1.b6
        clear hr
        gi_wp2
        have hDn : D ≠ W.heap.size + 1 + 1 := by
          rintro rfl
          have := HY.out.1.2
          rw [HY.out.1.1.b6] at this
          cases this
        exact ⟨HY.out.2.1.trans (KX.set _ _ _ _), ⟨HY.out.1.1.setR true, heap_other HY.out.1.2 hDn _⟩, HR.out⟩
      | false =>
        have HR : Hid ((idAt L x == idAt L (b : Int)) = false) := hr
        clear hr
        gi_wp2
        exact ⟨HY.out.2.1, HY.out.2.2, HY.out.1, fun y hy => by
          rcases List.mem_append.1 hy with h | h
          · exact HP.out y h
          · simp at h; rw [h]; exact HR.out⟩
    case hstop2 =>
      rintro D2 pre Y hD2 _ ⟨⟨hY, hDY⟩, r⟩ hK2
      gi_wp2
      refine ⟨by simp, .inl ⟨_, _, rfl, run_takeDeferred hK2, ?_⟩⟩
      have hY' := hY.gn (GN.put hK2 rfl hD2 (.deferred none)) (by omega)
      have hDY' : (Y.putObj D2 (.deferred none)).heap[D]? = some (.deferred (some [])) := (World.putObj_heap_other (by omega)).trans hDY
      refine ⟨by simp, .inl ⟨_, _, rfl, run_takeDeferred hDY', ?_⟩⟩
      have hY2 := hY'.gn (GN.put hDY' rfl (Nat.le_refl D) (.deferred none)) (by omega)
      have c6 := cell_obj hY2.b6
      refine ⟨.bool true, (by simp [results, Tryz.results137, go_sem, c6]), by rw [r], hY2.o, hY2.t⟩
    case hdone2 =>
      rintro D2 Y hD2 ⟨⟨hY, hDY⟩, hp⟩ hK2
      have r : belowP L a b = false := by
        cases e : belowP L a b with
        | false => rfl
        | true =>
          obtain ⟨x, h1, h2⟩ := List.any_eq_true.1 e
          rw [hp x h1] at h2
          cases h2
      have HY : Hid (BF ob L w W W.heap.size b false Y ∧ Y.heap[D]? = some (.deferred (some [])) ∧ Y.heap[D2]? = some (.deferred (some []))) := ⟨hY, hDY, hK2⟩
      have HR : Hid (belowP L a b = false) := r
      have c6 := cell_obj hY.b6
      have z6 := free_of hY.b6 0
      have l6 := lt_of_obj hY.b6
      have hDn : D ≠ W.heap.size + 1 + 1 := by
        rintro rfl
        rw [hY.b6] at hDY
        cases hDY
      have hD2n : D2 ≠ W.heap.size + 1 + 1 := by
        rintro rfl
        rw [hY.b6] at hK2
        cases hK2
      clear hY hDY hK2 hp r S2
      gi_wp2
      have k1 := HY.out.1.setR false
      have k2 := heap_other HY.out.2.1 (p := ⟨W.heap.size + 1 + 1, 0, none⟩) hDn (.bool false)
      have k3 := heap_other HY.out.2.2 (p := ⟨W.heap.size + 1 + 1, 0, none⟩) hD2n (.bool false)
      generalize (Y.setCell ⟨W.heap.size + 1 + 1, 0, none⟩ (.bool false)) = Z at *
      refine ⟨by simp, .inl ⟨_, _, rfl, run_takeDeferred k3, ?_⟩⟩
      have hY' := k1.gn (GN.put k3 rfl hD2 (.deferred none)) (by omega)
      have hDY' : (Z.putObj D2 (.deferred none)).heap[D]? = some (.deferred (some [])) := (World.putObj_heap_other (by omega)).trans k2
      refine ⟨by simp, .inl ⟨_, _, rfl, run_takeDeferred hDY', ?_⟩⟩
      have hY2 := hY'.gn (GN.put hDY' rfl (Nat.le_refl D) (.deferred none)) (by omega)
      have c6 := cell_obj hY2.b6
      refine ⟨.bool false, (by simp [results, Tryz.results137, go_sem, c6]), by rw [HR.out], hY2.o, hY2.t⟩
end Go.Proofs.YtnmbniojejckpaaGreatDoor
