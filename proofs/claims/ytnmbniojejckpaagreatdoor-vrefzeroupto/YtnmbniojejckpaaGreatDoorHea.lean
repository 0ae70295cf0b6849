/-
  Sub's above and heap of an order; no statement is proved here.
-/
import Derived.Test.YtnmbniojejckpaaGreatDoorBlw
set_option maxRecDepth 100000
set_option maxHeartbeats 8000000
namespace Go.Proofs.YtnmbniojejckpaaGreatDoor
open Go.RowKit Go.Shelf
set_option linter.unusedVariables false
set_option linter.unusedSimpArgs false
attribute [local go_sem] Oper.semAt_some
def kindN (L : List RT) (n : Int) : Int := match (flatT L)[n.toNat]? with
  | none => 0
  | some x => kindH x.comp.kind
def kinds (L : List RT) (l : List Int) : List Int := l.flatMap fun n => upL (kindN L n)
def aboveD (L : List RT) (a : Nat) : List Int := rowL L a ++ kinds L (rowL L a)
theorem kinds_pre {L : List RT} {l pre q : List Int} {n : Int} (h : (pre ++ [n]) <+: l) (hq : q <+: upL (kindN L n)) : (kinds L pre ++ q) <+: kinds L l := by
  obtain ⟨r, rfl⟩ := h
  obtain ⟨s, hs⟩ := hq
  unfold kinds
  rw [List.flatMap_append, List.flatMap_append]
  simp only [List.flatMap_cons, List.flatMap_nil, List.append_nil]
  rw [← hs]
  exact ⟨s ++ List.flatMap (fun n => upL (kindN L n)) r, by simp⟩
theorem kinds_snoc {L : List RT} {pre : List Int} {n : Int} : kinds L (pre ++ [n]) = kinds L pre ++ upL (kindN L n) := by
  unfold kinds
  rw [List.flatMap_append]
  simp
/- What the iterator above reads. -/
structure AF (ob : Nat) (L : List RT) (w0 : World) (bo bh yb l : Nat) (h : Nat) (A : World) : Prop where
  r : RD ob L w0 A
  b1 : Bx A bo (.pointer (some ⟨ob, 0, none⟩)) 163
  b2 : Bx A bh (.int .i64 (h : Int)) 3
  b3 : Bx A yb (.func (.yield l) #[] #[]) 38
theorem bx_ne' {W : World} {ob b : Nat} {L : List RT} {w : World} {v : Value} {t : TypeId} (h : RD ob L w W) (hb : Bx W b v t) : b ≠ ob := by
  rintro rfl
  obtain ⟨_, _, v', tv, iv, h1, _⟩ := h
  have hb' : W.heap[b]? = some (.cells #[v] t (0, 0)) := hb
  rw [h1] at hb'
  unfold oobj at hb'
  injection hb' with hb'
  injection hb' with hb' _ _
  have := congrArg Array.size hb'
  simp at this
theorem AF.kc {ob bo bh yb l h : Nat} {L : List RT} {w0 A B : World} (f : AF ob L w0 bo bh yb l h A) (k : KC ob A B) : AF ob L w0 bo bh yb l h B :=
  ⟨f.r.kc k, k.1 _ _ (bx_ne' f.r f.b1) f.b1 rfl, k.1 _ _ (bx_ne' f.r f.b2) f.b2 rfl, k.1 _ _ (bx_ne' f.r f.b3) f.b3 rfl⟩
theorem KX.gn {X : Nat → Prop} {A B C : World} {N : Nat} (h : KX X A B) (k : GN N B C) (hN : A.heap.size ≤ N) : KX X A C :=
  ⟨Nat.le_trans h.1 k.size, fun i o h1 h2 h3 => k.block i o (h.2 i o h1 h2 h3) (Or.inl (by have := lt_of_obj h1; omega))⟩
theorem above_seq {ob bo bh a : Nat} {L : List RT} {w0 w : World} (hcl : closedP 0 L = true) (hfit : Fit L) (hR : RD ob L w0 w) (ha : a < (flatT L).length) (hbo : Bx w bo (.pointer (some ⟨ob, 0, none⟩)) 163) (hbh : Bx w bh (.int .i64 (a : Int)) 3) :
    SeqO ob 146 #[.pointer (some ⟨bo, 0, none⟩), .pointer (some ⟨bh, 0, none⟩)] (aboveD L a) w := by
  intro l X J Jx W hg hX hJ hJx hY h0
  have hobW : ob < W.heap.size := by
    obtain ⟨_, _, v', tv, iv, h1, _⟩ := hR
    exact Nat.lt_of_lt_of_le (lt_of_obj h1) hg.2
  have CR : Hid (∀ Z, Calls Tryz.prog 143 #[.pointer (some ⟨ob, 0, none⟩), .int .i64 (a : Int)] Z fun en w' => en = .returned (.func (.func 149) #[] #[.pointer (some ⟨Z.heap.size + 1, 0, none⟩), .pointer (some ⟨Z.heap.size, 0, none⟩)]) ∧ w'.heap[Z.heap.size]? = some (.cells #[.pointer (some ⟨ob, 0, none⟩)] 163 (0, 0)) ∧ w'.heap[Z.heap.size + 1]? = some (.cells #[.int .i64 (a : Int)] 3 (0, 0)) ∧ Grew Z w') := fun Z => row_any _ _ Z ⟨_, rfl⟩
  have HS : Hid (∀ Z bn bo, RD ob L w0 Z → Z.heap[bn]? = some (.cells #[.int .i64 (a : Int)] 3 (0, 0)) → Z.heap[bo]? = some (.cells #[.pointer (some ⟨ob, 0, none⟩)] 163 (0, 0)) → SeqO ob 149 #[.pointer (some ⟨bn, 0, none⟩), .pointer (some ⟨bo, 0, none⟩)] (rowL L a) Z) := fun Z bn bo h1 h2 h3 => row_seq hcl hfit h1 ha h2 h3
  have HU : Hid (∀ Z bx h, ob < Z.heap.size → Z.heap[bx]? = some (.cells #[.int .i64 h] 3 (0, 0)) → SeqO ob 151 #[.pointer (some ⟨bx, 0, none⟩)] (upL h) Z) := fun Z bx h h1 h2 => upward_seq h1 h2
  have CU : Hid (∀ h Z, Calls Tryz.prog 145 #[.int .i64 h] Z fun en w' => en = .returned (.func (.func 151) #[] #[.pointer (some ⟨Z.heap.size, 0, none⟩)]) ∧ w'.heap[Z.heap.size]? = some (.cells #[.int .i64 h] 3 (0, 0)) ∧ Grew Z w') := fun h Z => upward_any h Z
  have HJ : Hid (∀ s A B, J s A → GN W.heap.size A B → J s B) := hJ
  have HJx : Hid (∀ s A B, Jx s A → GN W.heap.size A B → Jx s B) := hJx
  have HY : Hid (∀ pre x A, J pre A → (pre ++ [x]) <+: aboveD L a → YieldAt Fence.wide 0 Tryz.prog l #[.int .i64 x] A fun e B => (e = .returned (.bool true) ∧ J (pre ++ [x]) B ∧ KC ob A B ∧ KX X A B) ∨ (e = .returned (.bool false) ∧ Jx (pre ++ [x]) B ∧ KX X A B)) := hY
  have HX : Hid (∀ k, X k → k < W.heap.size) := hX
  have HC : Hid (closedP 0 L = true) := hcl
  have K0 : Hid (AF ob L w0 bo bh W.heap.size l a (W.alloc (.cells #[.func (.yield l) #[] #[]] 38)) ∧ J [] (W.alloc (.cells #[.func (.yield l) #[] #[]] 38))) := by
    have g : Grew w (W.alloc (.cells #[.func (.yield l) #[] #[]] 38)) := hg.alloc _
    exact ⟨⟨hR.kc (g.kc ob), g.other hbo, g.other hbh, heap_alloc_last _ _⟩, hJ _ _ _ h0 (((Grew.refl W).alloc _).gn _)⟩
  have hmem : Hid (∀ pre x, (pre ++ [x]) <+: rowL L a → (pre ++ [x]) <+: aboveD L a) := fun pre x h => h.trans (List.prefix_append _ _)
  have c1 := cell_obj (hg.other hbo)
  have c2 := cell_obj (hg.other hbh)
  have lb1 := lt_of_obj (hg.other hbo)
  have lb2 := lt_of_obj (hg.other hbh)
  clear hJ hJx hY h0 hX hR hbo hbh hg hcl hfit
  refine (callsIn_wide (n := 0)).1 ?_
  refine callsIn_of_wp_marks Tryz.func146 rfl trivial ?_ rfl
  simp only [Tryz.ntmps146, List.size_toArray, List.length_cons, List.length_nil, Nat.reduceAdd, Nat.reduceSub, Array.replicate_succ, Array.replicate_zero, List.push_toArray, List.append_toArray, List.nil_append, List.cons_append]
  gi_wp2
  refine ⟨trivial, rfl, (callsIn_wide.2 (CR.out _)).mono ?_⟩
  rintro e w1 ⟨rfl, r1, r2, g1⟩
  have K1 : Hid (AF ob L w0 bo bh W.heap.size l a w1 ∧ J [] w1) := ⟨K0.out.1.kc (g1.kc ob), HJ.out _ _ _ K0.out.2 (g1.gn _)⟩
  have hz1 : W.heap.size < w1.heap.size := lt_of_obj K1.out.1.b3
  simp only [World.size_alloc] at r1 r2
  have S1 : Hid (∀ Z, Grew w1 Z → SeqO ob 149 #[.pointer (some ⟨W.heap.size + 1 + 1, 0, none⟩), .pointer (some ⟨W.heap.size + 1, 0, none⟩)] (rowL L a) Z) := fun Z g => HS.out Z _ _ (K1.out.1.r.kc (g.kc ob)) (g.other r2) (g.other r1)
  clear K0 g1 r1 r2 c1 c2
  gi_wp2
  refine wp_rangeO (ob := ob) (X := X) (xs := rowL L a) (I := fun pre A => AF ob L w0 bo bh W.heap.size l a A ∧ J pre A) (Ix := fun pre A => ∃ q, q <+: aboveD L a ∧ Jx q A) (fun k hk => by have := HX.out k hk; omega) rfl (enters_of Tryz.func149 (by kernel_rfl) rfl) S1.out ?hI ?hIx ?h0
    (fun x => { tmps := #[.func (.yield l) #[] #[], .pointer (some ⟨bo, 0, none⟩), .pointer (some ⟨bh, 0, none⟩), .pointer (some ⟨W.heap.size, 0, none⟩), .int .i64 x, undef, undef, .pointer (some ⟨ob, 0, none⟩), .int .i64 (a : Int), .func (.func 149) #[] #[.pointer (some ⟨W.heap.size + 1 + 1, 0, none⟩), .pointer (some ⟨W.heap.size + 1, 0, none⟩)], .int .i64 x, undef, undef, undef, undef, undef, undef, undef, undef, undef, undef, undef, undef, undef, undef, undef, undef, undef, undef, undef, undef, undef, undef, undef, undef, undef], defers := [] }) ?ha ?hb ?hdone ?hstop
  case hI => exact fun s A B h g => ⟨h.1.kc (g.kc ob), HJ.out _ _ _ h.2 (g.mono (by omega))⟩
  case hIx => exact fun s A B ⟨q, h1, h2⟩ g => ⟨q, h1, HJx.out _ _ _ h2 (g.mono (by omega))⟩
  case h0 => exact K1.out
  case ha =>
    intro l x W K hK
    gi_wp2
    exact hK
  case hb =>
    rintro l1 pre x A hl ⟨hA, hj⟩ hpre _
    have HA : Hid (AF ob L w0 bo bh W.heap.size l a A) := hA
    have HP : Hid ((pre ++ [x]) <+: aboveD L a) := hmem.out _ _ hpre
    have c3 := cell_obj hA.b3
    obtain ⟨fn, tmps, assign, body, hy, hRr⟩ := HY.out pre x A hj HP.out
    have HRr : Hid (RoundIn Fence.wide 0 Tryz.prog l fn tmps assign body A fun e B => (e = .returned (.bool true) ∧ J (pre ++ [x]) B ∧ KC ob A B ∧ KX X A B) ∨ (e = .returned (.bool false) ∧ Jx (pre ++ [x]) B ∧ KX X A B)) := hRr
    clear hA hj hpre hRr
    gi_wp2
    refine ⟨rfl, HRr.out.mono ?_⟩
    clear HRr hy
    rintro e B (⟨rfl, j1, k1, k2⟩ | ⟨rfl, j1, k2⟩)
    · have HB : Hid (KX X A B ∧ KC ob A B ∧ AF ob L w0 bo bh W.heap.size l a B ∧ J (pre ++ [x]) B) := ⟨k2, k1, HA.out.kc k1, j1⟩
      clear j1 k1 k2
      gi_wp2
      exact HB.out
    · have HB : Hid (KX X A B ∧ ∃ q, q <+: aboveD L a ∧ Jx q B) := ⟨k2, _, HP.out, j1⟩
      clear j1 k2
      gi_wp2
      exact HB.out
  case hstop =>
    rintro D pre Y hD _ ⟨q, hq, hj⟩ hK
    gi_wp2
    refine ⟨by simp, .inl ⟨_, _, rfl, run_takeDeferred hK, ?_⟩⟩
    exact ⟨_, results_none rfl _ _ _, ⟨_, rfl⟩, Or.inr ⟨q, hq, HJx.out _ _ _ hj (GN.put hK rfl (by omega) _)⟩⟩
  case hdone =>
    rintro D Y hD ⟨hA, hj⟩ hK
    have HK : Hid (AF ob L w0 bo bh W.heap.size l a Y ∧ J (rowL L a) Y ∧ Y.heap[D]? = some (.deferred (some []))) := ⟨hA, hj, hK⟩
    have c1 := cell_obj hA.b1
    have c2 := cell_obj hA.b2
    clear hA hj hK S1 K1
    gi_wp2
    refine ⟨trivial, rfl, (callsIn_wide.2 (CR.out _)).mono ?_⟩
    rintro e w2 ⟨rfl, r1, r2, g2⟩
    have K2 : Hid (AF ob L w0 bo bh W.heap.size l a w2 ∧ J (rowL L a) w2 ∧ w2.heap[D]? = some (.deferred (some []))) := ⟨HK.out.1.kc (g2.kc ob), HJ.out _ _ _ HK.out.2.1 (g2.gn _), g2.other HK.out.2.2⟩
    have hz2 : D < w2.heap.size := lt_of_obj K2.out.2.2
    have S2 : Hid (∀ Z, Grew w2 Z → SeqO ob 149 #[.pointer (some ⟨Y.heap.size + 1, 0, none⟩), .pointer (some ⟨Y.heap.size, 0, none⟩)] (rowL L a) Z) := fun Z g => HS.out Z _ _ (K2.out.1.r.kc (g.kc ob)) (g.other r2) (g.other r1)
    clear HK g2 r1 r2 c1 c2
    gi_wp2
    refine wp_rangeO (ob := ob) (X := X) (xs := rowL L a) (I := fun pre A => AF ob L w0 bo bh W.heap.size l a A ∧ J (rowL L a ++ kinds L pre) A ∧ A.heap[D]? = some (.deferred (some []))) (Ix := fun pre A => (∃ q, q <+: aboveD L a ∧ Jx q A) ∧ A.heap[D]? = some (.deferred (some []))) (fun k hk => by have := HX.out k hk; omega) rfl (enters_of Tryz.func149 (by kernel_rfl) rfl) S2.out ?hI2 ?hIx2 ?h02 ?a2 ?ha2 ?hb2 ?hdone2 ?hstop2
    case ha2 =>
      intro l x W K hK
      gi_wp2
      exact hK
    case hI2 => exact fun s A B h g => ⟨h.1.kc (g.kc ob), HJ.out _ _ _ h.2.1 (g.mono (by omega)), g.block _ _ h.2.2 (Or.inl hz2)⟩
    case hIx2 => exact fun s A B ⟨⟨q, h1, h2⟩, h3⟩ g => ⟨⟨q, h1, HJx.out _ _ _ h2 (g.mono (by omega))⟩, g.block _ _ h3 (Or.inl hz2)⟩
    case h02 => exact ⟨K2.out.1, by show J (rowL L a ++ []) w2; rw [List.append_nil]; exact K2.out.2.1, K2.out.2.2⟩
    case hb2 =>
      rintro l2 pre x A hl ⟨hA, hj, hDA⟩ hpre ⟨r0, hr0⟩
      obtain ⟨n, rfl, hn⟩ := rowF_lt HC.out _ a ha x (hpre.subset (by simp))
      obtain ⟨sb, hsb⟩ : ∃ sb, (flatT L)[n]? = some sb := ⟨_, List.getElem?_eq_getElem hn⟩
      obtain ⟨v, g, cap, iv, pb, po, h1, h2, h3, h4, ck, hne⟩ := hA.r.get hsb
      obtain ⟨sv, pv, rv, fv, ⟨_, hp, hr, hf⟩, b0, b1, b2, b3, b4, b5⟩ := h4
      have CN : Hid (∀ Z, Calls Tryz.prog 141 #[.agg #[.int .i64 sb.comp.kind, pv, rv, fv]] Z fun en w' => en = .returned (.int .i64 (kindH sb.comp.kind)) ∧ Grew Z w') := fun Z => by
        obtain ⟨_, _, rfl, _⟩ := hp.one
        obtain ⟨_, _, rfl, _⟩ := hr.one
        obtain ⟨_, _, rfl, _⟩ := hf.one
        refine kindOf_any _ _ _ _ Z ?_ ?_ ?_ <;> (unfold Value.oneCell'; rfl)
      obtain ⟨_, _, rfl, _⟩ := hp.one
      obtain ⟨_, _, rfl, _⟩ := hr.one
      obtain ⟨_, _, rfl, _⟩ := hf.one
      have ekN : kindN L (n : Int) = kindH sb.comp.kind := by unfold kindN; rw [Int.toNat_natCast, hsb]
      generalize kindH sb.comp.kind = kh at *
      have e2 := ck _ _ _ b2
      have e3 := ck _ _ _ b3
      have e4 := ck _ _ _ b4
      have e5 := ck _ _ _ b5
      have o1 := cell_of h1 1
      simp at o1
      have c1 := cell_obj hA.b1
      have d1 : decide ((n : Int) < ((flatT L).length : Int)) = true := by simp; omega
      have d2 : decide (n < (flatT L).length) = true := by simp; omega
      have hnN : (n : Int) < ((flatT L).length : Int) := by omega
      have HA : Hid (AF ob L w0 bo bh W.heap.size l a A ∧ J (rowL L a ++ kinds L pre) A ∧ A.heap[D]? = some (.deferred (some [])) ∧ A.heap[l2]? = some (.loop r0)) := ⟨hA, hj, hDA, hr0⟩
      have HPR : Hid ((pre ++ [(n : Int)]) <+: rowL L a) := hpre
      have HKN : Hid (kindN L (n : Int) = kh) := ekN
      generalize (flatT L).length = N at *
      clear hA hj hDA hr0 hpre h1 hp hr hf b0 b1 b2 b3 b4 b5 ck ekN hsb
      gi_wp2
      refine ⟨trivial, rfl, CallsIn.inRound l2 ((callsIn_wide.2 (CN.out _)).mono ?_)⟩
      rintro e w3 ⟨rfl, g3⟩
      have G3 : Hid (Grew A w3) := g3
      clear g3 CN h3 e2 e3 e4 e5 o1 c1
      gi_wp2
      refine ⟨trivial, rfl, CallsIn.inRound l2 ((callsIn_wide.2 (CU.out kh w3)).mono ?_)⟩
      rintro e w4 ⟨rfl, r4, g4⟩
      have G4 : Hid (Grew A w4) := G3.out.trans g4
      have S3 : Hid (∀ Z, Grew w4 Z → SeqO ob 151 #[.pointer (some ⟨w3.heap.size, 0, none⟩)] (upL kh) Z) := fun Z g => HU.out Z _ _ (Nat.lt_of_lt_of_le hobW (by have := g.2; have := G4.out.2; have := lt_of_obj HA.out.1.b3; omega)) (g.other r4)
      have K4 : Hid (AF ob L w0 bo bh W.heap.size l a w4 ∧ J (rowL L a ++ (kinds L pre ++ [])) w4 ∧ w4.heap[D]? = some (.deferred (some [])) ∧ KX X A w4 ∧ KC ob A w4) := ⟨HA.out.1.kc (G4.out.kc ob), by rw [List.append_nil]; exact HJ.out _ _ _ HA.out.2.1 (G4.out.gn _), G4.out.other HA.out.2.2.1, G4.out.kx _, G4.out.kc ob⟩
      have hr4 : w4.heap[l2]? = some (.loop r0) := G4.out.other HA.out.2.2.2
      have hz4 : D < w4.heap.size := lt_of_obj K4.out.2.2.1
      have hz5 : A.heap.size ≤ w4.heap.size := G4.out.2
      clear g4 r4 G3
      gi_wp2
      refine wp_rangeI (ob := ob) (X := X) (xs := upL kh) (I := fun p3 B => AF ob L w0 bo bh W.heap.size l a B ∧ J (rowL L a ++ (kinds L pre ++ p3)) B ∧ B.heap[D]? = some (.deferred (some [])) ∧ KX X A B ∧ KC ob A B) (Ix := fun p3 B => ((∃ q, q <+: aboveD L a ∧ Jx q B) ∧ B.heap[D]? = some (.deferred (some []))) ∧ KX X A B) hr4 (fun k hk => by have := HX.out k hk; omega) rfl (enters_of Tryz.func151 (by kernel_rfl) rfl) S3.out ?hI3 ?hIx3 ?h03 ?a3 ?ha3 ?hb3 ?hdone3 ?hstop3
      case ha3 =>
        intro l x W K hK
        gi_wp2
        exact hK
      case hI3 => exact fun s P Q h g => ⟨h.1.kc (g.kc ob), HJ.out _ _ _ h.2.1 (g.mono (by omega)), g.block _ _ h.2.2.1 (Or.inl hz4), h.2.2.2.1.gn g hz5, h.2.2.2.2.trans (g.kc ob)⟩
      case hIx3 => exact fun s P Q ⟨⟨⟨q, h1, h2⟩, h3⟩, h4⟩ g => ⟨⟨⟨q, h1, HJx.out _ _ _ h2 (g.mono (by omega))⟩, g.block _ _ h3 (Or.inl hz4)⟩, h4.gn g hz5⟩
      case h03 => exact K4.out
      case hb3 =>
        rintro l3 p3 y B hl3 ⟨hA3, hj3, hD3, hx3, hk3⟩ hpre3 _
        have hp3 : ((rowL L a ++ (kinds L pre ++ p3)) ++ [y]) <+: aboveD L a := by
          unfold aboveD
          rw [List.append_assoc, List.append_assoc]
          refine (List.prefix_append_right_inj _).2 (kinds_pre HPR.out ?_)
          rw [HKN.out]
          exact hpre3
        have HB : Hid (AF ob L w0 bo bh W.heap.size l a B ∧ B.heap[D]? = some (.deferred (some [])) ∧ KX X A B ∧ KC ob A B ∧ ((rowL L a ++ (kinds L pre ++ p3)) ++ [y]) <+: aboveD L a) := ⟨hA3, hD3, hx3, hk3, hp3⟩
        have c3 := cell_obj hA3.b3
        obtain ⟨fn, tmps, assign, body, hy, hRr⟩ := HY.out _ y B hj3 hp3
        have HRr : Hid (RoundIn Fence.wide 0 Tryz.prog l fn tmps assign body B fun e C => (e = .returned (.bool true) ∧ J ((rowL L a ++ (kinds L pre ++ p3)) ++ [y]) C ∧ KC ob B C ∧ KX X B C) ∨ (e = .returned (.bool false) ∧ Jx ((rowL L a ++ (kinds L pre ++ p3)) ++ [y]) C ∧ KX X B C)) := hRr
        clear hA3 hj3 hD3 hx3 hk3 hpre3 hp3 hRr
        gi_wp2
        refine ⟨rfl, HRr.out.mono ?_⟩
        clear HRr hy
        rintro e C (⟨rfl, j1, k1, k2⟩ | ⟨rfl, j1, k2⟩)
        · have HE : Hid (KX X B C ∧ KC ob B C ∧ AF ob L w0 bo bh W.heap.size l a C ∧ J (rowL L a ++ (kinds L pre ++ (p3 ++ [y]))) C ∧ C.heap[D]? = some (.deferred (some [])) ∧ KX X A C ∧ KC ob A C) :=
            ⟨k2, k1, HB.out.1.kc k1, by rw [← List.append_assoc, ← List.append_assoc]; rw [← List.append_assoc] at j1; exact j1, k2.2 _ _ HB.out.2.1 rfl (fun hx => by have := HX.out _ hx; omega), HB.out.2.2.1.trans k2, HB.out.2.2.2.1.trans k1⟩
          clear j1 k1 k2
          gi_wp2
          exact HE.out
        · have HE : Hid (KX X B C ∧ ((∃ q, q <+: aboveD L a ∧ Jx q C) ∧ C.heap[D]? = some (.deferred (some []))) ∧ KX X A C) := ⟨k2, ⟨⟨_, HB.out.2.2.2.2, j1⟩, k2.2 _ _ HB.out.2.1 rfl (fun hx => by have := HX.out _ hx; omega)⟩, HB.out.2.2.1.trans k2⟩
          clear j1 k2
          gi_wp2
          exact HE.out
      case hdone3 =>
        rintro Z ⟨hA3, hj3, hD3, hx3, hk3⟩
        have HE : Hid (KX X A Z ∧ KC ob A Z ∧ AF ob L w0 bo bh W.heap.size l a Z ∧ J (rowL L a ++ kinds L (pre ++ [(n : Int)])) Z ∧ Z.heap[D]? = some (.deferred (some []))) := ⟨hx3, hk3, hA3, by rw [kinds_snoc, HKN.out]; exact hj3, hD3⟩
        clear hA3 hj3 hD3 hx3 hk3
        gi_wp2
        exact HE.out
      case hstop3 =>
        rintro p3 Z _ ⟨h1, h2⟩
        have HE : Hid (KX X A Z ∧ (∃ q, q <+: aboveD L a ∧ Jx q Z) ∧ Z.heap[D]? = some (.deferred (some []))) := ⟨h2, h1⟩
        clear h1 h2
        gi_wp2
        exact HE.out
    case hstop2 =>
      rintro D2 pre Z hD2 _ ⟨⟨q, hq, hj⟩, hDZ⟩ hK2
      gi_wp2
      refine ⟨by simp, .inl ⟨_, _, rfl, run_takeDeferred hK2, ?_⟩⟩
      have hDZ' : (Z.putObj D2 (.deferred none)).heap[D]? = some (.deferred (some [])) := (World.putObj_heap_other (by omega)).trans hDZ
      refine ⟨by simp, .inl ⟨_, _, rfl, run_takeDeferred hDZ', ?_⟩⟩
      exact ⟨_, results_none rfl _ _ _, ⟨_, rfl⟩, Or.inr ⟨q, hq, HJx.out _ _ _ (HJx.out _ _ _ hj (GN.put hK2 rfl (by omega) _)) (GN.put hDZ' rfl (by omega) _)⟩⟩
    case hdone2 =>
      rintro D2 Z hD2 ⟨hA, hj, hDZ⟩ hK2
      gi_wp2
      refine ⟨by simp, .inl ⟨_, _, rfl, run_takeDeferred hK2, ?_⟩⟩
      have hDZ' : (Z.putObj D2 (.deferred none)).heap[D]? = some (.deferred (some [])) := (World.putObj_heap_other (by omega)).trans hDZ
      refine ⟨by simp, .inl ⟨_, _, rfl, run_takeDeferred hDZ', ?_⟩⟩
      exact ⟨_, results_none rfl _ _ _, ⟨_, rfl⟩, Or.inl (HJ.out _ _ _ (HJ.out _ _ _ hj (GN.put hK2 rfl (by omega) _)) (GN.put hDZ' rfl (by omega) _))⟩
end Go.Proofs.YtnmbniojejckpaaGreatDoor
namespace Go.Proofs.YtnmbniojejckpaaGreatDoor
open Go.RowKit Go.Shelf
set_option linter.unusedVariables false
set_option linter.unusedSimpArgs false
attribute [local go_sem] Oper.semAt_some
def defB (N : Nat) (h : Int) : Bool := decide (0 ≤ h) && decide (h < (N : Int))
def aboveL (L : List RT) (h : Int) : List Int := if defB (flatT L).length h then aboveD L h.toNat else upL h
def botB (L : List RT) (a b : Int) : Bool := (kinO L b).isSome && (a == kD (kinO L b))
def heapP (L : List RT) (a b : Int) : Bool := botB L a b || (if defB (flatT L).length a && defB (flatT L).length b then belowP L a.toNat b.toNat else (aboveL L a).contains b)
theorem kin_any {ob : Nat} {L : List RT} {w W : World} (hO : OW ob L w W) (h : Int) :
    Calls Tryz.prog 135 #[.pointer (some ⟨ob, 0, none⟩), .int .i64 h] W fun en w' => en = .returned (.tuple #[.agg #[.int .i64 (kA (kinO L h)), .int .i64 (kB (kinO L h)), .int .i64 (kD (kinO L h))], .bool (kinO L h).isSome]) ∧ Grew W w' := by
  by_cases h0 : 0 ≤ h
  · by_cases h1 : h < ((flatT L).length : Int)
    · obtain ⟨n, rfl⟩ : ∃ n : Nat, h = n := ⟨h.toNat, by omega⟩
      obtain ⟨x, hx⟩ : ∃ x, (flatT L)[n]? = some x := ⟨_, List.getElem?_eq_getElem (by omega)⟩
      have e : kinO L (n : Int) = kinP (kindH x.comp.kind) := by unfold kinO; rw [if_pos (by omega), Int.toNat_natCast, hx]
      rw [e]
      exact kin_in hO hx
    · have e : kinO L h = kinP h := by
        unfold kinO
        rw [if_pos h0, List.getElem?_eq_none (by omega), kinP_no (by omega)]
      rw [e]
      exact kin_out hO (Or.inr (by omega))
  · have e : kinO L h = kinP h := by unfold kinO; rw [if_neg h0]
    rw [e]
    exact kin_out hO (Or.inl (by omega))
theorem above_any {ob : Nat} {L : List RT} {w W : World} (hO : OW ob L w W) (h : Int) :
    Calls Tryz.prog 138 #[.pointer (some ⟨ob, 0, none⟩), .int .i64 h] W fun en w' => ∃ gf lb, en = .returned (.func (.func gf) #[] lb) ∧ (∀ args w, (callFunc gf args).run Tryz.prog w = .ok (.enter gf args) w) ∧ (∀ X, Grew w' X → SeqO ob gf lb (aboveL L h) X) ∧ Grew W w' := by
  have CD : Hid (∀ X, Grew W X → Calls Tryz.prog 136 #[.pointer (some ⟨ob, 0, none⟩), .int .i64 h] X fun en w' => en = .returned (.bool (defB (flatT L).length h)) ∧ Grew X w') := fun X g => (hO.grew g).defines h
  have CU : Hid (∀ h Z, Calls Tryz.prog 145 #[.int .i64 h] Z fun en w' => en = .returned (.func (.func 151) #[] #[.pointer (some ⟨Z.heap.size, 0, none⟩)]) ∧ w'.heap[Z.heap.size]? = some (.cells #[.int .i64 h] 3 (0, 0)) ∧ Grew Z w') := fun h Z => upward_any h Z
  have HO : Hid (OW ob L w W) := hO
  have g0 : Grew W ((W.alloc (.cells #[.pointer (some ⟨ob, 0, none⟩)] 163)).alloc (.cells #[.int .i64 h] 3)) := ((Grew.refl W).alloc _).alloc _
  have x0 : ((W.alloc (.cells #[.pointer (some ⟨ob, 0, none⟩)] 163)).alloc (.cells #[.int .i64 h] 3)).heap[W.heap.size]? = some (.cells #[.pointer (some ⟨ob, 0, none⟩)] 163 (0, 0)) := heap_alloc (heap_alloc_last _ _) _
  have x1 := heap_alloc_last (W.alloc (.cells #[.pointer (some ⟨ob, 0, none⟩)] 163)) (.cells #[.int .i64 h] 3)
  rw [World.size_alloc] at x1
  have K0 : Hid (Grew W ((W.alloc (.cells #[.pointer (some ⟨ob, 0, none⟩)] 163)).alloc (.cells #[.int .i64 h] 3)) ∧ ((W.alloc (.cells #[.pointer (some ⟨ob, 0, none⟩)] 163)).alloc (.cells #[.int .i64 h] 3)).heap[W.heap.size]? = some (.cells #[.pointer (some ⟨ob, 0, none⟩)] 163 (0, 0)) ∧ ((W.alloc (.cells #[.pointer (some ⟨ob, 0, none⟩)] 163)).alloc (.cells #[.int .i64 h] 3)).heap[W.heap.size + 1]? = some (.cells #[.int .i64 h] 3 (0, 0))) := ⟨g0, x0, x1⟩
  clear hO g0 x0 x1
  cases hd : defB (flatT L).length h with
  | false =>
    rw [hd] at CD
    have ea : aboveL L h = upL h := by unfold aboveL; rw [hd]; rfl
    rw [ea]
    clear hd ea
    go_enter Tryz.func138, Tryz.ntmps138
    go_wp2_with fail
    refine (CD.out _ K0.out.1).mono ?_
    rintro en w1 ⟨rfl, g1⟩
    have G1 : Hid (Grew W w1) := K0.out.1.trans g1
    have c1 := cell_obj (g1.other K0.out.2.2)
    clear CD K0 g1
    go_wp2_with fail
    refine (CU.out h w1).mono ?_
    rintro en w2 ⟨rfl, r2, g2⟩
    have K2 : Hid (Grew W w2 ∧ w2.heap[w1.heap.size]? = some (.cells #[.int .i64 h] 3 (0, 0)) ∧ ob < w2.heap.size) := ⟨G1.out.trans g2, r2, by
      obtain ⟨v, tv, iv, h1, _⟩ := HO.out.o
      exact Nat.lt_of_lt_of_le (lt_of_obj h1) (G1.out.trans g2).2⟩
    clear G1 r2 g2 c1 CU
    go_wp2_with fail
    go_ret
    exact ⟨_, _, rfl, enters_of Tryz.func151 (by kernel_rfl) rfl, fun X g => upward_seq (Nat.lt_of_lt_of_le K2.out.2.2 g.2) (g.other K2.out.2.1), K2.out.1⟩
  | true =>
    rw [hd] at CD
    have hh : 0 ≤ h ∧ h < ((flatT L).length : Int) := by unfold defB at hd; simpa using hd
    obtain ⟨n, rfl⟩ : ∃ n : Nat, h = n := ⟨h.toNat, by omega⟩
    have ea : aboveL L (n : Int) = aboveD L n := by unfold aboveL; rw [hd, Int.toNat_natCast]; rfl
    rw [ea]
    have hn : n < (flatT L).length := by omega
    clear hd ea hh CU
    go_enter Tryz.func138, Tryz.ntmps138
    go_wp2_with fail
    refine (CD.out _ K0.out.1).mono ?_
    rintro en w1 ⟨rfl, g1⟩
    have K1 : Hid (Grew W w1 ∧ Bx w1 W.heap.size (.pointer (some ⟨ob, 0, none⟩)) 163 ∧ Bx w1 (W.heap.size + 1) (.int .i64 (n : Int)) 3) := ⟨K0.out.1.trans g1, g1.other K0.out.2.1, g1.other K0.out.2.2⟩
    clear CD K0 g1
    go_wp2_with fail
    go_ret
    exact ⟨_, _, rfl, enters_of Tryz.func146 (by kernel_rfl) rfl, fun X g => above_seq HO.out.cl HO.out.fit (HO.out.grew (K1.out.1.trans g)).rd hn (g.other K1.out.2.1) (g.other K1.out.2.2), K1.out.1⟩
/- The frame of heap: its boxes. -/
structure HF (ob : Nat) (L : List RT) (w W : World) (B : Nat) (b : Int) (r : Bool) (A : World) : Prop where
  o : OW ob L w A
  t : MV ob W A
  b5 : Bx A B (.int .i64 b) 3
  b6 : Bx A (B + 1) (.bool r) 4
  hB : W.heap.size ≤ B
  hw : w.heap.size ≤ W.heap.size
theorem HF.gn {ob N B : Nat} {b : Int} {L : List RT} {w W A C : World} {r : Bool} (h : HF ob L w W B b r A) (k : GN N A C) (hN : W.heap.size ≤ N) : HF ob L w W B b r C :=
  ⟨h.o.gn k (Nat.le_trans h.hw hN), h.t.gn k hN, k.bx h.b5, k.bx h.b6, h.hB, h.hw⟩
theorem HF.grew {ob B : Nat} {b : Int} {L : List RT} {w W A C : World} {r : Bool} (h : HF ob L w W B b r A) (g : Grew A C) : HF ob L w W B b r C := h.gn (g.gn W.heap.size) (Nat.le_refl _)
theorem HF.mv {ob B : Nat} {b : Int} {L : List RT} {w W A C : World} {r : Bool} (h : HF ob L w W B b r A) (o : OW ob L w C) (k : MV ob A C) : HF ob L w W B b r C :=
  ⟨o, h.t.trans k, k.ob (bx_ne h.o h.b5) h.b5, k.ob (bx_ne h.o h.b6) h.b6, h.hB, h.hw⟩
theorem HF.setR {ob B : Nat} {b : Int} {L : List RT} {w W A : World} {r : Bool} (h : HF ob L w W B b r A) (r' : Bool) : HF ob L w W B b r' (A.setCell ⟨B + 1, 0, none⟩ (.bool r')) := by
  have hz : w.heap.size ≤ B + 1 := by have := h.hB; have := h.hw; omega
  refine ⟨h.o.set h.b6 (by decide) (by decide) (bx_ne h.o h.b6) hz 0 _, h.t.setN (by have := h.hB; omega) (bx_ne h.o h.b6) 0 _, heap_other h.b5 (by show B ≠ B + 1; omega) _, ?_, h.hB, h.hw⟩
  have := heap_set h.b6 0 (.bool r')
  exact this
theorem HF.start {ob : Nat} {b : Int} {L : List RT} {w W : World} (h : OW ob L w W) : HF ob L w W W.heap.size b false ((W.alloc (.cells #[.int .i64 b] 3)).alloc (.cells #[.bool false] 4)) := by
  have g : Grew W ((W.alloc (.cells #[.int .i64 b] 3)).alloc (.cells #[.bool false] 4)) := ((Grew.refl W).alloc _).alloc _
  have x1 := heap_alloc_last (W.alloc (.cells #[.int .i64 b] 3)) (.cells #[.bool false] 4)
  rw [World.size_alloc] at x1
  exact ⟨h.grew g, g.mv ob, heap_alloc (heap_alloc_last _ _) _, x1, Nat.le_refl _, h.g.2⟩
end Go.Proofs.YtnmbniojejckpaaGreatDoor
