/-
  The program's Same, EqualFunc, Equal, sameField, sameComp at values that count the same; no statement is proved here.
-/
import Derived.Test.YtoihkcdjfhmccaaDoorCpd
import Derived.Deep.RegionHeld3
namespace Go.Proofs.YtoihkcdjfhmccaaDoor
open Go.RowKit
set_option linter.unusedVariables false
set_option linter.unusedSimpArgs false

set_option maxRecDepth 100000 in
set_option maxHeartbeats 1000000 in
theorem same_any (x y : VT) (h : x.cnt = y.cnt) (w : World) : Calls Tryd.prog 86 #[x.v, y.v] w fun en w' => en = .returned (.bool true) ∧ Grew w w' := by
  have C1 := counted_any x
  have C2 := counted_any y
  rw [h] at C1
  generalize y.cnt = z at *
  clear h
  obtain ⟨n, nul, hp⟩ := x
  obtain ⟨n2, nul2, hp2⟩ := y
  obtain ⟨zn, zz, zh⟩ := z
  unfold VT.v at *
  simp only at *
  have G0 : Hid (Grew w ((w.alloc (.cells #[.int .i64 n, .bool nul, .int .i64 hp] 71)).alloc (.cells #[.int .i64 n2, .bool nul2, .int .i64 hp2] 71))) := ((Grew.refl w).alloc _).alloc _
  have A0 : Hid (((w.alloc (.cells #[.int .i64 n, .bool nul, .int .i64 hp] 71)).alloc (.cells #[.int .i64 n2, .bool nul2, .int .i64 hp2] 71)).heap[w.heap.size]? = some (vobj ⟨n, nul, hp⟩)) := heap_alloc (heap_alloc_last _ _) _
  have B0 : Hid (((w.alloc (.cells #[.int .i64 n, .bool nul, .int .i64 hp] 71)).alloc (.cells #[.int .i64 n2, .bool nul2, .int .i64 hp2] 71)).heap[w.heap.size + 1]? = some (vobj ⟨n2, nul2, hp2⟩)) := by
    have h1 : (w.alloc (.cells #[.int .i64 n, .bool nul, .int .i64 hp] 71)).heap.size = w.heap.size + 1 := alloc_size _ _
    rw [← h1]; exact heap_alloc_last _ _
  go_enter Tryd.func86, Tryd.ntmps86
  go_wp2_with fail
  generalize ((w.alloc (.cells #[.int .i64 n, .bool nul, .int .i64 hp] 71)).alloc (.cells #[.int .i64 n2, .bool nul2, .int .i64 hp2] 71)) = W at *
  have a0 := cell_of A0.out 0
  have a1 := cell_of A0.out 1
  have a2 := cell_of A0.out 2
  have b0 := cell_of B0.out 0
  have b1 := cell_of B0.out 1
  have b2 := cell_of B0.out 2
  simp at a0 a1 a2 b0 b1 b2
  have l1 := lt_of_obj A0.out
  have l2 := lt_of_obj B0.out
  go_region_held3 (fun w' => w'.cell? ⟨w.heap.size, 0, none⟩ = some (.int .i64 n) ∧ w'.cell? ⟨w.heap.size, 1, none⟩ = some (.bool nul) ∧ w'.cell? ⟨w.heap.size, 2, none⟩ = some (.int .i64 hp) ∧ w'.cell? ⟨w.heap.size + 1, 0, none⟩ = some (.int .i64 n2) ∧ w'.cell? ⟨w.heap.size + 1, 1, none⟩ = some (.bool nul2) ∧ w'.cell? ⟨w.heap.size + 1, 2, none⟩ = some (.int .i64 hp2)) (go_keep)
    (first
     | (go_at_call_of 107 (Value.agg #[Value.int IntKind.i64 n, Value.bool nul, Value.int IntKind.i64 hp]); refine (C1 W.drew).mono ?_; rintro en w5 ⟨rfl, g5⟩; have gg5 : Grew W w5 := ((Grew.refl W).drew).trans g5; have m0 := cell_grew a0 gg5; have m1 := cell_grew a1 gg5; have m2 := cell_grew a2 gg5; have m3 := cell_grew b0 gg5; have m4 := cell_grew b1 gg5; have m5 := cell_grew b2 gg5)
     | (go_at_call_of 107 (Value.agg #[Value.int IntKind.i64 n2, Value.bool nul2, Value.int IntKind.i64 hp2]); refine (C2 w5).mono ?_; rintro en w6 ⟨rfl, g6⟩; have gg6 : Grew W w6 := gg5.trans g6; have k0 := cell_grew a0 gg6; have k1 := cell_grew a1 gg6; have k2 := cell_grew a2 gg6; have k3 := cell_grew b0 gg6; have k4 := cell_grew b1 gg6; have k5 := cell_grew b2 gg6))
  all_goals go_wp2_with fail
  all_goals go_ret
  all_goals exact ⟨rfl, G0.out.trans gg6⟩
set_option maxRecDepth 100000 in
set_option maxHeartbeats 1000000 in
theorem eqV_any {w : World} {u v : Value} {l1 l2 : List VT} (h1 : LV w u l1) (h2 : LV w v l2) (h : l1.map VT.cnt = l2.map VT.cnt) (hl : l1.length ≤ 1048576) :
    Calls Tryd.prog 85 #[u, v, .func (.func 86) #[] #[]] w fun en w' => en = .returned (.bool true) ∧ Grew w w' := by
  obtain ⟨ua, uc, hu, hu1, hu2⟩ := h1.one
  obtain ⟨va, vc, hv, hv1, hv2⟩ := h2.one
  have hlen : l2.length = l1.length := by have := congrArg List.length h; simpa using this.symm
  subst hu
  subst hv
  have H1 : Hid (LV w (.slice ua l1.length uc) l1) := h1
  have H2 : Hid (LV w (.slice va l2.length vc) l2) := h2
  have HE : Hid (l1.map VT.cnt = l2.map VT.cnt) := h
  have HL : Hid (l2.length = l1.length) := hlen
  rw [hlen] at hv1 H2 ⊢
  clear h1 h2 h hlen
  have nn : (((l1.length : Nat) : Int) != ((l1.length : Nat) : Int)) = false := by simp
  go_enter Tryd.func85, Tryd.ntmps85
  go_wp2_with fail
  go_loopw [17] (fun i_ w' => ∃ i : Nat, i_ = .int .i64 i ∧ i ≤ l1.length ∧ Hid (Grew w w')) (fun i_ _ => l1.length - (intOf i_).toNat)
  case atStart => exact ⟨0, rfl, Nat.zero_le _, Grew.refl _⟩
  case round =>
    obtain ⟨i, rfl, hi, G⟩ := hrel
    obtain ⟨w0, hw0⟩ : ∃ w0, w0 = wr := ⟨_, rfl⟩
    rw [← hw0] at G ⊢
    clear hw0
    by_cases hlt : i < l1.length
    · obtain ⟨x, hx⟩ : ∃ x, l1[i]? = some x := ⟨_, List.getElem?_eq_getElem hlt⟩
      obtain ⟨y, hy⟩ : ∃ y, l2[i]? = some y := ⟨_, List.getElem?_eq_getElem (by have := HL.out; omega)⟩
      obtain ⟨b, off, ha, _, hE⟩ := (H1.out.grew G.out).get (by omega)
      obtain ⟨b2, off2, ha2, _, hE2⟩ := (H2.out.grew G.out).get (by have := HL.out; omega)
      subst ha
      subst ha2
      have hxy : VT.cnt x = VT.cnt y := by
        have e1 : (l1.map VT.cnt)[i]? = some (VT.cnt x) := by rw [List.getElem?_map, hx]; rfl
        have e2 : (l2.map VT.cnt)[i]? = some (VT.cnt y) := by rw [List.getElem?_map, hy]; rfl
        rw [HE.out, e2] at e1
        exact (Option.some.inj e1).symm
      obtain ⟨c0, c1, c2⟩ := hE i x hx
      obtain ⟨k0, k1, k2⟩ := hE2 i y hy
      have d1 : decide ((i : Int) < (l1.length : Int)) = true := by simp; omega
      have d2 : decide (i < l1.length) = true := by simp; omega
      have SC := fun w' (_ : Grew w0 w') => same_any x y hxy w'
      clear hE hE2 hx hy hxy
      obtain ⟨n, nul, hp⟩ := x
      obtain ⟨n2, nul2, hp2⟩ := y
      unfold VT.v at SC
      simp only at *
      have gX : Grew w0 (w0.alloc (.cells #[.int .i64 n, .bool nul, .int .i64 hp] 71)) := (Grew.refl w0).alloc _
      have kk0 := cell_grew k0 gX
      have kk1 := cell_grew k1 gX
      have kk2 := cell_grew k2 gX
      clear gX
      have GA : Grew w0 ((w0.alloc (.cells #[.int .i64 n, .bool nul, .int .i64 hp] 71)).alloc (.cells #[.int .i64 n2, .bool nul2, .int .i64 hp2] 71)) := ((Grew.refl w0).alloc _).alloc _
      go_wp2_with fail
      refine (SC _ GA).mono ?_
      rintro en w1 ⟨rfl, g1⟩
      have G1 : Hid (Grew w w1) := (G.out.trans GA).trans g1
      clear g1 SC GA
      go_wp2_with fail
      go_roundw
      case rel => exact ⟨i + 1, by go_num, by omega, G1⟩
      case measure => simp [intOf]; omega
    · have d1 : decide ((i : Int) < (l1.length : Int)) = false := by simp; omega
      go_wp2_with fail
      go_ret
      exact ⟨rfl, G.out⟩
set_option maxRecDepth 100000 in
set_option maxHeartbeats 1000000 in
theorem sameField_any (x y : FT) (h : x.cnt = y.cnt) (w : World) : Calls Tryd.prog 88 #[x.v, y.v] w fun en w' => en = .returned (.bool true) ∧ Grew w w' := by
  have hm : x.mut_ = y.mut_ := by have := congrArg FT.mut_ h; exact this
  have ht : x.ty.cnt = y.ty.cnt := by have := congrArg FT.ty h; exact this
  have C := same_any x.ty y.ty ht
  clear h ht
  obtain ⟨⟨n, nul, hp⟩, mu⟩ := x
  obtain ⟨⟨n2, nul2, hp2⟩, mu2⟩ := y
  unfold FT.v VT.v at *
  simp only at *
  subst hm
  have mm : (mu == mu) = true := by simp
  have G0 : Grew w ((w.alloc (.cells #[.int .i64 n, .bool nul, .int .i64 hp, .bool mu] 124)).alloc (.cells #[.int .i64 n2, .bool nul2, .int .i64 hp2, .bool mu] 124)) := ((Grew.refl w).alloc _).alloc _
  go_enter Tryd.func88, Tryd.ntmps88
  go_wp2_with fail
  refine (C _).mono ?_
  rintro en w1 ⟨rfl, g1⟩
  have G1 : Hid (Grew w w1) := G0.trans g1
  clear g1 C G0
  go_wp2_with fail
  go_ret
  exact ⟨rfl, G1.out⟩
set_option maxRecDepth 100000 in
set_option maxHeartbeats 1000000 in
theorem eqF_any {w : World} {u v : Value} {l1 l2 : List FT} (h1 : LF w u l1) (h2 : LF w v l2) (h : l1.map FT.cnt = l2.map FT.cnt) (hl : l1.length ≤ 1048576) :
    Calls Tryd.prog 87 #[u, v, .func (.func 88) #[] #[]] w fun en w' => en = .returned (.bool true) ∧ Grew w w' := by
  obtain ⟨ua, uc, hu, hu1, hu2⟩ := h1.one
  obtain ⟨va, vc, hv, hv1, hv2⟩ := h2.one
  have hlen : l2.length = l1.length := by have := congrArg List.length h; simpa using this.symm
  subst hu
  subst hv
  have H1 : Hid (LF w (.slice ua l1.length uc) l1) := h1
  have H2 : Hid (LF w (.slice va l2.length vc) l2) := h2
  have HE : Hid (l1.map FT.cnt = l2.map FT.cnt) := h
  have HL : Hid (l2.length = l1.length) := hlen
  rw [hlen] at hv1 H2 ⊢
  clear h1 h2 h hlen
  have nn : (((l1.length : Nat) : Int) != ((l1.length : Nat) : Int)) = false := by simp
  go_enter Tryd.func87, Tryd.ntmps87
  go_wp2_with fail
  go_loopw [17] (fun i_ w' => ∃ i : Nat, i_ = .int .i64 i ∧ i ≤ l1.length ∧ Hid (Grew w w')) (fun i_ _ => l1.length - (intOf i_).toNat)
  case atStart => exact ⟨0, rfl, Nat.zero_le _, Grew.refl _⟩
  case round =>
    obtain ⟨i, rfl, hi, G⟩ := hrel
    obtain ⟨w0, hw0⟩ : ∃ w0, w0 = wr := ⟨_, rfl⟩
    rw [← hw0] at G ⊢
    clear hw0
    by_cases hlt : i < l1.length
    · obtain ⟨x, hx⟩ : ∃ x, l1[i]? = some x := ⟨_, List.getElem?_eq_getElem hlt⟩
      obtain ⟨y, hy⟩ : ∃ y, l2[i]? = some y := ⟨_, List.getElem?_eq_getElem (by have := HL.out; omega)⟩
      obtain ⟨b, off, ha, _, hE⟩ := (H1.out.grew G.out).get (by omega)
      obtain ⟨b2, off2, ha2, _, hE2⟩ := (H2.out.grew G.out).get (by have := HL.out; omega)
      subst ha
      subst ha2
      have hxy : FT.cnt x = FT.cnt y := by
        have e1 : (l1.map FT.cnt)[i]? = some (FT.cnt x) := by rw [List.getElem?_map, hx]; rfl
        have e2 : (l2.map FT.cnt)[i]? = some (FT.cnt y) := by rw [List.getElem?_map, hy]; rfl
        rw [HE.out, e2] at e1
        exact (Option.some.inj e1).symm
      obtain ⟨⟨c0, c1, c2⟩, c3⟩ := hE i x hx
      obtain ⟨⟨k0, k1, k2⟩, k3⟩ := hE2 i y hy
      have d1 : decide ((i : Int) < (l1.length : Int)) = true := by simp; omega
      have d2 : decide (i < l1.length) = true := by simp; omega
      have SC := fun w' (_ : Grew w0 w') => sameField_any x y hxy w'
      clear hE hE2 hx hy hxy
      obtain ⟨⟨n, nul, hp⟩, mu⟩ := x
      obtain ⟨⟨n2, nul2, hp2⟩, mu2⟩ := y
      unfold FT.v at SC
      simp only at *
      have gX : Grew w0 (w0.alloc (.cells #[.int .i64 n, .bool nul, .int .i64 hp, .bool mu] 124)) := (Grew.refl w0).alloc _
      have kk0 := cell_grew k0 gX
      have kk1 := cell_grew k1 gX
      have kk2 := cell_grew k2 gX
      have kk3 := cell_grew k3 gX
      clear gX
      have GA : Grew w0 ((w0.alloc (.cells #[.int .i64 n, .bool nul, .int .i64 hp, .bool mu] 124)).alloc (.cells #[.int .i64 n2, .bool nul2, .int .i64 hp2, .bool mu2] 124)) := ((Grew.refl w0).alloc _).alloc _
      go_wp2_with fail
      refine (SC _ GA).mono ?_
      rintro en w1 ⟨rfl, g1⟩
      have G1 : Hid (Grew w w1) := (G.out.trans GA).trans g1
      clear g1 SC GA
      go_wp2_with fail
      go_roundw
      case rel => exact ⟨i + 1, by go_num, by omega, G1⟩
      case measure => simp [intOf]; omega
    · have d1 : decide ((i : Int) < (l1.length : Int)) = false := by simp; omega
      go_wp2_with fail
      go_ret
      exact ⟨rfl, G.out⟩
set_option maxRecDepth 100000 in
set_option maxHeartbeats 1000000 in
theorem eqI_any {w : World} {u v : Value} {l : List Int} (h1 : LI w u l) (h2 : LI w v l) (hl : l.length ≤ 1048576) :
    Calls Tryd.prog 60 #[u, v] w fun en w' => en = .returned (.bool true) ∧ Grew w w' := by
  obtain ⟨ua, uc, hu, hu1, hu2⟩ := h1.one
  obtain ⟨va, vc, hv, hv1, hv2⟩ := h2.one
  subst hu
  subst hv
  have H1 : Hid (LI w (.slice ua l.length uc) l) := h1
  have H2 : Hid (LI w (.slice va l.length vc) l) := h2
  clear h1 h2
  have nn : (((l.length : Nat) : Int) != ((l.length : Nat) : Int)) = false := by simp
  go_enter Tryd.func60, Tryd.ntmps60
  go_wp2_with fail
  go_loopw [13] (fun i_ w' => ∃ i : Nat, i_ = .int .i64 i ∧ i ≤ l.length ∧ Hid (∃ n, w' = w.drewN n)) (fun i_ _ => l.length - (intOf i_).toNat)
  case atStart => exact ⟨0, rfl, Nat.zero_le _, ⟨0, rfl⟩⟩
  case round =>
    obtain ⟨i, rfl, hi, ⟨nd, hnd⟩⟩ := hrel
    obtain rfl := hnd.symm
    by_cases hlt : i < l.length
    · obtain ⟨x, hx⟩ : ∃ x, l[i]? = some x := ⟨_, List.getElem?_eq_getElem hlt⟩
      obtain ⟨b, off, ha, _, hE⟩ := H1.out.get (by omega)
      obtain ⟨b2, off2, ha2, _, hE2⟩ := H2.out.get (by omega)
      subst ha
      subst ha2
      have p0 := hE i x hx
      have q0 := hE2 i x hx
      unfold EI at p0 q0
      rw [Nat.mul_one] at p0 q0
      have xx : (x != x) = false := by simp
      have d1 : decide ((i : Int) < (l.length : Int)) = true := by simp; omega
      have d2 : decide (i < l.length) = true := by simp; omega
      clear hx hE hE2
      go_wp2_with fail
      go_quiet (fail)
      all_goals
        go_wp2_with fail
        go_roundw
        case rel => exact ⟨i + 1, by go_num, by omega, ⟨_, rfl⟩⟩
        case measure => simp [intOf]; omega
    · have d1 : decide ((i : Int) < (l.length : Int)) = false := by simp; omega
      go_wp2_with fail
      go_ret
      exact ⟨rfl, (Grew.refl w).drewN nd⟩
set_option maxRecDepth 100000 in
set_option maxHeartbeats 1000000 in
theorem sameComp_any {w : World} {k : Int} {pv rv fv pv' rv' fv' : Value} {p p' r r' : List VT} {f f' : List FT} (h1 : LV w pv p) (h2 : LV w rv r) (h3 : LF w fv f) (h1' : LV w pv' p') (h2' : LV w rv' r') (h3' : LF w fv' f')
    (e1 : p.map VT.cnt = p'.map VT.cnt) (e2 : r.map VT.cnt = r'.map VT.cnt) (e3 : f.map FT.cnt = f'.map FT.cnt) (l1 : p.length ≤ 1048576) (l2 : r.length ≤ 1048576) (l3 : f.length ≤ 1048576) :
    Calls Tryd.prog 61 #[.agg #[.int .i64 k, pv, rv, fv], .agg #[.int .i64 k, pv', rv', fv']] w fun en w' => en = .returned (.bool true) ∧ Grew w w' := by
  have C1 : Hid (∀ w', Grew w w' → Calls Tryd.prog 85 #[pv, pv', .func (.func 86) #[] #[]] w' fun en w'' => en = .returned (.bool true) ∧ Grew w' w'') := fun w' g => eqV_any (h1.grew g) (h1'.grew g) e1 l1
  have C2 : Hid (∀ w', Grew w w' → Calls Tryd.prog 85 #[rv, rv', .func (.func 86) #[] #[]] w' fun en w'' => en = .returned (.bool true) ∧ Grew w' w'') := fun w' g => eqV_any (h2.grew g) (h2'.grew g) e2 l2
  have C3 : Hid (∀ w', Grew w w' → Calls Tryd.prog 87 #[fv, fv', .func (.func 88) #[] #[]] w' fun en w'' => en = .returned (.bool true) ∧ Grew w' w'') := fun w' g => eqF_any (h3.grew g) (h3'.grew g) e3 l3
  obtain ⟨a1, c1, z1, _⟩ := h1.one
  obtain ⟨a2, c2, z2, _⟩ := h2.one
  obtain ⟨a3, c3, z3, _⟩ := h3.one
  obtain ⟨a4, c4, z4, _⟩ := h1'.one
  obtain ⟨a5, c5, z5, _⟩ := h2'.one
  obtain ⟨a6, c6, z6, _⟩ := h3'.one
  subst z1 z2 z3 z4 z5 z6
  clear h1 h2 h3 h1' h2' h3' e1 e2 e3 l1 l2 l3
  generalize p.length = n1 at *
  generalize r.length = n2 at *
  generalize f.length = n3 at *
  generalize p'.length = n4 at *
  generalize r'.length = n5 at *
  generalize f'.length = n6 at *
  have kk : (k == k) = true := by simp
  have G0 : Hid (Grew w ((w.alloc (.cells #[.int .i64 k, .slice a1 n1 c1, .slice a2 n2 c2, .slice a3 n3 c3] 40)).alloc (.cells #[.int .i64 k, .slice a4 n4 c4, .slice a5 n5 c5, .slice a6 n6 c6] 40))) := ((Grew.refl w).alloc _).alloc _
  have A0 : Hid (((w.alloc (.cells #[.int .i64 k, .slice a1 n1 c1, .slice a2 n2 c2, .slice a3 n3 c3] 40)).alloc (.cells #[.int .i64 k, .slice a4 n4 c4, .slice a5 n5 c5, .slice a6 n6 c6] 40)).heap[w.heap.size]? = some (cobj k (.slice a1 n1 c1) (.slice a2 n2 c2) (.slice a3 n3 c3))) := heap_alloc (heap_alloc_last _ _) _
  have B0 : Hid (((w.alloc (.cells #[.int .i64 k, .slice a1 n1 c1, .slice a2 n2 c2, .slice a3 n3 c3] 40)).alloc (.cells #[.int .i64 k, .slice a4 n4 c4, .slice a5 n5 c5, .slice a6 n6 c6] 40)).heap[w.heap.size + 1]? = some (cobj k (.slice a4 n4 c4) (.slice a5 n5 c5) (.slice a6 n6 c6))) := by
    have h1 : (w.alloc (.cells #[.int .i64 k, .slice a1 n1 c1, .slice a2 n2 c2, .slice a3 n3 c3] 40)).heap.size = w.heap.size + 1 := alloc_size _ _
    rw [← h1]; exact heap_alloc_last _ _
  generalize hW : ((w.alloc (.cells #[.int .i64 k, .slice a1 n1 c1, .slice a2 n2 c2, .slice a3 n3 c3] 40)).alloc (.cells #[.int .i64 k, .slice a4 n4 c4, .slice a5 n5 c5, .slice a6 n6 c6] 40)) = W at *
  obtain ⟨x0, x1, x2, x3⟩ := box_c A0.out
  obtain ⟨y0, y1, y2, y3⟩ := box_c B0.out
  go_enter Tryd.func61, Tryd.ntmps61
  go_wp2_with fail
  refine (C1.out _ G0.out).mono ?_
  rintro en w1 ⟨rfl, g1⟩
  have G1 : Hid (Grew W w1) := g1
  obtain ⟨x0, x1, x2, x3⟩ := box_c (g1.other A0.out)
  obtain ⟨y0, y1, y2, y3⟩ := box_c (g1.other B0.out)
  clear g1
  go_wp2_with fail
  refine (C2.out _ (G0.out.trans G1.out)).mono ?_
  rintro en w2 ⟨rfl, g2⟩
  have G2 : Hid (Grew W w2) := G1.out.trans g2
  obtain ⟨x0, x1, x2, x3⟩ := box_c (G2.out.other A0.out)
  obtain ⟨y0, y1, y2, y3⟩ := box_c (G2.out.other B0.out)
  clear g2
  go_wp2_with fail
  refine (C3.out _ (G0.out.trans G2.out)).mono ?_
  rintro en w3 ⟨rfl, g3⟩
  have G3 : Hid (Grew w w3) := (G0.out.trans G2.out).trans g3
  clear g3
  go_wp2_with fail
  go_ret
  exact ⟨rfl, G3.out⟩
end Go.Proofs.YtoihkcdjfhmccaaDoor
