/-
  The program's sameSub, EqualFunc at types, SameRec at groups that count the same; no statement is proved here.
-/
import Derived.Test.YtoihkcdjfhmccaaDoorPSame
namespace Go.Proofs.YtoihkcdjfhmccaaDoor
open Go.RowKit
set_option linter.unusedVariables false
set_option linter.unusedSimpArgs false

set_option maxRecDepth 100000 in
set_option maxHeartbeats 2000000 in
theorem sameSub_any {w : World} {x y : SB} {sv pv rv fv sv' pv' rv' fv' : Value} (h1 : SubR w x sv pv rv fv) (h2 : SubR w y sv' pv' rv' fv') (he : x.cp = y.cp) (hm : Sml x) :
    Calls Tryd.prog 31 #[.agg #[.bool x.final_, sv, .int .i64 x.comp.kind, pv, rv, fv], .agg #[.bool y.final_, sv', .int .i64 y.comp.kind, pv', rv', fv']] w fun en w' => en = .returned (.bool true) ∧ Grew w w' := by
  have e1 : x.final_ = y.final_ := (congrArg (fun z : SB => z.final_) he : x.cp.final_ = y.cp.final_)
  have e2 : x.supers = y.supers := (congrArg (fun z : SB => z.supers) he : x.cp.supers = y.cp.supers)
  have e3 : x.comp.kind = y.comp.kind := congrArg (fun z => z.comp.kind) he
  have e4 : x.comp.ofK.params.map VT.cnt = y.comp.ofK.params.map VT.cnt := congrArg (fun z => z.comp.params) he
  have e5 : x.comp.ofK.results.map VT.cnt = y.comp.ofK.results.map VT.cnt := congrArg (fun z => z.comp.results) he
  have e6 : x.comp.ofK.fields.map FT.cnt = y.comp.ofK.fields.map FT.cnt := congrArg (fun z => z.comp.fields) he
  have ksm := ofK_sml hm
  obtain ⟨k1, k2, k3⟩ := ofK_rd h1
  obtain ⟨j1, j2, j3⟩ := ofK_rd h2
  rw [← e3] at j1 j2 j3
  have C1 : Hid (∀ w', Grew w w' → Calls Tryd.prog 60 #[sv, sv'] w' fun en w'' => en = .returned (.bool true) ∧ Grew w' w'') := fun w' g => eqI_any (h1.1.grew g) (by have := h2.1.grew g; rw [← e2] at this; exact this) hm.1
  have C4 : Hid (∀ w', Grew w w' → Calls Tryd.prog 61 #[.agg #[.int .i64 x.comp.kind, KP x.comp.kind pv, KP x.comp.kind rv, KF x.comp.kind fv], .agg #[.int .i64 x.comp.kind, KP x.comp.kind pv', KP x.comp.kind rv', KF x.comp.kind fv']] w' fun en w'' => en = .returned (.bool true) ∧ Grew w' w'') := fun w' g => sameComp_any (k1.grew g) (k2.grew g) (k3.grew g) (j1.grew g) (j2.grew g) (j3.grew g) e4 e5 e6 ksm.1 ksm.2.1 ksm.2.2
  have C2 : Hid (∀ w', Calls Tryd.prog 62 #[.agg #[.int .i64 x.comp.kind, pv, rv, fv]] w' fun en w'' => en = .returned (.agg #[.int .i64 x.comp.kind, KP x.comp.kind pv, KP x.comp.kind rv, KF x.comp.kind fv]) ∧ Grew w' w'') := fun w' => ofKind_any _ _ _ _ w' (by obtain ⟨a, c, h, _⟩ := h1.2.1.one; exact ⟨a, _, c, h⟩) (by obtain ⟨a, c, h, _⟩ := h1.2.2.1.one; exact ⟨a, _, c, h⟩) (by obtain ⟨a, c, h, _⟩ := h1.2.2.2.one; exact ⟨a, _, c, h⟩)
  have C3 : Hid (∀ w', Calls Tryd.prog 62 #[.agg #[.int .i64 x.comp.kind, pv', rv', fv']] w' fun en w'' => en = .returned (.agg #[.int .i64 x.comp.kind, KP x.comp.kind pv', KP x.comp.kind rv', KF x.comp.kind fv']) ∧ Grew w' w'') := fun w' => ofKind_any _ _ _ _ w' (by obtain ⟨a, c, h, _⟩ := h2.2.1.one; exact ⟨a, _, c, h⟩) (by obtain ⟨a, c, h, _⟩ := h2.2.2.1.one; exact ⟨a, _, c, h⟩) (by obtain ⟨a, c, h, _⟩ := h2.2.2.2.one; exact ⟨a, _, c, h⟩)
  obtain ⟨sa, sc, z1, _⟩ := h1.1.one
  obtain ⟨pa, pc, z2, _⟩ := h1.2.1.one
  obtain ⟨ra, rc, z3, _⟩ := h1.2.2.1.one
  obtain ⟨fa, fc, z4, _⟩ := h1.2.2.2.one
  obtain ⟨sa', sc', z5, _⟩ := h2.1.one
  obtain ⟨pa', pc', z6, _⟩ := h2.2.1.one
  obtain ⟨ra', rc', z7, _⟩ := h2.2.2.1.one
  obtain ⟨fa', fc', z8, _⟩ := h2.2.2.2.one
  rw [← e2] at z5
  rw [← e1, ← e3]
  subst z1 z2 z3 z4 z5 z6 z7 z8
  clear h1 h2 he hm e1 e2 e3 e4 e5 e6 ksm k1 k2 k3 j1 j2 j3
  generalize x.comp.params.length = np at *
  generalize x.comp.results.length = nr at *
  generalize x.comp.fields.length = nf at *
  generalize y.comp.params.length = np' at *
  generalize y.comp.results.length = nr' at *
  generalize y.comp.fields.length = nf' at *
  generalize x.supers = sup at *
  generalize x.final_ = fin at *
  generalize x.comp.kind = kind at *
  generalize KP kind (.slice pa np pc) = kp at *
  generalize KP kind (.slice ra nr rc) = kr at *
  generalize KF kind (.slice fa nf fc) = kf at *
  generalize KP kind (.slice pa' np' pc') = kp' at *
  generalize KP kind (.slice ra' nr' rc') = kr' at *
  generalize KF kind (.slice fa' nf' fc') = kf' at *
  have ff : (fin == fin) = true := by simp
  have G0 : Hid (Grew w ((w.alloc (.cells #[.bool fin, .slice sa sup.length sc, .int .i64 kind, .slice pa np pc, .slice ra nr rc, .slice fa nf fc] 42)).alloc (.cells #[.bool fin, .slice sa' sup.length sc', .int .i64 kind, .slice pa' np' pc', .slice ra' nr' rc', .slice fa' nf' fc'] 42))) := ((Grew.refl w).alloc _).alloc _
  have A0 : Hid (((w.alloc (.cells #[.bool fin, .slice sa sup.length sc, .int .i64 kind, .slice pa np pc, .slice ra nr rc, .slice fa nf fc] 42)).alloc (.cells #[.bool fin, .slice sa' sup.length sc', .int .i64 kind, .slice pa' np' pc', .slice ra' nr' rc', .slice fa' nf' fc'] 42)).heap[w.heap.size]? = some (sobj fin (.slice sa sup.length sc) kind (.slice pa np pc) (.slice ra nr rc) (.slice fa nf fc))) := heap_alloc (heap_alloc_last _ _) _
  have B0 : Hid (((w.alloc (.cells #[.bool fin, .slice sa sup.length sc, .int .i64 kind, .slice pa np pc, .slice ra nr rc, .slice fa nf fc] 42)).alloc (.cells #[.bool fin, .slice sa' sup.length sc', .int .i64 kind, .slice pa' np' pc', .slice ra' nr' rc', .slice fa' nf' fc'] 42)).heap[w.heap.size + 1]? = some (sobj fin (.slice sa' sup.length sc') kind (.slice pa' np' pc') (.slice ra' nr' rc') (.slice fa' nf' fc'))) := by
    have h1 : (w.alloc (.cells #[.bool fin, .slice sa sup.length sc, .int .i64 kind, .slice pa np pc, .slice ra nr rc, .slice fa nf fc] 42)).heap.size = w.heap.size + 1 := alloc_size _ _
    rw [← h1]; exact heap_alloc_last _ _
  go_enter Tryd.func31, Tryd.ntmps31
  go_wp2_with fail
  generalize ((w.alloc (.cells #[.bool fin, .slice sa sup.length sc, .int .i64 kind, .slice pa np pc, .slice ra nr rc, .slice fa nf fc] 42)).alloc (.cells #[.bool fin, .slice sa' sup.length sc', .int .i64 kind, .slice pa' np' pc', .slice ra' nr' rc', .slice fa' nf' fc'] 42)) = W at *
  obtain ⟨x0, x1, x2, x3, x4, x5⟩ := box_s A0.out
  obtain ⟨y0, y1, y2, y3, y4, y5⟩ := box_s B0.out
  go_region_held3 (fun w' => w'.cell? ⟨w.heap.size, 0, none⟩ = some (.bool fin) ∧ w'.cell? ⟨w.heap.size, 1, none⟩ = some (.slice sa sup.length sc) ∧ w'.cell? ⟨w.heap.size, 2, none⟩ = some (.int .i64 kind) ∧ w'.cell? ⟨w.heap.size, 3, none⟩ = some (.slice pa np pc) ∧ w'.cell? ⟨w.heap.size, 4, none⟩ = some (.slice ra nr rc) ∧ w'.cell? ⟨w.heap.size, 5, none⟩ = some (.slice fa nf fc) ∧ w'.cell? ⟨w.heap.size + 1, 0, none⟩ = some (.bool fin) ∧ w'.cell? ⟨w.heap.size + 1, 1, none⟩ = some (.slice sa' sup.length sc') ∧ w'.cell? ⟨w.heap.size + 1, 2, none⟩ = some (.int .i64 kind) ∧ w'.cell? ⟨w.heap.size + 1, 3, none⟩ = some (.slice pa' np' pc') ∧ w'.cell? ⟨w.heap.size + 1, 4, none⟩ = some (.slice ra' nr' rc') ∧ w'.cell? ⟨w.heap.size + 1, 5, none⟩ = some (.slice fa' nf' fc')) (go_keep)
    (first
     | (go_at_call 60; refine (C1.out W.drew G0.out.drew).mono ?_; rintro en w5 ⟨rfl, g5⟩; have gg5 : Grew W w5 := ((Grew.refl W).drew).trans g5; obtain ⟨x0a, x1a, x2a, x3a, x4a, x5a⟩ := box_s (gg5.other A0.out); obtain ⟨y0a, y1a, y2a, y3a, y4a, y5a⟩ := box_s (gg5.other B0.out))
     | (go_at_call_of 62 (Value.agg #[Value.int IntKind.i64 kind, Value.slice pa np pc, Value.slice ra nr rc, Value.slice fa nf fc]); refine (C2.out w5).mono ?_; rintro en w6 ⟨rfl, g6⟩; have gg6 : Grew W w6 := gg5.trans g6; obtain ⟨x0b, x1b, x2b, x3b, x4b, x5b⟩ := box_s (gg6.other A0.out); obtain ⟨y0b, y1b, y2b, y3b, y4b, y5b⟩ := box_s (gg6.other B0.out))
     | (go_at_call_of 62 (Value.agg #[Value.int IntKind.i64 kind, Value.slice pa' np' pc', Value.slice ra' nr' rc', Value.slice fa' nf' fc']); refine (C3.out w6).mono ?_; rintro en w7 ⟨rfl, g7⟩; have gg7 : Grew W w7 := gg6.trans g7; obtain ⟨x0c, x1c, x2c, x3c, x4c, x5c⟩ := box_s (gg7.other A0.out); obtain ⟨y0c, y1c, y2c, y3c, y4c, y5c⟩ := box_s (gg7.other B0.out))
     | (go_at_call 61; refine (C4.out w7 (G0.out.trans gg7)).mono ?_; rintro en w8 ⟨rfl, g8⟩; have gg8 : Grew W w8 := gg7.trans g8; obtain ⟨x0d, x1d, x2d, x3d, x4d, x5d⟩ := box_s (gg8.other A0.out); obtain ⟨y0d, y1d, y2d, y3d, y4d, y5d⟩ := box_s (gg8.other B0.out)))
  all_goals go_wp2_with fail
  all_goals go_ret
  all_goals exact ⟨rfl, G0.out.trans gg8⟩
set_option maxRecDepth 100000 in
set_option maxHeartbeats 1000000 in
theorem eqS_any {w : World} {u v : Value} {l1 l2 : List SB} (h1 : LS w u l1) (h2 : LS w v l2) (h : l1.map SB.cp = l2.map SB.cp) (hl : l1.length ≤ 1048576) (hsm : ∀ x ∈ l1, Sml x) :
    Calls Tryd.prog 30 #[u, v, .func (.func 31) #[] #[]] w fun en w' => en = .returned (.bool true) ∧ Grew w w' := by
  obtain ⟨ua, uc, hu, hu1, hu2⟩ := h1.one
  obtain ⟨va, vc, hv, hv1, hv2⟩ := h2.one
  have hlen : l2.length = l1.length := by have := congrArg List.length h; simpa using this.symm
  subst hu
  subst hv
  have H1 : Hid (LS w (.slice ua l1.length uc) l1) := h1
  have H2 : Hid (LS w (.slice va l2.length vc) l2) := h2
  have HE : Hid (l1.map SB.cp = l2.map SB.cp) := h
  have HL : Hid (l2.length = l1.length) := hlen
  rw [hlen] at hv1 H2 ⊢
  have HSM : Hid (∀ x ∈ l1, Sml x) := hsm
  clear h1 h2 h hlen hsm
  have nn : (((l1.length : Nat) : Int) != ((l1.length : Nat) : Int)) = false := by simp
  go_enter Tryd.func30, Tryd.ntmps30
  go_wp2_with fail
  go_loopw [17] (fun i_ w' => ∃ i : Nat, i_ = .int .i64 i ∧ i ≤ l1.length ∧ Hid (Grew w w')) (fun i_ _ => l1.length - (intOf i_).toNat)
  case atStart => exact ⟨0, rfl, Nat.zero_le _, Grew.refl _⟩
  case round =>
    obtain ⟨i, rfl, hi, G⟩ := hrel
    obtain ⟨w0, hw0⟩ : ∃ w0, w0 = wr := ⟨_, rfl⟩
    rw [← hw0] at G ⊢
    clear hw0
    by_cases hlt : i < l1.length
    · obtain ⟨x, hx⟩ : ∃ x, l1[i]? = some x := ⟨_, List.getElem?_eq_getElem hlt⟩
      obtain ⟨y, hy⟩ : ∃ y, l2[i]? = some y := ⟨_, List.getElem?_eq_getElem (by have := HL.out; omega)⟩
      obtain ⟨b, off, ha, _, hE⟩ := (H1.out.grew G.out).get (by omega)
      obtain ⟨b2, off2, ha2, _, hE2⟩ := (H2.out.grew G.out).get (by have := HL.out; omega)
      subst ha
      subst ha2
      have hxy : SB.cp x = SB.cp y := by
        have e1 : (l1.map SB.cp)[i]? = some (SB.cp x) := by rw [List.getElem?_map, hx]; rfl
        have e2 : (l2.map SB.cp)[i]? = some (SB.cp y) := by rw [List.getElem?_map, hy]; rfl
        rw [HE.out, e2] at e1
        exact (Option.some.inj e1).symm
      obtain ⟨sv, pv, rv, fv, hs1, c0, c1, c2, c3, c4, c5⟩ := hE i x hx
      obtain ⟨sv', pv', rv', fv', hs2, k0, k1, k2, k3, k4, k5⟩ := hE2 i y hy
      have d1 : decide ((i : Int) < (l1.length : Int)) = true := by simp; omega
      have d2 : decide (i < l1.length) = true := by simp; omega
      have SC := fun w' (g : Grew w0 w') => sameSub_any (hs1.grew g) (hs2.grew g) hxy (HSM.out x (List.mem_of_getElem? hx))
      clear hE hE2 hx hy hxy
      obtain ⟨sa, sc, z1, _⟩ := hs1.1.one
      obtain ⟨pa, pc, z2, _⟩ := hs1.2.1.one
      obtain ⟨ra, rc, z3, _⟩ := hs1.2.2.1.one
      obtain ⟨fa, fc, z4, _⟩ := hs1.2.2.2.one
      obtain ⟨sa', sc', z5, _⟩ := hs2.1.one
      obtain ⟨pa', pc', z6, _⟩ := hs2.2.1.one
      obtain ⟨ra', rc', z7, _⟩ := hs2.2.2.1.one
      obtain ⟨fa', fc', z8, _⟩ := hs2.2.2.2.one
      subst z1 z2 z3 z4 z5 z6 z7 z8
      clear hs1 hs2
      generalize x.comp.params.length = np at *
      generalize x.comp.results.length = nr at *
      generalize x.comp.fields.length = nf at *
      generalize y.comp.params.length = np' at *
      generalize y.comp.results.length = nr' at *
      generalize y.comp.fields.length = nf' at *
      generalize x.supers.length = ns at *
      generalize y.supers.length = ns' at *
      generalize x.final_ = fin at *
      generalize x.comp.kind = kind at *
      generalize y.final_ = fin' at *
      generalize y.comp.kind = kind' at *
      have gX : Grew w0 (w0.alloc (.cells #[.bool fin, .slice sa ns sc, .int .i64 kind, .slice pa np pc, .slice ra nr rc, .slice fa nf fc] 42)) := (Grew.refl w0).alloc _
      have kk0 := cell_grew k0 gX
      have kk1 := cell_grew k1 gX
      have kk2 := cell_grew k2 gX
      have kk3 := cell_grew k3 gX
      have kk4 := cell_grew k4 gX
      have kk5 := cell_grew k5 gX
      clear gX
      have GA : Grew w0 ((w0.alloc (.cells #[.bool fin, .slice sa ns sc, .int .i64 kind, .slice pa np pc, .slice ra nr rc, .slice fa nf fc] 42)).alloc (.cells #[.bool fin', .slice sa' ns' sc', .int .i64 kind', .slice pa' np' pc', .slice ra' nr' rc', .slice fa' nf' fc'] 42)) := ((Grew.refl w0).alloc _).alloc _
      go_wp2_with fail
      refine (SC _ GA).mono ?_
      rintro en w1 ⟨rfl, g1⟩
      have G1 : Hid (Grew w w1) := (G.out.trans GA).trans g1
      clear g1 SC GA
      go_wp2_with fail
      go_roundw
      case rel => exact ⟨i + 1, by go_num, by omega, G1⟩
      case measure => simp [intOf]; omega
    · have d1 : decide ((i : Int) < (l1.length : Int)) = false := by simp; omega
      go_wp2_with fail
      go_ret
      exact ⟨rfl, G.out⟩
set_option maxRecDepth 100000 in
set_option maxHeartbeats 1000000 in
theorem sameRec_any {w : World} {u v : Value} {l1 l2 : List SB} {ex : Bool} (h1 : LS w u l1) (h2 : LS w v l2) (h : l1.map SB.cp = l2.map SB.cp) (hl : l1.length ≤ 1048576) (hsm : ∀ x ∈ l1, Sml x) :
    Calls Tryd.prog 12 #[.agg #[u, .bool ex], .agg #[v, .bool ex]] w fun en w' => en = .returned (.bool true) ∧ Grew w w' := by
  have C : Hid (∀ w', Grew w w' → Calls Tryd.prog 30 #[u, v, .func (.func 31) #[] #[]] w' fun en w'' => en = .returned (.bool true) ∧ Grew w' w'') := fun w' g => eqS_any (h1.grew g) (h2.grew g) h hl hsm
  obtain ⟨ua, uc, hu, _⟩ := h1.one
  obtain ⟨va, vc, hv, _⟩ := h2.one
  subst hu hv
  clear h1 h2 h hl hsm
  generalize l1.length = n1 at *
  generalize l2.length = n2 at *
  have ee : (ex == ex) = true := by simp
  have G0 : Grew w ((w.alloc (.cells #[.slice ua n1 uc, .bool ex] 29)).alloc (.cells #[.slice va n2 vc, .bool ex] 29)) := ((Grew.refl w).alloc _).alloc _
  go_enter Tryd.func12, Tryd.ntmps12
  go_wp2_with fail
  refine (C.out _ G0).mono ?_
  rintro en w1 ⟨rfl, g1⟩
  have G1 : Hid (Grew w w1) := G0.trans g1
  clear g1 C G0
  go_wp2_with fail
  go_ret
  exact ⟨rfl, G1.out⟩
end Go.Proofs.YtoihkcdjfhmccaaDoor
