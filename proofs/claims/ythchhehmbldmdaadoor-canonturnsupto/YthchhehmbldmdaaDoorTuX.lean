/-
  The law CanonTurns: its walk, the long way; no statement is proved here.
-/
import Derived.Test.YthchhehmbldmdaaDoorTuW
namespace Go.Proofs.YthchhehmbldmdaaDoor
open Go.RowKit
set_option linter.unusedVariables false
set_option linter.unusedSimpArgs false

set_option maxRecDepth 100000 in
set_option maxHeartbeats 2000000 in
theorem turns_tt {w : World} {va ua : Option Addr} {vn vc un uc : Nat} {L M : List RT} {x y : Nat} {z : Int} (ht : Tab w) (s1 : SmC w (.slice va vn vc) (x : Int) (y : Int) true 0) (s2 : SmC w (.slice va vn vc) (y : Int) (x : Int) true 0) (s3 : SmC w (.slice va vn vc) (y : Int) z true 0) (s4 : SmC w (.slice va vn vc) (x : Int) z true 0) (s5 : SmC w (.slice va vn vc) (x : Int) (x : Int) true 0) (hv : LR w (.slice va vn vc) L) (hu : LR w (.slice ua un uc) M) (fl : Fit L) (fm : Fit M) (hc : closedP 0 L = true) (hx : (0 : Int) ≤ (x : Int) ∧ (x : Int) < (cntT L : Int)) (hy : (0 : Int) ≤ (y : Int) ∧ (y : Int) < (cntT L : Int)) (hp : true = decide (atI (idsU L) (x : Int) = atI (idsU L) (y : Int))) :
    Calls Tryd.prog 3 #[.slice va vn vc, .slice ua un uc, .agg #[.int .i64 (x : Int), .int .i64 (y : Int), .int .i64 z]] w fun en w' => en = .returned (.bool true) ∧ Grew w w' := by
  have CV : Hid (∀ W, Grew w W → Calls Tryd.prog 6 #[] W fun en w' => en = .returned (.bool true) ∧ Grew W w') := fun W g => alive_any (ht.grew g)
  have C1 : Hid (SmC w (.slice va vn vc) (x : Int) (y : Int) true 0) := s1
  have C2 : Hid (SmC w (.slice va vn vc) (y : Int) (x : Int) true 0) := s2
  have C3 : Hid (SmC w (.slice va vn vc) (y : Int) z true 0) := s3
  have C4 : Hid (SmC w (.slice va vn vc) (x : Int) z true 0) := s4
  have C5 : Hid (SmC w (.slice va vn vc) (x : Int) (x : Int) true 0) := s5
  have CN : Hid (∀ W, Calls Tryd.prog 8 #[] W fun en w' => ∃ tb kb, en = .returned (.pointer (some ⟨tb, 0, none⟩)) ∧ W.heap.size ≤ tb ∧ W.heap.size ≤ kb ∧ w'.heap[tb]? = some (tobj kb NILS) ∧ MapF w' kb 0 NOF ∧ Grew W w') := new_any
  have hLm := fm.sml.1
  have hLl := fl.sml.1
  have hcl := fl.sml.2.1
  have CA1 : Hid (∀ W tb kb f n, Grew w W → TbK w tb kb W 0 f n → Calls Tryd.prog 9 #[.pointer (some ⟨tb, 0, none⟩), .slice ua un uc] W fun en w' => Grew w w' ∧ ∃ (f' : FM) (n' : Nat) (r0 : Value) (p e : Int), en = .returned (.tuple #[r0, .int .i64 p, .int .i64 e]) ∧ TbK w tb kb w' (0 + M.length) f' n') := fun W tb kb f n g T =>
    (add_any ht g T (by decide) hu fm).mono fun en w' ⟨g', f', n', r0, p, e, h1, h2, _⟩ => ⟨g', f', n', r0, p, e, h1, h2⟩
  have CA2 : Hid (∀ W tb kb f n, Grew w W → TbK w tb kb W (0 + M.length) f n → Calls Tryd.prog 9 #[.pointer (some ⟨tb, 0, none⟩), .slice va vn vc] W fun en w' => Grew w w' ∧ ∃ (f' : FM) (n' : Nat) (r0 : Value) (p e : Int), en = .returned (.tuple #[r0, .int .i64 p, .int .i64 e]) ∧ TbK w tb kb w' (0 + M.length + L.length) f' n' ∧ ((r0 = NILS ∧ e = 2) ∨ (e = 0 ∧ ∃ ids, RowI W.heap.size w' r0 ids ∧ numF stepD L [] (D0 f' n') = (some ids, D0 f' n')))) := fun W tb kb f n g T =>
    (add_any ht g T (by omega) hv fl).mono fun en w' ⟨g', f', n', r0, p, e, h1, h2, h3⟩ => ⟨g', f', n', r0, p, e, h1, h2, h3 hc⟩
  have CA3 : Hid (∀ W tb kb f n ids, Grew w W → TbK w tb kb W (0 + M.length + L.length) f n → numF stepD L [] (D0 f n) = (some ids, D0 f n) → Calls Tryd.prog 9 #[.pointer (some ⟨tb, 0, none⟩), .slice va vn vc] W fun en w' => Grew w w' ∧ ∃ r0, en = .returned (.tuple #[r0, .int .i64 0, .int .i64 0]) ∧ RowI W.heap.size w' r0 ids ∧ ∀ B u l, RowI B W u l → RowI B w' u l) := fun W tb kb f n ids g T hn => add_again ht g T (by omega) hv fl hc hn
  have HAg : Hid (∀ f n ids, GoodT f n → InjT f → numF stepD L [] (D0 f n) = (some ids, D0 f n) → ids.length = cntT L ∧ decide (atI ids (x : Int) = atI ids (y : Int)) = true) := fun f n ids g i hn => by
    rw [hp]; exact ids_agree fl.sml hc (good_D0 g) (inj_D0 i) hn hx hy
  clear s1 s2 s3 s4 s5 ht hv hu fl fm hc hp
  go_enter Tryd.func3, Tryd.ntmps3
  go_wp2_with fail
  have g0 : Grew w (w.alloc (.cells #[.int .i64 (x : Int), .int .i64 (y : Int), .int .i64 z] 24)) := (Grew.refl w).alloc _
  have B0 : (w.alloc (.cells #[.int .i64 (x : Int), .int .i64 (y : Int), .int .i64 z] 24)).heap[w.heap.size]? = some (.cells #[.int .i64 (x : Int), .int .i64 (y : Int), .int .i64 z] 24 (0, 0)) := heap_alloc_last _ _
  generalize (w.alloc (.cells #[.int .i64 (x : Int), .int .i64 (y : Int), .int .i64 z] 24)) = W0 at *
  refine (CV.out W0 g0).mono ?_
  rintro en w1 ⟨rfl, g1⟩
  have G1 : Hid (Grew w w1) := g0.trans g1
  have B1 := g1.other B0
  have a0 := cell_of B1 0
  have a1 := cell_of B1 1
  have a2 := cell_of B1 2
  simp at a0 a1 a2
  have k0 := lt_of_obj B1
  clear g1 CV g0 B0 B1
  go_wp2_with fail
  go_region
  all_goals go_wp2_with fail
  refine (C1.out _ (by first | exact G1.out | exact G1.out.drew | exact G1.out.drewN _)).mono ?_
  rintro en w2 ⟨rfl, g2⟩
  have G2 : Hid (Grew w w2) := Grew.trans (by first | exact G1.out | exact G1.out.drew | exact G1.out.drewN _) g2
  clear g2 C1 G1 a0 a1 a2 k0
  go_wp2_with fail
  refine (C2.out w2 G2.out).mono ?_
  rintro en w3 ⟨rfl, g3⟩
  have G3 : Hid (Grew w w3) := G2.out.trans g3
  clear g3 C2 G2
  go_wp2_with fail
  refine (C3.out w3 G3.out).mono ?_
  rintro en w4 ⟨rfl, g4⟩
  have G4 : Hid (Grew w w4) := G3.out.trans g4
  clear g4 C3 G3
  go_wp2_with fail
  refine (C4.out w4 G4.out).mono ?_
  rintro en w5 ⟨rfl, g5⟩
  have G5 : Hid (Grew w w5) := G4.out.trans g5
  clear g5 C4 G4
  go_wp2_with fail
  refine (C5.out w5 G5.out).mono ?_
  rintro en w6 ⟨rfl, g6⟩
  have G6 : Hid (Grew w w6) := G5.out.trans g6
  clear g6 C5 G5
  go_wp2_with fail
  refine (CN.out w6).mono ?_
  rintro en w7 ⟨tb, kb, rfl, htb, hkb, hT7, hM7, g7⟩
  have G7 : Hid (Grew w w7) := G6.out.trans g7
  have T7 : Hid (TbK w tb kb w7 0 NOF 0) := ⟨⟨NILS, 0, ⟨hT7, hM7, [], World.ownsRow_nil _ _ _ _⟩, Nat.le_refl _, fun g hg => by cases hg⟩, good_0, inj_0, Nat.le_trans G6.out.2 htb, Nat.le_trans G6.out.2 hkb⟩
  clear g7 htb hkb hT7 hM7 CN G6
  go_wp2_with fail
  refine (CA1.out w7 tb kb NOF 0 G7.out T7.out).mono ?_
  rintro en w8 ⟨g8, f8, n8, r8, p8, e8, rfl, T8'⟩
  have G8 : Hid (Grew w w8) := g8
  have T8 : Hid (TbK w tb kb w8 (0 + M.length) f8 n8) := T8'
  clear g8 T8' CA1 T7 G7
  go_wp2_with fail
  refine (CA2.out w8 tb kb f8 n8 G8.out T8.out).mono ?_
  rintro en w9 ⟨g9, f9, n9, r9, p9, e9, rfl, T9', hh⟩
  have G9 : Hid (Grew w w9) := g9
  have T9 : Hid (TbK w tb kb w9 (0 + M.length + L.length) f9 n9) := T9'
  clear g9 T9' CA2 T8 G8
  rcases hh with ⟨rfl, rfl⟩ | ⟨rfl, ids, hr9, hn9⟩
  · go_wp2_with fail
    go_ret
    exact ⟨rfl, G9.out⟩
  · obtain ⟨hil, hag⟩ := HAg.out f9 n9 ids T9.out.good T9.out.inj hn9
    have HN9 : Hid (numF stepD L [] (D0 f9 n9) = (some ids, D0 f9 n9)) := hn9
    obtain ⟨ia, ic, ei, _⟩ := row_max hr9
    subst ei
    have R9 : Hid (RowI w8.heap.size w9 (.slice ia ids.length ic) ids) := hr9
    have HIL : Hid (ids.length = cntT L) := hil
    have HAG : Hid (decide (atI ids (x : Int) = atI ids (y : Int)) = true) := hag
    clear hr9 hn9 hil hag HAg
    go_wp2_with fail
    refine (CA3.out w9 tb kb f9 n9 ids G9.out T9.out HN9.out).mono ?_
    rintro en w10 ⟨g10, r10, rfl, hr10, hk10⟩
    have G10 : Hid (Grew w w10) := g10
    have hra := hk10 _ _ _ R9.out
    obtain ⟨ja, jc, ej, _⟩ := row_max hr10
    subst ej
    have CI : Hid (∀ W, Grew w10 W → Calls Tryd.prog 10 #[.slice ia ids.length ic, .slice ja ids.length jc] W fun en w' => en = .returned (.bool true) ∧ Grew W w') := fun W g => ints_same (LI.grew (RowI.lst hra) g) (LI.grew (RowI.lst hr10) g) (by rw [HIL.out]; omega)
    obtain ⟨b5, o5, hb5, hc5, hE⟩ := Lst.get (RowI.lst hra) (by rw [HIL.out]; omega)
    subst hb5
    obtain ⟨X, hX⟩ : ∃ X, atI ids (x : Int) = X := ⟨_, rfl⟩
    obtain ⟨Y, hY⟩ : ∃ Y, atI ids (y : Int) = Y := ⟨_, rfl⟩
    have ga : ids[(x : Int).toNat]? = some X := by rw [← hX]; unfold atI; rw [List.getD_eq_getElem?_getD, List.getElem?_eq_getElem (by rw [HIL.out]; omega)]; rfl
    have gb : ids[(y : Int).toNat]? = some Y := by rw [← hY]; unfold atI; rw [List.getD_eq_getElem?_getD, List.getElem?_eq_getElem (by rw [HIL.out]; omega)]; rfl
    have ka := hE _ _ ga
    have kb' := hE _ _ gb
    unfold EI at ka kb'
    rw [Nat.mul_one] at ka kb'
    have hXY : decide (X = Y) = true := by rw [← hX, ← hY]; exact HAG.out
    have hla : (x : Int).toNat < ids.length := by rw [HIL.out]; omega
    have hlb : (y : Int).toNat < ids.length := by rw [HIL.out]; omega
    have da : decide ((x : Int).toNat < ids.length) = true := decide_eq_true hla
    have dbb : decide ((y : Int).toNat < ids.length) = true := decide_eq_true hlb
    have ea : decide ((x : Int) < (ids.length : Int)) = true := by simp; omega
    have eb : decide ((y : Int) < (ids.length : Int)) = true := by simp; omega
    have hlen : ids.length ≤ 1048576 := by rw [HIL.out]; omega
    have hb5 := lt_of_cell ka
    simp only [Int.toNat_natCast] at ka kb' hla hlb da dbb
    have hxm : ((x : Nat) : Int) < (ids.length : Int) := by omega
    have hym : ((y : Nat) : Int) < (ids.length : Int) := by omega
    clear hE ga gb hra hr10 hk10 g10 hX hY CA3 HN9 T9 G9 R9 HAG HIL
    obtain rfl : X = Y := by simpa using hXY
    clear hXY
    generalize ids.length = m at *
    go_wp2_with fail
    go_region_held3 (fun w' => w'.cell? ⟨b5, o5 + x, none⟩ = some (.int .i64 X) ∧ w'.cell? ⟨b5, o5 + y, none⟩ = some (.int .i64 X)) (go_keep)
      (first
       | (go_at_call 10
          refine (CI.out _ (by first | exact Grew.refl _ | exact (Grew.refl _).drew | exact (Grew.refl _).drewN _)).mono ?_
          rintro en w11 ⟨rfl, g11⟩
          have g11' : Grew w10 w11 := (by first | exact g11 | exact ((Grew.refl _).drew).trans g11 | exact ((Grew.refl _).drewN _).trans g11)
          have G11 : Hid (Grew w w11) := G10.out.trans g11'
          have j0 := cell_grew ka g11'
          have j1 := cell_grew kb' g11'
          have hb6 := lt_of_cell j0
          clear g11 g11'))
    all_goals go_wp2_with fail
    all_goals go_ret
    all_goals exact ⟨rfl, (by repeat (first | exact G11.out | refine Grew.alloc ?_ _ | refine Grew.drew ?_ | refine Grew.drewN ?_ _))⟩
set_option maxRecDepth 100000 in
set_option maxHeartbeats 2000000 in
theorem turns_tf {w : World} {va ua : Option Addr} {vn vc un uc : Nat} {L M : List RT} {x y : Nat} {z : Int} {r : Bool} (ht : Tab w) (s1 : SmC w (.slice va vn vc) (x : Int) (y : Int) true 0) (s2 : SmC w (.slice va vn vc) (y : Int) (x : Int) true 0) (s3 : SmC w (.slice va vn vc) (y : Int) z false 0) (s4 : SmC w (.slice va vn vc) (x : Int) z r 0) (s5 : SmC w (.slice va vn vc) (x : Int) (x : Int) true 0) (hv : LR w (.slice va vn vc) L) (hu : LR w (.slice ua un uc) M) (fl : Fit L) (fm : Fit M) (hc : closedP 0 L = true) (hx : (0 : Int) ≤ (x : Int) ∧ (x : Int) < (cntT L : Int)) (hy : (0 : Int) ≤ (y : Int) ∧ (y : Int) < (cntT L : Int)) (hp : true = decide (atI (idsU L) (x : Int) = atI (idsU L) (y : Int))) :
    Calls Tryd.prog 3 #[.slice va vn vc, .slice ua un uc, .agg #[.int .i64 (x : Int), .int .i64 (y : Int), .int .i64 z]] w fun en w' => en = .returned (.bool true) ∧ Grew w w' := by
  have CV : Hid (∀ W, Grew w W → Calls Tryd.prog 6 #[] W fun en w' => en = .returned (.bool true) ∧ Grew W w') := fun W g => alive_any (ht.grew g)
  have C1 : Hid (SmC w (.slice va vn vc) (x : Int) (y : Int) true 0) := s1
  have C2 : Hid (SmC w (.slice va vn vc) (y : Int) (x : Int) true 0) := s2
  have C3 : Hid (SmC w (.slice va vn vc) (y : Int) z false 0) := s3
  have C4 : Hid (SmC w (.slice va vn vc) (x : Int) z r 0) := s4
  have C5 : Hid (SmC w (.slice va vn vc) (x : Int) (x : Int) true 0) := s5
  have CN : Hid (∀ W, Calls Tryd.prog 8 #[] W fun en w' => ∃ tb kb, en = .returned (.pointer (some ⟨tb, 0, none⟩)) ∧ W.heap.size ≤ tb ∧ W.heap.size ≤ kb ∧ w'.heap[tb]? = some (tobj kb NILS) ∧ MapF w' kb 0 NOF ∧ Grew W w') := new_any
  have hLm := fm.sml.1
  have hLl := fl.sml.1
  have hcl := fl.sml.2.1
  have CA1 : Hid (∀ W tb kb f n, Grew w W → TbK w tb kb W 0 f n → Calls Tryd.prog 9 #[.pointer (some ⟨tb, 0, none⟩), .slice ua un uc] W fun en w' => Grew w w' ∧ ∃ (f' : FM) (n' : Nat) (r0 : Value) (p e : Int), en = .returned (.tuple #[r0, .int .i64 p, .int .i64 e]) ∧ TbK w tb kb w' (0 + M.length) f' n') := fun W tb kb f n g T =>
    (add_any ht g T (by decide) hu fm).mono fun en w' ⟨g', f', n', r0, p, e, h1, h2, _⟩ => ⟨g', f', n', r0, p, e, h1, h2⟩
  have CA2 : Hid (∀ W tb kb f n, Grew w W → TbK w tb kb W (0 + M.length) f n → Calls Tryd.prog 9 #[.pointer (some ⟨tb, 0, none⟩), .slice va vn vc] W fun en w' => Grew w w' ∧ ∃ (f' : FM) (n' : Nat) (r0 : Value) (p e : Int), en = .returned (.tuple #[r0, .int .i64 p, .int .i64 e]) ∧ TbK w tb kb w' (0 + M.length + L.length) f' n' ∧ ((r0 = NILS ∧ e = 2) ∨ (e = 0 ∧ ∃ ids, RowI W.heap.size w' r0 ids ∧ numF stepD L [] (D0 f' n') = (some ids, D0 f' n')))) := fun W tb kb f n g T =>
    (add_any ht g T (by omega) hv fl).mono fun en w' ⟨g', f', n', r0, p, e, h1, h2, h3⟩ => ⟨g', f', n', r0, p, e, h1, h2, h3 hc⟩
  have CA3 : Hid (∀ W tb kb f n ids, Grew w W → TbK w tb kb W (0 + M.length + L.length) f n → numF stepD L [] (D0 f n) = (some ids, D0 f n) → Calls Tryd.prog 9 #[.pointer (some ⟨tb, 0, none⟩), .slice va vn vc] W fun en w' => Grew w w' ∧ ∃ r0, en = .returned (.tuple #[r0, .int .i64 0, .int .i64 0]) ∧ RowI W.heap.size w' r0 ids ∧ ∀ B u l, RowI B W u l → RowI B w' u l) := fun W tb kb f n ids g T hn => add_again ht g T (by omega) hv fl hc hn
  have HAg : Hid (∀ f n ids, GoodT f n → InjT f → numF stepD L [] (D0 f n) = (some ids, D0 f n) → ids.length = cntT L ∧ decide (atI ids (x : Int) = atI ids (y : Int)) = true) := fun f n ids g i hn => by
    rw [hp]; exact ids_agree fl.sml hc (good_D0 g) (inj_D0 i) hn hx hy
  clear s1 s2 s3 s4 s5 ht hv hu fl fm hc hp
  go_enter Tryd.func3, Tryd.ntmps3
  go_wp2_with fail
  have g0 : Grew w (w.alloc (.cells #[.int .i64 (x : Int), .int .i64 (y : Int), .int .i64 z] 24)) := (Grew.refl w).alloc _
  have B0 : (w.alloc (.cells #[.int .i64 (x : Int), .int .i64 (y : Int), .int .i64 z] 24)).heap[w.heap.size]? = some (.cells #[.int .i64 (x : Int), .int .i64 (y : Int), .int .i64 z] 24 (0, 0)) := heap_alloc_last _ _
  generalize (w.alloc (.cells #[.int .i64 (x : Int), .int .i64 (y : Int), .int .i64 z] 24)) = W0 at *
  refine (CV.out W0 g0).mono ?_
  rintro en w1 ⟨rfl, g1⟩
  have G1 : Hid (Grew w w1) := g0.trans g1
  have B1 := g1.other B0
  have a0 := cell_of B1 0
  have a1 := cell_of B1 1
  have a2 := cell_of B1 2
  simp at a0 a1 a2
  have k0 := lt_of_obj B1
  clear g1 CV g0 B0 B1
  go_wp2_with fail
  go_region
  all_goals go_wp2_with fail
  refine (C1.out _ (by first | exact G1.out | exact G1.out.drew | exact G1.out.drewN _)).mono ?_
  rintro en w2 ⟨rfl, g2⟩
  have G2 : Hid (Grew w w2) := Grew.trans (by first | exact G1.out | exact G1.out.drew | exact G1.out.drewN _) g2
  clear g2 C1 G1 a0 a1 a2 k0
  go_wp2_with fail
  refine (C2.out w2 G2.out).mono ?_
  rintro en w3 ⟨rfl, g3⟩
  have G3 : Hid (Grew w w3) := G2.out.trans g3
  clear g3 C2 G2
  go_wp2_with fail
  refine (C3.out w3 G3.out).mono ?_
  rintro en w4 ⟨rfl, g4⟩
  have G4 : Hid (Grew w w4) := G3.out.trans g4
  clear g4 C3 G3
  go_wp2_with fail
  refine (C4.out w4 G4.out).mono ?_
  rintro en w5 ⟨rfl, g5⟩
  have G5 : Hid (Grew w w5) := G4.out.trans g5
  clear g5 C4 G4
  go_wp2_with fail
  refine (C5.out w5 G5.out).mono ?_
  rintro en w6 ⟨rfl, g6⟩
  have G6 : Hid (Grew w w6) := G5.out.trans g6
  clear g6 C5 G5
  go_wp2_with fail
  refine (CN.out w6).mono ?_
  rintro en w7 ⟨tb, kb, rfl, htb, hkb, hT7, hM7, g7⟩
  have G7 : Hid (Grew w w7) := G6.out.trans g7
  have T7 : Hid (TbK w tb kb w7 0 NOF 0) := ⟨⟨NILS, 0, ⟨hT7, hM7, [], World.ownsRow_nil _ _ _ _⟩, Nat.le_refl _, fun g hg => by cases hg⟩, good_0, inj_0, Nat.le_trans G6.out.2 htb, Nat.le_trans G6.out.2 hkb⟩
  clear g7 htb hkb hT7 hM7 CN G6
  go_wp2_with fail
  refine (CA1.out w7 tb kb NOF 0 G7.out T7.out).mono ?_
  rintro en w8 ⟨g8, f8, n8, r8, p8, e8, rfl, T8'⟩
  have G8 : Hid (Grew w w8) := g8
  have T8 : Hid (TbK w tb kb w8 (0 + M.length) f8 n8) := T8'
  clear g8 T8' CA1 T7 G7
  go_wp2_with fail
  refine (CA2.out w8 tb kb f8 n8 G8.out T8.out).mono ?_
  rintro en w9 ⟨g9, f9, n9, r9, p9, e9, rfl, T9', hh⟩
  have G9 : Hid (Grew w w9) := g9
  have T9 : Hid (TbK w tb kb w9 (0 + M.length + L.length) f9 n9) := T9'
  clear g9 T9' CA2 T8 G8
  rcases hh with ⟨rfl, rfl⟩ | ⟨rfl, ids, hr9, hn9⟩
  · go_wp2_with fail
    go_ret
    exact ⟨rfl, G9.out⟩
  · obtain ⟨hil, hag⟩ := HAg.out f9 n9 ids T9.out.good T9.out.inj hn9
    have HN9 : Hid (numF stepD L [] (D0 f9 n9) = (some ids, D0 f9 n9)) := hn9
    obtain ⟨ia, ic, ei, _⟩ := row_max hr9
    subst ei
    have R9 : Hid (RowI w8.heap.size w9 (.slice ia ids.length ic) ids) := hr9
    have HIL : Hid (ids.length = cntT L) := hil
    have HAG : Hid (decide (atI ids (x : Int) = atI ids (y : Int)) = true) := hag
    clear hr9 hn9 hil hag HAg
    go_wp2_with fail
    refine (CA3.out w9 tb kb f9 n9 ids G9.out T9.out HN9.out).mono ?_
    rintro en w10 ⟨g10, r10, rfl, hr10, hk10⟩
    have G10 : Hid (Grew w w10) := g10
    have hra := hk10 _ _ _ R9.out
    obtain ⟨ja, jc, ej, _⟩ := row_max hr10
    subst ej
    have CI : Hid (∀ W, Grew w10 W → Calls Tryd.prog 10 #[.slice ia ids.length ic, .slice ja ids.length jc] W fun en w' => en = .returned (.bool true) ∧ Grew W w') := fun W g => ints_same (LI.grew (RowI.lst hra) g) (LI.grew (RowI.lst hr10) g) (by rw [HIL.out]; omega)
    obtain ⟨b5, o5, hb5, hc5, hE⟩ := Lst.get (RowI.lst hra) (by rw [HIL.out]; omega)
    subst hb5
    obtain ⟨X, hX⟩ : ∃ X, atI ids (x : Int) = X := ⟨_, rfl⟩
    obtain ⟨Y, hY⟩ : ∃ Y, atI ids (y : Int) = Y := ⟨_, rfl⟩
    have ga : ids[(x : Int).toNat]? = some X := by rw [← hX]; unfold atI; rw [List.getD_eq_getElem?_getD, List.getElem?_eq_getElem (by rw [HIL.out]; omega)]; rfl
    have gb : ids[(y : Int).toNat]? = some Y := by rw [← hY]; unfold atI; rw [List.getD_eq_getElem?_getD, List.getElem?_eq_getElem (by rw [HIL.out]; omega)]; rfl
    have ka := hE _ _ ga
    have kb' := hE _ _ gb
    unfold EI at ka kb'
    rw [Nat.mul_one] at ka kb'
    have hXY : decide (X = Y) = true := by rw [← hX, ← hY]; exact HAG.out
    have hla : (x : Int).toNat < ids.length := by rw [HIL.out]; omega
    have hlb : (y : Int).toNat < ids.length := by rw [HIL.out]; omega
    have da : decide ((x : Int).toNat < ids.length) = true := decide_eq_true hla
    have dbb : decide ((y : Int).toNat < ids.length) = true := decide_eq_true hlb
    have ea : decide ((x : Int) < (ids.length : Int)) = true := by simp; omega
    have eb : decide ((y : Int) < (ids.length : Int)) = true := by simp; omega
    have hlen : ids.length ≤ 1048576 := by rw [HIL.out]; omega
    have hb5 := lt_of_cell ka
    simp only [Int.toNat_natCast] at ka kb' hla hlb da dbb
    have hxm : ((x : Nat) : Int) < (ids.length : Int) := by omega
    have hym : ((y : Nat) : Int) < (ids.length : Int) := by omega
    clear hE ga gb hra hr10 hk10 g10 hX hY CA3 HN9 T9 G9 R9 HAG HIL
    obtain rfl : X = Y := by simpa using hXY
    clear hXY
    generalize ids.length = m at *
    go_wp2_with fail
    go_region_held3 (fun w' => w'.cell? ⟨b5, o5 + x, none⟩ = some (.int .i64 X) ∧ w'.cell? ⟨b5, o5 + y, none⟩ = some (.int .i64 X)) (go_keep)
      (first
       | (go_at_call 10
          refine (CI.out _ (by first | exact Grew.refl _ | exact (Grew.refl _).drew | exact (Grew.refl _).drewN _)).mono ?_
          rintro en w11 ⟨rfl, g11⟩
          have g11' : Grew w10 w11 := (by first | exact g11 | exact ((Grew.refl _).drew).trans g11 | exact ((Grew.refl _).drewN _).trans g11)
          have G11 : Hid (Grew w w11) := G10.out.trans g11'
          have j0 := cell_grew ka g11'
          have j1 := cell_grew kb' g11'
          have hb6 := lt_of_cell j0
          clear g11 g11'))
    all_goals go_wp2_with fail
    all_goals go_ret
    all_goals exact ⟨rfl, (by repeat (first | exact G11.out | refine Grew.alloc ?_ _ | refine Grew.drew ?_ | refine Grew.drewN ?_ _))⟩
set_option maxRecDepth 100000 in
set_option maxHeartbeats 2000000 in
theorem turns_f {w : World} {va ua : Option Addr} {vn vc un uc : Nat} {L M : List RT} {x y : Nat} {z : Int} {q r : Bool} (ht : Tab w) (s1 : SmC w (.slice va vn vc) (x : Int) (y : Int) false 0) (s2 : SmC w (.slice va vn vc) (y : Int) (x : Int) false 0) (s3 : SmC w (.slice va vn vc) (y : Int) z q 0) (s4 : SmC w (.slice va vn vc) (x : Int) z r 0) (s5 : SmC w (.slice va vn vc) (x : Int) (x : Int) true 0) (hv : LR w (.slice va vn vc) L) (hu : LR w (.slice ua un uc) M) (fl : Fit L) (fm : Fit M) (hc : closedP 0 L = true) (hx : (0 : Int) ≤ (x : Int) ∧ (x : Int) < (cntT L : Int)) (hy : (0 : Int) ≤ (y : Int) ∧ (y : Int) < (cntT L : Int)) (hp : false = decide (atI (idsU L) (x : Int) = atI (idsU L) (y : Int))) :
    Calls Tryd.prog 3 #[.slice va vn vc, .slice ua un uc, .agg #[.int .i64 (x : Int), .int .i64 (y : Int), .int .i64 z]] w fun en w' => en = .returned (.bool true) ∧ Grew w w' := by
  have CV : Hid (∀ W, Grew w W → Calls Tryd.prog 6 #[] W fun en w' => en = .returned (.bool true) ∧ Grew W w') := fun W g => alive_any (ht.grew g)
  have C1 : Hid (SmC w (.slice va vn vc) (x : Int) (y : Int) false 0) := s1
  have C2 : Hid (SmC w (.slice va vn vc) (y : Int) (x : Int) false 0) := s2
  have C3 : Hid (SmC w (.slice va vn vc) (y : Int) z q 0) := s3
  have C4 : Hid (SmC w (.slice va vn vc) (x : Int) z r 0) := s4
  have C5 : Hid (SmC w (.slice va vn vc) (x : Int) (x : Int) true 0) := s5
  have CN : Hid (∀ W, Calls Tryd.prog 8 #[] W fun en w' => ∃ tb kb, en = .returned (.pointer (some ⟨tb, 0, none⟩)) ∧ W.heap.size ≤ tb ∧ W.heap.size ≤ kb ∧ w'.heap[tb]? = some (tobj kb NILS) ∧ MapF w' kb 0 NOF ∧ Grew W w') := new_any
  have hLm := fm.sml.1
  have hLl := fl.sml.1
  have hcl := fl.sml.2.1
  have CA1 : Hid (∀ W tb kb f n, Grew w W → TbK w tb kb W 0 f n → Calls Tryd.prog 9 #[.pointer (some ⟨tb, 0, none⟩), .slice ua un uc] W fun en w' => Grew w w' ∧ ∃ (f' : FM) (n' : Nat) (r0 : Value) (p e : Int), en = .returned (.tuple #[r0, .int .i64 p, .int .i64 e]) ∧ TbK w tb kb w' (0 + M.length) f' n') := fun W tb kb f n g T =>
    (add_any ht g T (by decide) hu fm).mono fun en w' ⟨g', f', n', r0, p, e, h1, h2, _⟩ => ⟨g', f', n', r0, p, e, h1, h2⟩
  have CA2 : Hid (∀ W tb kb f n, Grew w W → TbK w tb kb W (0 + M.length) f n → Calls Tryd.prog 9 #[.pointer (some ⟨tb, 0, none⟩), .slice va vn vc] W fun en w' => Grew w w' ∧ ∃ (f' : FM) (n' : Nat) (r0 : Value) (p e : Int), en = .returned (.tuple #[r0, .int .i64 p, .int .i64 e]) ∧ TbK w tb kb w' (0 + M.length + L.length) f' n' ∧ ((r0 = NILS ∧ e = 2) ∨ (e = 0 ∧ ∃ ids, RowI W.heap.size w' r0 ids ∧ numF stepD L [] (D0 f' n') = (some ids, D0 f' n')))) := fun W tb kb f n g T =>
    (add_any ht g T (by omega) hv fl).mono fun en w' ⟨g', f', n', r0, p, e, h1, h2, h3⟩ => ⟨g', f', n', r0, p, e, h1, h2, h3 hc⟩
  have CA3 : Hid (∀ W tb kb f n ids, Grew w W → TbK w tb kb W (0 + M.length + L.length) f n → numF stepD L [] (D0 f n) = (some ids, D0 f n) → Calls Tryd.prog 9 #[.pointer (some ⟨tb, 0, none⟩), .slice va vn vc] W fun en w' => Grew w w' ∧ ∃ r0, en = .returned (.tuple #[r0, .int .i64 0, .int .i64 0]) ∧ RowI W.heap.size w' r0 ids ∧ ∀ B u l, RowI B W u l → RowI B w' u l) := fun W tb kb f n ids g T hn => add_again ht g T (by omega) hv fl hc hn
  have HAg : Hid (∀ f n ids, GoodT f n → InjT f → numF stepD L [] (D0 f n) = (some ids, D0 f n) → ids.length = cntT L ∧ decide (atI ids (x : Int) = atI ids (y : Int)) = false) := fun f n ids g i hn => by
    rw [hp]; exact ids_agree fl.sml hc (good_D0 g) (inj_D0 i) hn hx hy
  clear s1 s2 s3 s4 s5 ht hv hu fl fm hc hp
  go_enter Tryd.func3, Tryd.ntmps3
  go_wp2_with fail
  have g0 : Grew w (w.alloc (.cells #[.int .i64 (x : Int), .int .i64 (y : Int), .int .i64 z] 24)) := (Grew.refl w).alloc _
  have B0 : (w.alloc (.cells #[.int .i64 (x : Int), .int .i64 (y : Int), .int .i64 z] 24)).heap[w.heap.size]? = some (.cells #[.int .i64 (x : Int), .int .i64 (y : Int), .int .i64 z] 24 (0, 0)) := heap_alloc_last _ _
  generalize (w.alloc (.cells #[.int .i64 (x : Int), .int .i64 (y : Int), .int .i64 z] 24)) = W0 at *
  refine (CV.out W0 g0).mono ?_
  rintro en w1 ⟨rfl, g1⟩
  have G1 : Hid (Grew w w1) := g0.trans g1
  have B1 := g1.other B0
  have a0 := cell_of B1 0
  have a1 := cell_of B1 1
  have a2 := cell_of B1 2
  simp at a0 a1 a2
  have k0 := lt_of_obj B1
  clear g1 CV g0 B0 B1
  go_wp2_with fail
  go_region
  all_goals go_wp2_with fail
  refine (C1.out _ (by first | exact G1.out | exact G1.out.drew | exact G1.out.drewN _)).mono ?_
  rintro en w2 ⟨rfl, g2⟩
  have G2 : Hid (Grew w w2) := Grew.trans (by first | exact G1.out | exact G1.out.drew | exact G1.out.drewN _) g2
  clear g2 C1 G1 a0 a1 a2 k0
  go_wp2_with fail
  refine (C2.out w2 G2.out).mono ?_
  rintro en w3 ⟨rfl, g3⟩
  have G3 : Hid (Grew w w3) := G2.out.trans g3
  clear g3 C2 G2
  go_wp2_with fail
  refine (C3.out w3 G3.out).mono ?_
  rintro en w4 ⟨rfl, g4⟩
  have G4 : Hid (Grew w w4) := G3.out.trans g4
  clear g4 C3 G3
  go_wp2_with fail
  refine (C4.out w4 G4.out).mono ?_
  rintro en w5 ⟨rfl, g5⟩
  have G5 : Hid (Grew w w5) := G4.out.trans g5
  clear g5 C4 G4
  go_wp2_with fail
  refine (C5.out w5 G5.out).mono ?_
  rintro en w6 ⟨rfl, g6⟩
  have G6 : Hid (Grew w w6) := G5.out.trans g6
  clear g6 C5 G5
  go_wp2_with fail
  refine (CN.out w6).mono ?_
  rintro en w7 ⟨tb, kb, rfl, htb, hkb, hT7, hM7, g7⟩
  have G7 : Hid (Grew w w7) := G6.out.trans g7
  have T7 : Hid (TbK w tb kb w7 0 NOF 0) := ⟨⟨NILS, 0, ⟨hT7, hM7, [], World.ownsRow_nil _ _ _ _⟩, Nat.le_refl _, fun g hg => by cases hg⟩, good_0, inj_0, Nat.le_trans G6.out.2 htb, Nat.le_trans G6.out.2 hkb⟩
  clear g7 htb hkb hT7 hM7 CN G6
  go_wp2_with fail
  refine (CA1.out w7 tb kb NOF 0 G7.out T7.out).mono ?_
  rintro en w8 ⟨g8, f8, n8, r8, p8, e8, rfl, T8'⟩
  have G8 : Hid (Grew w w8) := g8
  have T8 : Hid (TbK w tb kb w8 (0 + M.length) f8 n8) := T8'
  clear g8 T8' CA1 T7 G7
  go_wp2_with fail
  refine (CA2.out w8 tb kb f8 n8 G8.out T8.out).mono ?_
  rintro en w9 ⟨g9, f9, n9, r9, p9, e9, rfl, T9', hh⟩
  have G9 : Hid (Grew w w9) := g9
  have T9 : Hid (TbK w tb kb w9 (0 + M.length + L.length) f9 n9) := T9'
  clear g9 T9' CA2 T8 G8
  rcases hh with ⟨rfl, rfl⟩ | ⟨rfl, ids, hr9, hn9⟩
  · go_wp2_with fail
    go_ret
    exact ⟨rfl, G9.out⟩
  · obtain ⟨hil, hag⟩ := HAg.out f9 n9 ids T9.out.good T9.out.inj hn9
    have HN9 : Hid (numF stepD L [] (D0 f9 n9) = (some ids, D0 f9 n9)) := hn9
    obtain ⟨ia, ic, ei, _⟩ := row_max hr9
    subst ei
    have R9 : Hid (RowI w8.heap.size w9 (.slice ia ids.length ic) ids) := hr9
    have HIL : Hid (ids.length = cntT L) := hil
    have HAG : Hid (decide (atI ids (x : Int) = atI ids (y : Int)) = false) := hag
    clear hr9 hn9 hil hag HAg
    go_wp2_with fail
    refine (CA3.out w9 tb kb f9 n9 ids G9.out T9.out HN9.out).mono ?_
    rintro en w10 ⟨g10, r10, rfl, hr10, hk10⟩
    have G10 : Hid (Grew w w10) := g10
    have hra := hk10 _ _ _ R9.out
    obtain ⟨ja, jc, ej, _⟩ := row_max hr10
    subst ej
    have CI : Hid (∀ W, Grew w10 W → Calls Tryd.prog 10 #[.slice ia ids.length ic, .slice ja ids.length jc] W fun en w' => en = .returned (.bool true) ∧ Grew W w') := fun W g => ints_same (LI.grew (RowI.lst hra) g) (LI.grew (RowI.lst hr10) g) (by rw [HIL.out]; omega)
    obtain ⟨b5, o5, hb5, hc5, hE⟩ := Lst.get (RowI.lst hra) (by rw [HIL.out]; omega)
    subst hb5
    obtain ⟨X, hX⟩ : ∃ X, atI ids (x : Int) = X := ⟨_, rfl⟩
    obtain ⟨Y, hY⟩ : ∃ Y, atI ids (y : Int) = Y := ⟨_, rfl⟩
    have ga : ids[(x : Int).toNat]? = some X := by rw [← hX]; unfold atI; rw [List.getD_eq_getElem?_getD, List.getElem?_eq_getElem (by rw [HIL.out]; omega)]; rfl
    have gb : ids[(y : Int).toNat]? = some Y := by rw [← hY]; unfold atI; rw [List.getD_eq_getElem?_getD, List.getElem?_eq_getElem (by rw [HIL.out]; omega)]; rfl
    have ka := hE _ _ ga
    have kb' := hE _ _ gb
    unfold EI at ka kb'
    rw [Nat.mul_one] at ka kb'
    have hXY : decide (X = Y) = false := by rw [← hX, ← hY]; exact HAG.out
    have hla : (x : Int).toNat < ids.length := by rw [HIL.out]; omega
    have hlb : (y : Int).toNat < ids.length := by rw [HIL.out]; omega
    have da : decide ((x : Int).toNat < ids.length) = true := decide_eq_true hla
    have dbb : decide ((y : Int).toNat < ids.length) = true := decide_eq_true hlb
    have ea : decide ((x : Int) < (ids.length : Int)) = true := by simp; omega
    have eb : decide ((y : Int) < (ids.length : Int)) = true := by simp; omega
    have hlen : ids.length ≤ 1048576 := by rw [HIL.out]; omega
    have hb5 := lt_of_cell ka
    simp only [Int.toNat_natCast] at ka kb' hla hlb da dbb
    have hxm : ((x : Nat) : Int) < (ids.length : Int) := by omega
    have hym : ((y : Nat) : Int) < (ids.length : Int) := by omega
    clear hE ga gb hra hr10 hk10 g10 hX hY CA3 HN9 T9 G9 R9 HAG HIL
    have hne : (X == Y) = false := by simpa using hXY
    clear hXY
    generalize ids.length = m at *
    go_wp2_with fail
    go_region_held3 (fun w' => w'.cell? ⟨b5, o5 + x, none⟩ = some (.int .i64 X) ∧ w'.cell? ⟨b5, o5 + y, none⟩ = some (.int .i64 Y)) (go_keep)
      (first
       | (go_at_call 10
          refine (CI.out _ (by first | exact Grew.refl _ | exact (Grew.refl _).drew | exact (Grew.refl _).drewN _)).mono ?_
          rintro en w11 ⟨rfl, g11⟩
          have g11' : Grew w10 w11 := (by first | exact g11 | exact ((Grew.refl _).drew).trans g11 | exact ((Grew.refl _).drewN _).trans g11)
          have G11 : Hid (Grew w w11) := G10.out.trans g11'
          have j0 := cell_grew ka g11'
          have j1 := cell_grew kb' g11'
          have hb6 := lt_of_cell j0
          clear g11 g11'))
    all_goals go_wp2_with fail
    all_goals go_ret
    all_goals exact ⟨rfl, (by repeat (first | exact G11.out | refine Grew.alloc ?_ _ | refine Grew.drew ?_ | refine Grew.drewN ?_ _))⟩
theorem turns_any {w : World} {v u : Value} {L M : List RT} {x y z : Int} (ht : Tab w) (hv : LR w v L) (hu : LR w u M) (fl : Fit L) (fm : Fit M) :
    Calls Tryd.prog 3 #[v, u, .agg #[.int .i64 x, .int .i64 y, .int .i64 z]] w fun en w' => en = .returned (.bool true) ∧ Grew w w' := by
  obtain ⟨va, vc, ev, _⟩ := hv.one
  subst ev
  obtain ⟨ua, uc, eu, _⟩ := hu.one
  subst eu
  have S : ∀ a b, SmC w (.slice va L.length vc) a b (sameR L a b) (sameE L a b) := fun a b W g => same_any (ht.grew g) (hv.grew g) fl
  by_cases h1 : sameE L x y = 0
  · by_cases h3 : sameE L y z = 0
    · obtain ⟨hc, hx, hy⟩ := sameE_yes h1
      obtain ⟨_, _, hz⟩ := sameE_yes h3
      have s1 := S x y
      have s2 := S y x
      have s3 := S y z
      have s4 := S x z
      have s5 := S x x
      rw [(sameE_0 hc hx hy).1, (sameE_0 hc hx hy).2] at s1
      rw [(sameE_0 hc hy hx).1, (sameE_0 hc hy hx).2] at s2
      rw [(sameE_0 hc hy hz).1, (sameE_0 hc hy hz).2] at s3
      rw [(sameE_0 hc hx hz).1, (sameE_0 hc hx hz).2] at s4
      rw [(sameE_0 hc hx hx).1, (sameE_0 hc hx hx).2] at s5
      have hx' : 0 ≤ x ∧ x < (cntT L : Int) := by have h := hx; unfold inL at h; simpa using h
      have hy' : 0 ≤ y ∧ y < (cntT L : Int) := by have h := hy; unfold inL at h; simpa using h
      obtain ⟨i, rfl⟩ : ∃ i : Nat, x = (i : Int) := ⟨x.toNat, by omega⟩
      obtain ⟨j, rfl⟩ : ∃ j : Nat, y = (j : Int) := ⟨y.toNat, by omega⟩
      rw [show decide (atI (idsU L) (i : Int) = atI (idsU L) (i : Int)) = true by simp] at s5
      by_cases e1 : atI (idsU L) (i : Int) = atI (idsU L) (j : Int)
      · rw [decide_eq_true e1] at s1
        rw [decide_eq_true e1.symm] at s2
        by_cases e2 : atI (idsU L) (j : Int) = atI (idsU L) z
        · rw [decide_eq_true e2] at s3
          rw [decide_eq_true (e1.trans e2)] at s4
          exact turns_tt ht s1 s2 s3 s4 s5 hv hu fl fm hc hx' hy' (decide_eq_true e1).symm
        · rw [decide_eq_false e2] at s3
          exact turns_tf ht s1 s2 s3 s4 s5 hv hu fl fm hc hx' hy' (decide_eq_true e1).symm
      · rw [decide_eq_false e1] at s1
        rw [decide_eq_false (fun h => e1 h.symm)] at s2
        exact turns_f ht s1 s2 s3 s4 s5 hv hu fl fm hc hx' hy' (decide_eq_false e1).symm
    · have s1 := S x y
      have s3 := S y z
      rw [h1] at s1
      rw [sameE_no h3] at s3
      exact turns_b ht s1 (S y x) s3 (S x z) h3
  · have s1 := S x y
    rw [sameE_no h1] at s1
    exact turns_a ht s1 (S y x) (S y z) (S x z) h1
end Go.Proofs.YthchhehmbldmdaaDoor
