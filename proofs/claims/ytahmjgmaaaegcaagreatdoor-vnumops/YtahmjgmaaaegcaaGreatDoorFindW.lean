/-
  The walk of the document's find; no statement is proved here.
-/
import Derived.Test.YtahmjgmaaaegcaaGreatDoorNthW
import Derived.Test.YtahmjgmaaaegcaaGreatDoorRefT
import Derived.Test.YtahmjgmaaaegcaaGreatDoorRefU
import Derived.Test.YtahmjgmaaaegcaaGreatDoorNameW
namespace Go.Proofs.YtahmjgmaaaegcaaGreatDoor
open Go.RowKit
set_option linter.unusedVariables false
set_option linter.unusedSimpArgs false

abbrev Row4 := Int × List UInt8 × List UInt8 × List UInt8
def R4 (r : Row4) : Value := .agg #[.int .i64 r.1, .string (BA r.2.1), .string (BA r.2.2.1), .string (BA r.2.2.2)]
def Z4 : Value := .agg #[.int .i64 0, .string ⟨#[]⟩, .string ⟨#[]⟩, .string ⟨#[]⟩]
def findV (o : Option (Row4 × List UInt8)) : Value := match o with
  | some x => .tuple #[R4 x.1, .string (BA x.2), .bool true]
  | none => .tuple #[Z4, .string ⟨#[]⟩, .bool false]
theorem rows_cell {w : World} {b : Nat} {L : List Row4} (h : w.heap[b]? = some (.cells (L.flatMap c4).toArray 88 (0, 0))) {k : Nat} {r : Row4} (hk : L[k]? = some r) :
    w.cell? ⟨b, k * 4, none⟩ = some (.int .i64 r.1) ∧ w.cell? ⟨b, k * 4 + 1, none⟩ = some (.string (BA r.2.1)) ∧ w.cell? ⟨b, k * 4 + 2, none⟩ = some (.string (BA r.2.2.1)) ∧ w.cell? ⟨b, k * 4 + 3, none⟩ = some (.string (BA r.2.2.2)) := by
  have h0 := flat_at c4 4 (fun _ => rfl) L k r 0 hk (by omega)
  have h1 := flat_at c4 4 (fun _ => rfl) L k r 1 hk (by omega)
  have h2 := flat_at c4 4 (fun _ => rfl) L k r 2 hk (by omega)
  have h3 := flat_at c4 4 (fun _ => rfl) L k r 3 hk (by omega)
  refine ⟨?_, ?_, ?_, ?_⟩ <;> rw [cell_of h, List.getElem?_toArray]
  · exact h0
  · exact h1
  · exact h2
  · exact h3
theorem TL_fine : ∀ r ∈ TL, 0 ≤ r.1 ∧ r.1 ≤ 70000 ∧ r.2.2.1.length ≤ 1000 ∧ r.2.1.length ≤ 1000 ∧ ((cutW r.2.2.1 []).all fun x => decide (x.length ≤ 1000)) = true := by decide +kernel
theorem XL_fine : ∀ r ∈ XL, 0 ≤ r.1 ∧ r.1 ≤ 70000 ∧ r.2.2.1.length ≤ 1000 ∧ r.2.1.length ≤ 1000 ∧ ((cutW r.2.2.1 []).all fun x => decide (x.length ≤ 1000)) = true := by decide +kernel
theorem TL_len : TL.length = 37 := by decide +kernel
theorem XL_len : XL.length = 26 := by decide +kernel
theorem find_out {op : Int} {L : List Row4} {k : Nat} {r : Row4} (h : L[k]? = some r) (ho : ¬ (r.1 ≤ op ∧ op < r.1 + 32)) : findR op (L.drop k) = findR op (L.drop (k + 1)) := by
  obtain ⟨h', he⟩ := List.getElem?_eq_some_iff.1 h
  rw [List.drop_eq_getElem_cons h', he, findR, if_neg ho]
theorem find_none {op : Int} {L : List Row4} {k : Nat} {r : Row4} (h : L[k]? = some r) (hi : r.1 ≤ op ∧ op < r.1 + 32) (hn : (cutW r.2.2.1 [])[(op - r.1).toNat]? = none) : findR op (L.drop k) = findR op (L.drop (k + 1)) := by
  obtain ⟨h', he⟩ := List.getElem?_eq_some_iff.1 h
  rw [List.drop_eq_getElem_cons h', he, findR, if_pos hi, hn]
theorem find_some {op : Int} {L : List Row4} {k : Nat} {r : Row4} {x : List UInt8} (h : L[k]? = some r) (hi : r.1 ≤ op ∧ op < r.1 + 32) (hn : (cutW r.2.2.1 [])[(op - r.1).toNat]? = some x) : findR op (L.drop k) = some (r, r.2.1 ++ x) := by
  obtain ⟨h', he⟩ := List.getElem?_eq_some_iff.1 h
  rw [List.drop_eq_getElem_cons h', he, findR, if_pos hi, hn]
theorem nth_int (s : List UInt8) (m : Int) (h0 : 0 ≤ m) (h1 : m ≤ 1000) (hl : s.length ≤ 60000) (w : World) :
    Calls Tryz.prog 110 #[.string (BA s), .int .i64 m] w fun e w' => e = .returned (nthV (cutW s [])[m.toNat]?) ∧ w' = w := by
  obtain ⟨n, rfl⟩ : ∃ n : Nat, m = n := ⟨m.toNat, by omega⟩
  rw [Int.toNat_natCast]
  exact nth_any s n hl (by omega) w
theorem set4_obj {w : World} {b : Nat} {x y z u : Value} {t : TypeId} {fr : Nat × Nat} (h : w.heap[b]? = some (.cells #[x, y, z, u] t fr)) (x' y' z' u' : Value) :
    ((((w.setCell ⟨b, 0, none⟩ x').setCell ⟨b, 1, none⟩ y').setCell ⟨b, 2, none⟩ z').setCell ⟨b, 3, none⟩ u').heap[b]? = some (.cells #[x', y', z', u'] t fr) := by
  have h1 := heap_set h 0 x'
  have h2 := heap_set h1 1 y'
  have h3 := heap_set h2 2 z'
  exact heap_set h3 3 u'
theorem grew_set4 {w w' : World} (g : Grew w w') (x y z u : Value) : Grew w ((((w'.setCell ⟨w.heap.size, 0, none⟩ x).setCell ⟨w.heap.size, 1, none⟩ y).setCell ⟨w.heap.size, 2, none⟩ z).setCell ⟨w.heap.size, 3, none⟩ u) :=
  (((g.set (p := ⟨w.heap.size, 0, none⟩) (by simp) _).set (p := ⟨w.heap.size, 1, none⟩) (by simp) _).set (p := ⟨w.heap.size, 2, none⟩) (by simp) _).set (p := ⟨w.heap.size, 3, none⟩) (by simp) _
def OZ : Obj := .cells #[.int .i64 0, .string ⟨#[]⟩, .string ⟨#[]⟩, .string ⟨#[]⟩] 88 (0, 0)
set_option maxRecDepth 100000 in
set_option maxHeartbeats 4000000 in
theorem find_lo (op : Int) (h0 : -9223372036854775808 ≤ op) (h1 : op < 208) (w : World) :
    Calls Tryz.prog 63 #[.int .i64 op] w fun e w' => e = .returned (findV (findR op TL)) ∧ Grew w w' := by
  have d0 : decide (208 ≤ op) = false := by simp; omega
  go_enter Tryz.func63, Tryz.ntmps63
  go_wp2_with fail
  refine (table_any _).mono ?_
  rintro e w1 ⟨rfl, hw1⟩
  have O0 : Hid (w1.heap[w.heap.size]? = some OZ) := by rw [hw1]; exact heap_alloc (heap_alloc_last w _) _
  have O1 : Hid (w1.heap[w.heap.size + 1]? = some (.cells (TL.flatMap c4).toArray 88 (0, 0))) := by
    rw [hw1]
    have := heap_alloc_last (w.alloc OZ) (.cells TABS 88 (0, 0))
    rw [alloc_size] at this
    exact this
  have G1 : Hid (Grew w w1) := by rw [hw1]; exact ((Grew.refl w).alloc _).alloc _
  clear hw1
  go_wp2_with fail
  go_loopw [6] (fun i wx => ∃ k : Nat, k ≤ 37 ∧ i = .int .i64 k ∧ findR op TL = findR op (TL.drop k) ∧ wx.heap[w.heap.size + 1]? = some (.cells (TL.flatMap c4).toArray 88 (0, 0)) ∧ wx.heap[w.heap.size]? = some OZ ∧ Grew w wx) (fun i _ => 37 - (intOf i).toNat)
  case atStart => exact ⟨0, by omega, rfl, by simp, O1.out, O0.out, G1.out⟩
  case round =>
    obtain ⟨k, hk, rfl, pf, p1, p0, pg⟩ := hrel
    have PF : Hid (findR op TL = findR op (TL.drop k)) := pf
    have P1 : Hid (wr.heap[w.heap.size + 1]? = some (.cells (TL.flatMap c4).toArray 88 (0, 0))) := p1
    have P0 : Hid (wr.heap[w.heap.size]? = some OZ) := p0
    have PG : Hid (Grew w wr) := pg
    have hb1 : w.heap.size + 1 < wr.heap.size := lt_of_obj p1
    have hb0 : w.heap.size < wr.heap.size := lt_of_obj p0
    have x0 := cell_of p0 0
    have x1 := cell_of p0 1
    have x2 := cell_of p0 2
    have x3 := cell_of p0 3
    have z0 := free_of p0 0
    have z1 := free_of p0 1
    have z2 := free_of p0 2
    have z3 := free_of p0 3
    simp at x0 x1 x2 x3
    clear O1 O0 G1 pf pg p0
    by_cases hlt : k < 37
    · obtain ⟨r, hr⟩ : ∃ r, TL[k]? = some r := ⟨TL[k]'(by rw [TL_len]; exact hlt), List.getElem?_eq_getElem (by rw [TL_len]; exact hlt)⟩
      obtain ⟨q0, q1, q2, q3⟩ := rows_cell p1 hr
      have HR : Hid (TL[k]? = some r) := hr
      obtain ⟨f1, f2, f3, f4, f5⟩ := TL_fine r (List.mem_of_getElem? hr)
      have F5 : Hid (∀ x ∈ cutW r.2.2.1 [], x.length ≤ 1000) := fun x hx => of_decide_eq_true (List.all_eq_true.1 f5 x hx)
      have hd : decide ((k : Int) < 37) = true := by simp; omega
      have hw32 : IntKind.i64.wrap (r.1 + 32) = r.1 + 32 := wrap_id (by omega) (by omega)
      clear p1 hr f5
      by_cases ha : op < r.1
      · have d1 : decide (op < r.1) = true := by simpa using ha
        go_wp2_with fail
        go_roundw
        case rel => exact ⟨k + 1, by omega, by go_num, by rw [PF.out, find_out HR.out (by omega)], P1.out, P0.out, PG.out⟩
        case measure => simp [intOf]; omega
      · have d1 : decide (op < r.1) = false := by simpa using ha
        by_cases hb : r.1 + 32 ≤ op
        · have d2 : decide (r.1 + 32 ≤ op) = true := by simpa using hb
          go_wp2_with fail
          go_roundw
          case rel => exact ⟨k + 1, by omega, by go_num, by rw [PF.out, find_out HR.out (by omega)], P1.out, P0.out, PG.out⟩
          case measure => simp [intOf]; omega
        · have d2 : decide (r.1 + 32 ≤ op) = false := by simpa using hb
          have hwr : IntKind.i64.wrap (op - r.1) = op - r.1 := wrap_id (by omega) (by omega)
          have CN : ∀ W, Calls Tryz.prog 110 #[.string (BA r.2.2.1), .int .i64 (op - r.1)] W fun e w' => e = .returned (nthV (cutW r.2.2.1 [])[(op - r.1).toNat]?) ∧ w' = W := fun W => nth_int r.2.2.1 (op - r.1) (by omega) (by omega) (by omega) W
          have CN' : ∀ W, Calls Tryz.prog 110 #[.string (BA r.2.2.1), .int .i64 (IntKind.i64.wrap (op - r.1))] W fun e w' => e = .returned (nthV (cutW r.2.2.1 [])[(op - r.1).toNat]?) ∧ w' = W := by rw [hwr]; exact CN
          have HIN : Hid (r.1 ≤ op ∧ op < r.1 + 32) := ⟨by omega, by omega⟩
          cases hx : (cutW r.2.2.1 [])[(op - r.1).toNat]? with
          | none =>
            rw [hx] at CN CN'
            simp only [nthV] at CN CN'
            have HX : Hid ((cutW r.2.2.1 [])[(op - r.1).toNat]? = none) := hx
            have HC : Hid _ := CN
            have HC' : Hid _ := CN'
            clear hx CN CN' hwr
            go_wp2_with fail
            go_quiet ((go_at_call 110; first | exact Calls.quiet_of_same (HC.out _) | exact Calls.quiet_of_same (HC'.out _)))
            all_goals go_wp2_with fail
            all_goals go_roundw
            case rel => exact ⟨k + 1, by omega, by go_num, by rw [PF.out, find_none HR.out HIN.out HX.out], P1.out, P0.out, PG.out.drewN _⟩
            case measure => simp [intOf]; omega
          | some x =>
            rw [hx] at CN CN'
            simp only [nthV] at CN CN'
            have HX : Hid ((cutW r.2.2.1 [])[(op - r.1).toNat]? = some x) := hx
            have HC : Hid _ := CN
            have HC' : Hid _ := CN'
            have hadd := str_add r.2.1 x f4 (F5.out x (List.mem_of_getElem? hx))
            have HRES : Hid (findR op TL = some (r, r.2.1 ++ x)) := by show _ = _; rw [PF.out, find_some HR.out HIN.out hx]
            clear hx CN CN' hwr
            go_wp2_with fail
            go_quiet ((go_at_call 110; first | exact Calls.quiet_of_same (HC.out _) | exact Calls.quiet_of_same (HC'.out _)))
            all_goals go_wp2_with fail
            all_goals go_region
            all_goals go_wp2_with fail
            have hobj := set4_obj (w := wr.drewN (nq + 1)) P0.out (.int .i64 r.1) (.string (BA r.2.1)) (.string (BA r.2.2.1)) (.string (BA r.2.2.2))
            have hgr := grew_set4 (PG.out.drewN (nq + 1)) (.int .i64 r.1) (.string (BA r.2.1)) (.string (BA r.2.2.1)) (.string (BA r.2.2.2))
            generalize ((((wr.drewN (nq + 1)).setCell ⟨w.heap.size, 0, none⟩ (.int .i64 r.1)).setCell ⟨w.heap.size, 1, none⟩ (.string (BA r.2.1))).setCell ⟨w.heap.size, 2, none⟩ (.string (BA r.2.2.1))).setCell ⟨w.heap.size, 3, none⟩ (.string (BA r.2.2.2)) = W at *
            have g0 := cell_of hobj 0
            have g1 := cell_of hobj 1
            have g2 := cell_of hobj 2
            have g3 := cell_of hobj 3
            simp at g0 g1 g2 g3
            rw [HRES.out]
            exact bodyPost_ret (v := findV (some (r, r.2.1 ++ x))) (by simp [results, Tryz.results63, go_sem, g0, g1, g2, g3, findV, R4]) rfl ⟨rfl, hgr⟩
    · have HN : Hid (findR op TL = none) := by
        show _ = _
        rw [PF.out, List.drop_eq_nil_of_le (by rw [TL_len]; omega)]
        rfl
      have hd : decide ((k : Int) < 37) = false := by simp; omega
      clear p1
      go_wp2_with fail
      have hobj := set4_obj P0.out (.int .i64 0) (.string ⟨#[]⟩) (.string ⟨#[]⟩) (.string ⟨#[]⟩)
      have hgr := grew_set4 PG.out (.int .i64 0) (.string ⟨#[]⟩) (.string ⟨#[]⟩) (.string ⟨#[]⟩)
      generalize (((wr.setCell ⟨w.heap.size, 0, none⟩ (.int .i64 0)).setCell ⟨w.heap.size, 1, none⟩ (.string ⟨#[]⟩)).setCell ⟨w.heap.size, 2, none⟩ (.string ⟨#[]⟩)).setCell ⟨w.heap.size, 3, none⟩ (.string ⟨#[]⟩) = W at *
      have g0 := cell_of hobj 0
      have g1 := cell_of hobj 1
      have g2 := cell_of hobj 2
      have g3 := cell_of hobj 3
      simp at g0 g1 g2 g3
      rw [HN.out]
      exact bodyPost_ret (v := findV none) (by simp [results, Tryz.results63, go_sem, g0, g1, g2, g3, findV, Z4]) rfl ⟨rfl, hgr⟩
set_option maxRecDepth 100000 in
set_option maxHeartbeats 4000000 in
theorem find_hi (op : Int) (h0 : 208 ≤ op) (h1 : op ≤ 9223372036854775807) (w : World) :
    Calls Tryz.prog 63 #[.int .i64 op] w fun e w' => e = .returned (findV (findR op XL)) ∧ Grew w w' := by
  have d0 : decide (208 ≤ op) = true := by simp; omega
  go_enter Tryz.func63, Tryz.ntmps63
  go_wp2_with fail
  refine (table_any _).mono ?_
  rintro e w1 ⟨rfl, hw1⟩
  have hs1 : w1.heap.size = w.heap.size + 2 := by rw [hw1]; simp
  have Q0 : Hid (w1.heap[w.heap.size]? = some OZ) := by rw [hw1]; exact heap_alloc (heap_alloc_last w _) _
  have QG : Hid (Grew w w1) := by rw [hw1]; exact ((Grew.refl w).alloc _).alloc _
  clear hw1
  go_wp2_with fail
  refine (refs_any _).mono ?_
  rintro e w2 ⟨rfl, hw2⟩
  have O0 : Hid (w2.heap[w.heap.size]? = some OZ) := by rw [hw2]; exact heap_alloc Q0.out _
  have O1 : Hid (w2.heap[w.heap.size + 2]? = some (.cells (XL.flatMap c4).toArray 88 (0, 0))) := by rw [hw2, ← hs1]; exact heap_alloc_last w1 _
  have G1 : Hid (Grew w w2) := by rw [hw2]; exact QG.out.alloc _
  clear hw2 Q0 QG
  go_wp2_with fail
  go_loopw [6] (fun i wx => ∃ k : Nat, k ≤ 26 ∧ i = .int .i64 k ∧ findR op XL = findR op (XL.drop k) ∧ wx.heap[w.heap.size + 2]? = some (.cells (XL.flatMap c4).toArray 88 (0, 0)) ∧ wx.heap[w.heap.size]? = some OZ ∧ Grew w wx) (fun i _ => 26 - (intOf i).toNat)
  case atStart => exact ⟨0, by omega, rfl, by simp, O1.out, O0.out, G1.out⟩
  case round =>
    obtain ⟨k, hk, rfl, pf, p1, p0, pg⟩ := hrel
    have PF : Hid (findR op XL = findR op (XL.drop k)) := pf
    have P1 : Hid (wr.heap[w.heap.size + 2]? = some (.cells (XL.flatMap c4).toArray 88 (0, 0))) := p1
    have P0 : Hid (wr.heap[w.heap.size]? = some OZ) := p0
    have PG : Hid (Grew w wr) := pg
    have hb1 : w.heap.size + 2 < wr.heap.size := lt_of_obj p1
    have hb0 : w.heap.size < wr.heap.size := lt_of_obj p0
    have x0 := cell_of p0 0
    have x1 := cell_of p0 1
    have x2 := cell_of p0 2
    have x3 := cell_of p0 3
    have z0 := free_of p0 0
    have z1 := free_of p0 1
    have z2 := free_of p0 2
    have z3 := free_of p0 3
    simp at x0 x1 x2 x3
    clear O1 O0 G1 pf pg p0
    by_cases hlt : k < 26
    · obtain ⟨r, hr⟩ : ∃ r, XL[k]? = some r := ⟨XL[k]'(by rw [XL_len]; exact hlt), List.getElem?_eq_getElem (by rw [XL_len]; exact hlt)⟩
      obtain ⟨q0, q1, q2, q3⟩ := rows_cell p1 hr
      have HR : Hid (XL[k]? = some r) := hr
      obtain ⟨f1, f2, f3, f4, f5⟩ := XL_fine r (List.mem_of_getElem? hr)
      have F5 : Hid (∀ x ∈ cutW r.2.2.1 [], x.length ≤ 1000) := fun x hx => of_decide_eq_true (List.all_eq_true.1 f5 x hx)
      have hd : decide ((k : Int) < 26) = true := by simp; omega
      have hw32 : IntKind.i64.wrap (r.1 + 32) = r.1 + 32 := wrap_id (by omega) (by omega)
      clear p1 hr f5
      by_cases ha : op < r.1
      · have d1 : decide (op < r.1) = true := by simpa using ha
        go_wp2_with fail
        go_roundw
        case rel => exact ⟨k + 1, by omega, by go_num, by rw [PF.out, find_out HR.out (by omega)], P1.out, P0.out, PG.out⟩
        case measure => simp [intOf]; omega
      · have d1 : decide (op < r.1) = false := by simpa using ha
        by_cases hb : r.1 + 32 ≤ op
        · have d2 : decide (r.1 + 32 ≤ op) = true := by simpa using hb
          go_wp2_with fail
          go_roundw
          case rel => exact ⟨k + 1, by omega, by go_num, by rw [PF.out, find_out HR.out (by omega)], P1.out, P0.out, PG.out⟩
          case measure => simp [intOf]; omega
        · have d2 : decide (r.1 + 32 ≤ op) = false := by simpa using hb
          have hwr : IntKind.i64.wrap (op - r.1) = op - r.1 := wrap_id (by omega) (by omega)
          have CN : ∀ W, Calls Tryz.prog 110 #[.string (BA r.2.2.1), .int .i64 (op - r.1)] W fun e w' => e = .returned (nthV (cutW r.2.2.1 [])[(op - r.1).toNat]?) ∧ w' = W := fun W => nth_int r.2.2.1 (op - r.1) (by omega) (by omega) (by omega) W
          have CN' : ∀ W, Calls Tryz.prog 110 #[.string (BA r.2.2.1), .int .i64 (IntKind.i64.wrap (op - r.1))] W fun e w' => e = .returned (nthV (cutW r.2.2.1 [])[(op - r.1).toNat]?) ∧ w' = W := by rw [hwr]; exact CN
          have HIN : Hid (r.1 ≤ op ∧ op < r.1 + 32) := ⟨by omega, by omega⟩
          cases hx : (cutW r.2.2.1 [])[(op - r.1).toNat]? with
          | none =>
            rw [hx] at CN CN'
            simp only [nthV] at CN CN'
            have HX : Hid ((cutW r.2.2.1 [])[(op - r.1).toNat]? = none) := hx
            have HC : Hid _ := CN
            have HC' : Hid _ := CN'
            clear hx CN CN' hwr
            go_wp2_with fail
            go_quiet ((go_at_call 110; first | exact Calls.quiet_of_same (HC.out _) | exact Calls.quiet_of_same (HC'.out _)))
            all_goals go_wp2_with fail
            all_goals go_roundw
            case rel => exact ⟨k + 1, by omega, by go_num, by rw [PF.out, find_none HR.out HIN.out HX.out], P1.out, P0.out, PG.out.drewN _⟩
            case measure => simp [intOf]; omega
          | some x =>
            rw [hx] at CN CN'
            simp only [nthV] at CN CN'
            have HX : Hid ((cutW r.2.2.1 [])[(op - r.1).toNat]? = some x) := hx
            have HC : Hid _ := CN
            have HC' : Hid _ := CN'
            have hadd := str_add r.2.1 x f4 (F5.out x (List.mem_of_getElem? hx))
            have HRES : Hid (findR op XL = some (r, r.2.1 ++ x)) := by show _ = _; rw [PF.out, find_some HR.out HIN.out hx]
            clear hx CN CN' hwr
            go_wp2_with fail
            go_quiet ((go_at_call 110; first | exact Calls.quiet_of_same (HC.out _) | exact Calls.quiet_of_same (HC'.out _)))
            all_goals go_wp2_with fail
            all_goals go_region
            all_goals go_wp2_with fail
            have hobj := set4_obj (w := wr.drewN (nq + 1)) P0.out (.int .i64 r.1) (.string (BA r.2.1)) (.string (BA r.2.2.1)) (.string (BA r.2.2.2))
            have hgr := grew_set4 (PG.out.drewN (nq + 1)) (.int .i64 r.1) (.string (BA r.2.1)) (.string (BA r.2.2.1)) (.string (BA r.2.2.2))
            generalize ((((wr.drewN (nq + 1)).setCell ⟨w.heap.size, 0, none⟩ (.int .i64 r.1)).setCell ⟨w.heap.size, 1, none⟩ (.string (BA r.2.1))).setCell ⟨w.heap.size, 2, none⟩ (.string (BA r.2.2.1))).setCell ⟨w.heap.size, 3, none⟩ (.string (BA r.2.2.2)) = W at *
            have g0 := cell_of hobj 0
            have g1 := cell_of hobj 1
            have g2 := cell_of hobj 2
            have g3 := cell_of hobj 3
            simp at g0 g1 g2 g3
            rw [HRES.out]
            exact bodyPost_ret (v := findV (some (r, r.2.1 ++ x))) (by simp [results, Tryz.results63, go_sem, g0, g1, g2, g3, findV, R4]) rfl ⟨rfl, hgr⟩
    · have HN : Hid (findR op XL = none) := by
        show _ = _
        rw [PF.out, List.drop_eq_nil_of_le (by rw [XL_len]; omega)]
        rfl
      have hd : decide ((k : Int) < 26) = false := by simp; omega
      clear p1
      go_wp2_with fail
      have hobj := set4_obj P0.out (.int .i64 0) (.string ⟨#[]⟩) (.string ⟨#[]⟩) (.string ⟨#[]⟩)
      have hgr := grew_set4 PG.out (.int .i64 0) (.string ⟨#[]⟩) (.string ⟨#[]⟩) (.string ⟨#[]⟩)
      generalize (((wr.setCell ⟨w.heap.size, 0, none⟩ (.int .i64 0)).setCell ⟨w.heap.size, 1, none⟩ (.string ⟨#[]⟩)).setCell ⟨w.heap.size, 2, none⟩ (.string ⟨#[]⟩)).setCell ⟨w.heap.size, 3, none⟩ (.string ⟨#[]⟩) = W at *
      have g0 := cell_of hobj 0
      have g1 := cell_of hobj 1
      have g2 := cell_of hobj 2
      have g3 := cell_of hobj 3
      simp at g0 g1 g2 g3
      rw [HN.out]
      exact bodyPost_ret (v := findV none) (by simp [results, Tryz.results63, go_sem, g0, g1, g2, g3, findV, Z4]) rfl ⟨rfl, hgr⟩
theorem find_any (op : Int) (h0 : -9223372036854775808 ≤ op) (h1 : op ≤ 9223372036854775807) (w : World) :
    Calls Tryz.prog 63 #[.int .i64 op] w fun e w' => e = .returned (findV (findR op (rowsR op))) ∧ Grew w w' := by
  unfold rowsR
  by_cases h : 208 ≤ op
  · rw [if_pos h]; exact find_hi op h h1 w
  · rw [if_neg h]; exact find_lo op h0 (by omega) w
set_option maxRecDepth 100000 in
set_option maxHeartbeats 1000000 in
theorem refForm_any (op : Int) (h0 : -9223372036854775808 ≤ op) (h1 : op ≤ 9223372036854775807) (w : World) :
    Calls Tryz.prog 24 #[.int .i64 op] w fun e w' => e = .returned (.string (BA (formD op))) ∧ Grew w w' := by
  have C := find_any op h0 h1 w
  unfold formD
  cases hf : findR op (rowsR op) with
  | none =>
    rw [hf] at C
    simp only [findV, Z4] at C
    clear hf
    go_enter Tryz.func24, Tryz.ntmps24
    go_wp2_with fail
    refine C.mono ?_
    rintro e w1 ⟨rfl, g1⟩
    have G1 : Hid (Grew w w1) := g1
    clear g1 C
    go_wp2_with fail
    go_ret
    exact ⟨rfl, G1.out.alloc _⟩
  | some x =>
    rw [hf] at C
    obtain ⟨r, y⟩ := x
    simp only [findV, R4] at C
    clear hf
    go_enter Tryz.func24, Tryz.ntmps24
    go_wp2_with fail
    refine C.mono ?_
    rintro e w1 ⟨rfl, g1⟩
    have G1 : Hid (Grew w w1) := g1
    clear g1 C
    go_wp2_with fail
    go_ret
    exact ⟨rfl, G1.out.alloc _⟩
end Go.Proofs.YtahmjgmaaaegcaaGreatDoor
