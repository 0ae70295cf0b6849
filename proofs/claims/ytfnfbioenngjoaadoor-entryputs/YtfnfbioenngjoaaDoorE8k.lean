/-
  An extern's kind written; what the document's blank answers; no statement is proved here.
-/
import Derived.Test.YtfnfbioenngjoaaDoorE8x
import Derived.Test.YtfnfbioenngjoaaDoorE8l
namespace Go.Proofs.YtfnfbioenngjoaaDoor
open Go.RowKit
set_option linter.unusedVariables false
set_option linter.unusedSimpArgs false
set_option linter.constructorNameAsVariable false

def kindW (k : Int) : Except Nat (List Int) := if 0 ≤ k ∧ k ≤ 4 then .ok [k] else .error 4
set_option maxRecDepth 100000 in
set_option maxHeartbeats 1000000 in
theorem kind2 {b B : Nat} {w : World} {l : List Int} (h : WS b B w l) (k : Int) (hl : l.length ≤ 17592186040000) :
    Calls Tryd.prog 39 #[.pointer (some ⟨b, 0, none⟩), .int .i64 k] w (W2 b B w l (kindW k)) := by
  have H : Hid (WS b B w l) := h
  have C1 := need_yes h
  have C2 := need_no h
  clear h
  unfold kindW
  by_cases hk : 0 ≤ k ∧ k ≤ 4
  · rw [if_pos hk]
    have d0 : decide (0 ≤ k) = true := by simp; omega
    have d1 : decide (k ≤ 4) = true := by simp; omega
    have hw : IntKind.u8.wrap k = k := by rw [IntKind.wrap_u8]; omega
    clear C2
    go_enter Tryd.func39, Tryd.ntmps39
    go_wp2_with fail
    refine C1.mono ?_
    rintro en w9 ⟨rfl, h9⟩
    obtain rfl := h9.symm
    clear C1
    go_wp2_with fail
    refine (W2.okc (put2 (r := [k]) (H.out.grew ((Grew.refl _).alloc _)) (reads_new _ _ _) (by simp; omega)) rfl).mono ?_
    rintro en w1 ⟨rfl, t1, s1⟩
    have T1 : Hid (WT b B w w1) := (WT.of_grew ((Grew.refl _).alloc _)).trans t1
    have S1 : Hid (WS b B w1 (l ++ [k])) := s1
    clear t1 s1
    go_wp2_with fail
    go_end0
    exact ⟨rfl, T1.out, S1.out⟩
  · rw [if_neg hk]
    clear C1
    by_cases h0 : 0 ≤ k
    · have d0 : decide (0 ≤ k) = true := by simp; omega
      have d1 : decide (k ≤ 4) = false := by simp; omega
      go_enter Tryd.func39, Tryd.ntmps39
      go_wp2_with fail
      refine C2.mono ?_
      rintro en w9 ⟨⟨p, rfl⟩, h9⟩
      obtain rfl := h9.symm
      go_wp2_with fail
      exact ⟨rfl, ⟨p, rfl⟩, WT.refl _ _ _⟩
    · have d0 : decide (0 ≤ k) = false := by simp; omega
      go_enter Tryd.func39, Tryd.ntmps39
      go_wp2_with fail
      refine C2.mono ?_
      rintro en w9 ⟨⟨p, rfl⟩, h9⟩
      obtain rfl := h9.symm
      go_wp2_with fail
      exact ⟨rfl, ⟨p, rfl⟩, WT.refl _ _ _⟩
set_option maxRecDepth 100000 in
set_option maxHeartbeats 2000000 in
theorem blank0_any (k ty tn th tp tq mp mq gn gh : Int) (tz tw tm mw mm gz gm : Bool) (w : World) :
    Calls Tryd.prog 18 #[.agg #[.int .i64 0, .int .i64 ty, .int .i64 tn, .bool tz, .int .i64 th, .bool tw, .int .u64 tp, .int .u64 tq, .bool tm, .bool mw, .int .u64 mp, .int .u64 mq, .bool mm, .int .i64 gn, .bool gz, .int .i64 gh, .bool gm], .int .i64 0] w fun en w' => en = .returned (.bool ((zT tn tz th tw tp tq tm) && ((zM mw mp mq mm) && (zG gn gz gh gm)))) ∧ Grew w w' := by
  obtain ⟨es, hes⟩ : ∃ es : Array Value, es = #[.int .i64 0, .int .i64 ty, .int .i64 tn, .bool tz, .int .i64 th, .bool tw, .int .u64 tp, .int .u64 tq, .bool tm, .bool mw, .int .u64 mp, .int .u64 mq, .bool mm, .int .i64 gn, .bool gz, .int .i64 gh, .bool gm] := ⟨_, rfl⟩
  rw [← hes]
  have a0 := heap_alloc_last w (.cells es 32)
  have G : Hid (Grew w (w.alloc (.cells es 32))) := (Grew.refl w).alloc _
  have e2 : es[2]? = some (.int .i64 tn) := by rw [hes]; rfl
  have c2 := (cell_of a0 2).trans e2
  clear e2
  have e3 : es[3]? = some (.bool tz) := by rw [hes]; rfl
  have c3 := (cell_of a0 3).trans e3
  clear e3
  have e4 : es[4]? = some (.int .i64 th) := by rw [hes]; rfl
  have c4 := (cell_of a0 4).trans e4
  clear e4
  have e5 : es[5]? = some (.bool tw) := by rw [hes]; rfl
  have c5 := (cell_of a0 5).trans e5
  clear e5
  have e6 : es[6]? = some (.int .u64 tp) := by rw [hes]; rfl
  have c6 := (cell_of a0 6).trans e6
  clear e6
  have e7 : es[7]? = some (.int .u64 tq) := by rw [hes]; rfl
  have c7 := (cell_of a0 7).trans e7
  clear e7
  have e8 : es[8]? = some (.bool tm) := by rw [hes]; rfl
  have c8 := (cell_of a0 8).trans e8
  clear e8
  have e9 : es[9]? = some (.bool mw) := by rw [hes]; rfl
  have c9 := (cell_of a0 9).trans e9
  clear e9
  have e10 : es[10]? = some (.int .u64 mp) := by rw [hes]; rfl
  have c10 := (cell_of a0 10).trans e10
  clear e10
  have e11 : es[11]? = some (.int .u64 mq) := by rw [hes]; rfl
  have c11 := (cell_of a0 11).trans e11
  clear e11
  have e12 : es[12]? = some (.bool mm) := by rw [hes]; rfl
  have c12 := (cell_of a0 12).trans e12
  clear e12
  have e13 : es[13]? = some (.int .i64 gn) := by rw [hes]; rfl
  have c13 := (cell_of a0 13).trans e13
  clear e13
  have e14 : es[14]? = some (.bool gz) := by rw [hes]; rfl
  have c14 := (cell_of a0 14).trans e14
  clear e14
  have e15 : es[15]? = some (.int .i64 gh) := by rw [hes]; rfl
  have c15 := (cell_of a0 15).trans e15
  clear e15
  have e16 : es[16]? = some (.bool gm) := by rw [hes]; rfl
  have c16 := (cell_of a0 16).trans e16
  clear e16
  have qT := eqzT tn tz th tw tp tq tm
  have qM := eqzM mw mp mq mm
  have qG := eqzG gn gz gh gm
  clear hes a0
  generalize zT tn tz th tw tp tq tm = vT at *
  generalize zM mw mp mq mm = vM at *
  generalize zG gn gz gh gm = vG at *
  cases vT <;> cases vM <;> cases vG <;> (
    go_enter Tryd.func18, Tryd.ntmps18
    go_wp2_with fail
    go_ret
    exact ⟨rfl, G.out⟩)
set_option maxRecDepth 100000 in
set_option maxHeartbeats 2000000 in
theorem blank1_any (k ty tn th tp tq mp mq gn gh : Int) (tz tw tm mw mm gz gm : Bool) (w : World) :
    Calls Tryd.prog 18 #[.agg #[.int .i64 1, .int .i64 ty, .int .i64 tn, .bool tz, .int .i64 th, .bool tw, .int .u64 tp, .int .u64 tq, .bool tm, .bool mw, .int .u64 mp, .int .u64 mq, .bool mm, .int .i64 gn, .bool gz, .int .i64 gh, .bool gm], .int .i64 1] w fun en w' => en = .returned (.bool ((ty == 0) && ((zM mw mp mq mm) && (zG gn gz gh gm)))) ∧ Grew w w' := by
  obtain ⟨es, hes⟩ : ∃ es : Array Value, es = #[.int .i64 1, .int .i64 ty, .int .i64 tn, .bool tz, .int .i64 th, .bool tw, .int .u64 tp, .int .u64 tq, .bool tm, .bool mw, .int .u64 mp, .int .u64 mq, .bool mm, .int .i64 gn, .bool gz, .int .i64 gh, .bool gm] := ⟨_, rfl⟩
  rw [← hes]
  have a0 := heap_alloc_last w (.cells es 32)
  have G : Hid (Grew w (w.alloc (.cells es 32))) := (Grew.refl w).alloc _
  have e1 : es[1]? = some (.int .i64 ty) := by rw [hes]; rfl
  have c1 := (cell_of a0 1).trans e1
  clear e1
  have e9 : es[9]? = some (.bool mw) := by rw [hes]; rfl
  have c9 := (cell_of a0 9).trans e9
  clear e9
  have e10 : es[10]? = some (.int .u64 mp) := by rw [hes]; rfl
  have c10 := (cell_of a0 10).trans e10
  clear e10
  have e11 : es[11]? = some (.int .u64 mq) := by rw [hes]; rfl
  have c11 := (cell_of a0 11).trans e11
  clear e11
  have e12 : es[12]? = some (.bool mm) := by rw [hes]; rfl
  have c12 := (cell_of a0 12).trans e12
  clear e12
  have e13 : es[13]? = some (.int .i64 gn) := by rw [hes]; rfl
  have c13 := (cell_of a0 13).trans e13
  clear e13
  have e14 : es[14]? = some (.bool gz) := by rw [hes]; rfl
  have c14 := (cell_of a0 14).trans e14
  clear e14
  have e15 : es[15]? = some (.int .i64 gh) := by rw [hes]; rfl
  have c15 := (cell_of a0 15).trans e15
  clear e15
  have e16 : es[16]? = some (.bool gm) := by rw [hes]; rfl
  have c16 := (cell_of a0 16).trans e16
  clear e16
  have qM := eqzM mw mp mq mm
  have qG := eqzG gn gz gh gm
  clear hes a0
  generalize zM mw mp mq mm = vM at *
  generalize zG gn gz gh gm = vG at *
  cases hy : (ty == 0) <;> cases vM <;> cases vG <;> (
    go_enter Tryd.func18, Tryd.ntmps18
    go_wp2_with fail
    go_ret
    exact ⟨rfl, G.out⟩)
set_option maxRecDepth 100000 in
set_option maxHeartbeats 2000000 in
theorem blank2_any (k ty tn th tp tq mp mq gn gh : Int) (tz tw tm mw mm gz gm : Bool) (w : World) :
    Calls Tryd.prog 18 #[.agg #[.int .i64 2, .int .i64 ty, .int .i64 tn, .bool tz, .int .i64 th, .bool tw, .int .u64 tp, .int .u64 tq, .bool tm, .bool mw, .int .u64 mp, .int .u64 mq, .bool mm, .int .i64 gn, .bool gz, .int .i64 gh, .bool gm], .int .i64 2] w fun en w' => en = .returned (.bool ((ty == 0) && ((zT tn tz th tw tp tq tm) && (zG gn gz gh gm)))) ∧ Grew w w' := by
  obtain ⟨es, hes⟩ : ∃ es : Array Value, es = #[.int .i64 2, .int .i64 ty, .int .i64 tn, .bool tz, .int .i64 th, .bool tw, .int .u64 tp, .int .u64 tq, .bool tm, .bool mw, .int .u64 mp, .int .u64 mq, .bool mm, .int .i64 gn, .bool gz, .int .i64 gh, .bool gm] := ⟨_, rfl⟩
  rw [← hes]
  have a0 := heap_alloc_last w (.cells es 32)
  have G : Hid (Grew w (w.alloc (.cells es 32))) := (Grew.refl w).alloc _
  have e1 : es[1]? = some (.int .i64 ty) := by rw [hes]; rfl
  have c1 := (cell_of a0 1).trans e1
  clear e1
  have e2 : es[2]? = some (.int .i64 tn) := by rw [hes]; rfl
  have c2 := (cell_of a0 2).trans e2
  clear e2
  have e3 : es[3]? = some (.bool tz) := by rw [hes]; rfl
  have c3 := (cell_of a0 3).trans e3
  clear e3
  have e4 : es[4]? = some (.int .i64 th) := by rw [hes]; rfl
  have c4 := (cell_of a0 4).trans e4
  clear e4
  have e5 : es[5]? = some (.bool tw) := by rw [hes]; rfl
  have c5 := (cell_of a0 5).trans e5
  clear e5
  have e6 : es[6]? = some (.int .u64 tp) := by rw [hes]; rfl
  have c6 := (cell_of a0 6).trans e6
  clear e6
  have e7 : es[7]? = some (.int .u64 tq) := by rw [hes]; rfl
  have c7 := (cell_of a0 7).trans e7
  clear e7
  have e8 : es[8]? = some (.bool tm) := by rw [hes]; rfl
  have c8 := (cell_of a0 8).trans e8
  clear e8
  have e13 : es[13]? = some (.int .i64 gn) := by rw [hes]; rfl
  have c13 := (cell_of a0 13).trans e13
  clear e13
  have e14 : es[14]? = some (.bool gz) := by rw [hes]; rfl
  have c14 := (cell_of a0 14).trans e14
  clear e14
  have e15 : es[15]? = some (.int .i64 gh) := by rw [hes]; rfl
  have c15 := (cell_of a0 15).trans e15
  clear e15
  have e16 : es[16]? = some (.bool gm) := by rw [hes]; rfl
  have c16 := (cell_of a0 16).trans e16
  clear e16
  have qT := eqzT tn tz th tw tp tq tm
  have qG := eqzG gn gz gh gm
  clear hes a0
  generalize zT tn tz th tw tp tq tm = vT at *
  generalize zG gn gz gh gm = vG at *
  cases hy : (ty == 0) <;> cases vT <;> cases vG <;> (
    go_enter Tryd.func18, Tryd.ntmps18
    go_wp2_with fail
    go_ret
    exact ⟨rfl, G.out⟩)
set_option maxRecDepth 100000 in
set_option maxHeartbeats 2000000 in
theorem blank3_any (k ty tn th tp tq mp mq gn gh : Int) (tz tw tm mw mm gz gm : Bool) (w : World) :
    Calls Tryd.prog 18 #[.agg #[.int .i64 3, .int .i64 ty, .int .i64 tn, .bool tz, .int .i64 th, .bool tw, .int .u64 tp, .int .u64 tq, .bool tm, .bool mw, .int .u64 mp, .int .u64 mq, .bool mm, .int .i64 gn, .bool gz, .int .i64 gh, .bool gm], .int .i64 3] w fun en w' => en = .returned (.bool ((ty == 0) && ((zT tn tz th tw tp tq tm) && (zM mw mp mq mm)))) ∧ Grew w w' := by
  obtain ⟨es, hes⟩ : ∃ es : Array Value, es = #[.int .i64 3, .int .i64 ty, .int .i64 tn, .bool tz, .int .i64 th, .bool tw, .int .u64 tp, .int .u64 tq, .bool tm, .bool mw, .int .u64 mp, .int .u64 mq, .bool mm, .int .i64 gn, .bool gz, .int .i64 gh, .bool gm] := ⟨_, rfl⟩
  rw [← hes]
  have a0 := heap_alloc_last w (.cells es 32)
  have G : Hid (Grew w (w.alloc (.cells es 32))) := (Grew.refl w).alloc _
  have e1 : es[1]? = some (.int .i64 ty) := by rw [hes]; rfl
  have c1 := (cell_of a0 1).trans e1
  clear e1
  have e2 : es[2]? = some (.int .i64 tn) := by rw [hes]; rfl
  have c2 := (cell_of a0 2).trans e2
  clear e2
  have e3 : es[3]? = some (.bool tz) := by rw [hes]; rfl
  have c3 := (cell_of a0 3).trans e3
  clear e3
  have e4 : es[4]? = some (.int .i64 th) := by rw [hes]; rfl
  have c4 := (cell_of a0 4).trans e4
  clear e4
  have e5 : es[5]? = some (.bool tw) := by rw [hes]; rfl
  have c5 := (cell_of a0 5).trans e5
  clear e5
  have e6 : es[6]? = some (.int .u64 tp) := by rw [hes]; rfl
  have c6 := (cell_of a0 6).trans e6
  clear e6
  have e7 : es[7]? = some (.int .u64 tq) := by rw [hes]; rfl
  have c7 := (cell_of a0 7).trans e7
  clear e7
  have e8 : es[8]? = some (.bool tm) := by rw [hes]; rfl
  have c8 := (cell_of a0 8).trans e8
  clear e8
  have e9 : es[9]? = some (.bool mw) := by rw [hes]; rfl
  have c9 := (cell_of a0 9).trans e9
  clear e9
  have e10 : es[10]? = some (.int .u64 mp) := by rw [hes]; rfl
  have c10 := (cell_of a0 10).trans e10
  clear e10
  have e11 : es[11]? = some (.int .u64 mq) := by rw [hes]; rfl
  have c11 := (cell_of a0 11).trans e11
  clear e11
  have e12 : es[12]? = some (.bool mm) := by rw [hes]; rfl
  have c12 := (cell_of a0 12).trans e12
  clear e12
  have qT := eqzT tn tz th tw tp tq tm
  have qM := eqzM mw mp mq mm
  clear hes a0
  generalize zT tn tz th tw tp tq tm = vT at *
  generalize zM mw mp mq mm = vM at *
  cases hy : (ty == 0) <;> cases vT <;> cases vM <;> (
    go_enter Tryd.func18, Tryd.ntmps18
    go_wp2_with fail
    go_ret
    exact ⟨rfl, G.out⟩)
set_option maxRecDepth 100000 in
set_option maxHeartbeats 2000000 in
theorem blank4_any (k ty tn th tp tq mp mq gn gh : Int) (tz tw tm mw mm gz gm : Bool) (w : World) :
    Calls Tryd.prog 18 #[.agg #[.int .i64 4, .int .i64 ty, .int .i64 tn, .bool tz, .int .i64 th, .bool tw, .int .u64 tp, .int .u64 tq, .bool tm, .bool mw, .int .u64 mp, .int .u64 mq, .bool mm, .int .i64 gn, .bool gz, .int .i64 gh, .bool gm], .int .i64 4] w fun en w' => en = .returned (.bool ((zT tn tz th tw tp tq tm) && ((zM mw mp mq mm) && (zG gn gz gh gm)))) ∧ Grew w w' := by
  obtain ⟨es, hes⟩ : ∃ es : Array Value, es = #[.int .i64 4, .int .i64 ty, .int .i64 tn, .bool tz, .int .i64 th, .bool tw, .int .u64 tp, .int .u64 tq, .bool tm, .bool mw, .int .u64 mp, .int .u64 mq, .bool mm, .int .i64 gn, .bool gz, .int .i64 gh, .bool gm] := ⟨_, rfl⟩
  rw [← hes]
  have a0 := heap_alloc_last w (.cells es 32)
  have G : Hid (Grew w (w.alloc (.cells es 32))) := (Grew.refl w).alloc _
  have e2 : es[2]? = some (.int .i64 tn) := by rw [hes]; rfl
  have c2 := (cell_of a0 2).trans e2
  clear e2
  have e3 : es[3]? = some (.bool tz) := by rw [hes]; rfl
  have c3 := (cell_of a0 3).trans e3
  clear e3
  have e4 : es[4]? = some (.int .i64 th) := by rw [hes]; rfl
  have c4 := (cell_of a0 4).trans e4
  clear e4
  have e5 : es[5]? = some (.bool tw) := by rw [hes]; rfl
  have c5 := (cell_of a0 5).trans e5
  clear e5
  have e6 : es[6]? = some (.int .u64 tp) := by rw [hes]; rfl
  have c6 := (cell_of a0 6).trans e6
  clear e6
  have e7 : es[7]? = some (.int .u64 tq) := by rw [hes]; rfl
  have c7 := (cell_of a0 7).trans e7
  clear e7
  have e8 : es[8]? = some (.bool tm) := by rw [hes]; rfl
  have c8 := (cell_of a0 8).trans e8
  clear e8
  have e9 : es[9]? = some (.bool mw) := by rw [hes]; rfl
  have c9 := (cell_of a0 9).trans e9
  clear e9
  have e10 : es[10]? = some (.int .u64 mp) := by rw [hes]; rfl
  have c10 := (cell_of a0 10).trans e10
  clear e10
  have e11 : es[11]? = some (.int .u64 mq) := by rw [hes]; rfl
  have c11 := (cell_of a0 11).trans e11
  clear e11
  have e12 : es[12]? = some (.bool mm) := by rw [hes]; rfl
  have c12 := (cell_of a0 12).trans e12
  clear e12
  have e13 : es[13]? = some (.int .i64 gn) := by rw [hes]; rfl
  have c13 := (cell_of a0 13).trans e13
  clear e13
  have e14 : es[14]? = some (.bool gz) := by rw [hes]; rfl
  have c14 := (cell_of a0 14).trans e14
  clear e14
  have e15 : es[15]? = some (.int .i64 gh) := by rw [hes]; rfl
  have c15 := (cell_of a0 15).trans e15
  clear e15
  have e16 : es[16]? = some (.bool gm) := by rw [hes]; rfl
  have c16 := (cell_of a0 16).trans e16
  clear e16
  have qT := eqzT tn tz th tw tp tq tm
  have qM := eqzM mw mp mq mm
  have qG := eqzG gn gz gh gm
  clear hes a0
  generalize zT tn tz th tw tp tq tm = vT at *
  generalize zM mw mp mq mm = vM at *
  generalize zG gn gz gh gm = vG at *
  cases vT <;> cases vM <;> cases vG <;> (
    go_enter Tryd.func18, Tryd.ntmps18
    go_wp2_with fail
    go_ret
    exact ⟨rfl, G.out⟩)
end Go.Proofs.YtfnfbioenngjoaaDoor
