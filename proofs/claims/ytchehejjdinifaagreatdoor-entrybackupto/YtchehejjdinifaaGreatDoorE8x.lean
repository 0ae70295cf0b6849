/-
  An extern's kind; what its kind does not tell, by the program and by the document; no statement is proved here.
-/
import Derived.Test.YtchehejjdinifaaGreatDoorE8n
import Derived.Laws.StructEq
namespace Go.Proofs.YtchehejjdinifaaGreatDoor
open Go.RowKit
set_option linter.unusedVariables false
set_option linter.unusedSimpArgs false
set_option linter.constructorNameAsVariable false

def zT (tn : Int) (tz : Bool) (th : Int) (tw : Bool) (tp : Int) (tq : Int) (tm : Bool) : Bool := ((tn == 0) && ((tz == false) && ((th == 0) && ((tw == false) && ((tp == 0) && ((tq == 0) && (tm == false)))))))
def zM (mw : Bool) (mp : Int) (mq : Int) (mm : Bool) : Bool := ((mw == false) && ((mp == 0) && ((mq == 0) && (mm == false))))
def zG (gn : Int) (gz : Bool) (gh : Int) (gm : Bool) : Bool := ((gn == 0) && ((gz == false) && ((gh == 0) && (gm == false))))
set_option maxRecDepth 100000 in
set_option maxHeartbeats 2000000 in
theorem eqzT (tn : Int) (tz : Bool) (th : Int) (tw : Bool) (tp : Int) (tq : Int) (tm : Bool) (W : World) : (binOp .eql 31 (.agg #[.int .i64 tn, .bool tz, .int .i64 th, .bool tw, .int .u64 tp, .int .u64 tq, .bool tm]) (.agg #[.int .i64 0, .bool false, .int .i64 0, .bool false, .int .u64 0, .int .u64 0, .bool false])).run Tryz.prog W = .ok (.bool (zT tn tz th tw tp tq tm)) W := by
  unfold zT
  cases h2 : (tn == 0)
  · simp [go_sem, h2]
  cases h3 : (tz == false)
  · simp [go_sem, h2, h3]
  cases h4 : (th == 0)
  · simp [go_sem, h2, h3, h4]
  cases h5 : (tw == false)
  · simp [go_sem, h2, h3, h4, h5]
  cases h6 : (tp == 0)
  · simp [go_sem, h2, h3, h4, h5, h6]
  cases h7 : (tq == 0)
  · simp [go_sem, h2, h3, h4, h5, h6, h7]
  cases h8 : (tm == false)
  · simp [go_sem, h2, h3, h4, h5, h6, h7, h8]
  simp [go_sem, h2, h3, h4, h5, h6, h7, h8]
set_option maxRecDepth 100000 in
set_option maxHeartbeats 2000000 in
theorem eqzM (mw : Bool) (mp : Int) (mq : Int) (mm : Bool) (W : World) : (binOp .eql 29 (.agg #[.bool mw, .int .u64 mp, .int .u64 mq, .bool mm]) (.agg #[.bool false, .int .u64 0, .int .u64 0, .bool false])).run Tryz.prog W = .ok (.bool (zM mw mp mq mm)) W := by
  unfold zM
  cases h9 : (mw == false)
  · simp [go_sem, h9]
  cases h10 : (mp == 0)
  · simp [go_sem, h9, h10]
  cases h11 : (mq == 0)
  · simp [go_sem, h9, h10, h11]
  cases h12 : (mm == false)
  · simp [go_sem, h9, h10, h11, h12]
  simp [go_sem, h9, h10, h11, h12]
set_option maxRecDepth 100000 in
set_option maxHeartbeats 2000000 in
theorem eqzG (gn : Int) (gz : Bool) (gh : Int) (gm : Bool) (W : World) : (binOp .eql 33 (.agg #[.int .i64 gn, .bool gz, .int .i64 gh, .bool gm]) (.agg #[.int .i64 0, .bool false, .int .i64 0, .bool false])).run Tryz.prog W = .ok (.bool (zG gn gz gh gm)) W := by
  unfold zG
  cases h13 : (gn == 0)
  · simp [go_sem, h13]
  cases h14 : (gz == false)
  · simp [go_sem, h13, h14]
  cases h15 : (gh == 0)
  · simp [go_sem, h13, h14, h15]
  cases h16 : (gm == false)
  · simp [go_sem, h13, h14, h15, h16]
  simp [go_sem, h13, h14, h15, h16]
set_option maxRecDepth 100000 in
set_option maxHeartbeats 2000000 in
theorem eqE0 (k ty tn th tp tq mp mq gn gh : Int) (tz tw tm mw mm gz gm : Bool) (W : World) : (binOp .eql 35 (.agg #[.int .i64 0, .int .i64 ty, .int .i64 tn, .bool tz, .int .i64 th, .bool tw, .int .u64 tp, .int .u64 tq, .bool tm, .bool mw, .int .u64 mp, .int .u64 mq, .bool mm, .int .i64 gn, .bool gz, .int .i64 gh, .bool gm]) (.agg #[.int .i64 0, .int .i64 ty, .int .i64 0, .bool false, .int .i64 0, .bool false, .int .u64 0, .int .u64 0, .bool false, .bool false, .int .u64 0, .int .u64 0, .bool false, .int .i64 0, .bool false, .int .i64 0, .bool false])).run Tryz.prog W = .ok (.bool ((zT tn tz th tw tp tq tm) && ((zM mw mp mq mm) && (zG gn gz gh gm)))) W := by
  unfold zT zM zG
  cases h2 : (tn == 0)
  · simp [go_sem, h2]
  cases h3 : (tz == false)
  · simp [go_sem, h2, h3]
  cases h4 : (th == 0)
  · simp [go_sem, h2, h3, h4]
  cases h5 : (tw == false)
  · simp [go_sem, h2, h3, h4, h5]
  cases h6 : (tp == 0)
  · simp [go_sem, h2, h3, h4, h5, h6]
  cases h7 : (tq == 0)
  · simp [go_sem, h2, h3, h4, h5, h6, h7]
  cases h8 : (tm == false)
  · simp [go_sem, h2, h3, h4, h5, h6, h7, h8]
  cases h9 : (mw == false)
  · simp [go_sem, h2, h3, h4, h5, h6, h7, h8, h9]
  cases h10 : (mp == 0)
  · simp [go_sem, h2, h3, h4, h5, h6, h7, h8, h9, h10]
  cases h11 : (mq == 0)
  · simp [go_sem, h2, h3, h4, h5, h6, h7, h8, h9, h10, h11]
  cases h12 : (mm == false)
  · simp [go_sem, h2, h3, h4, h5, h6, h7, h8, h9, h10, h11, h12]
  cases h13 : (gn == 0)
  · simp [go_sem, h2, h3, h4, h5, h6, h7, h8, h9, h10, h11, h12, h13]
  cases h14 : (gz == false)
  · simp [go_sem, h2, h3, h4, h5, h6, h7, h8, h9, h10, h11, h12, h13, h14]
  cases h15 : (gh == 0)
  · simp [go_sem, h2, h3, h4, h5, h6, h7, h8, h9, h10, h11, h12, h13, h14, h15]
  cases h16 : (gm == false)
  · simp [go_sem, h2, h3, h4, h5, h6, h7, h8, h9, h10, h11, h12, h13, h14, h15, h16]
  simp [go_sem, h2, h3, h4, h5, h6, h7, h8, h9, h10, h11, h12, h13, h14, h15, h16]
set_option maxRecDepth 100000 in
set_option maxHeartbeats 2000000 in
theorem eqE1 (k ty tn th tp tq mp mq gn gh : Int) (tz tw tm mw mm gz gm : Bool) (W : World) : (binOp .eql 35 (.agg #[.int .i64 1, .int .i64 ty, .int .i64 tn, .bool tz, .int .i64 th, .bool tw, .int .u64 tp, .int .u64 tq, .bool tm, .bool mw, .int .u64 mp, .int .u64 mq, .bool mm, .int .i64 gn, .bool gz, .int .i64 gh, .bool gm]) (.agg #[.int .i64 1, .int .i64 0, .int .i64 tn, .bool tz, .int .i64 th, .bool tw, .int .u64 tp, .int .u64 tq, .bool tm, .bool false, .int .u64 0, .int .u64 0, .bool false, .int .i64 0, .bool false, .int .i64 0, .bool false])).run Tryz.prog W = .ok (.bool ((ty == 0) && ((zM mw mp mq mm) && (zG gn gz gh gm)))) W := by
  unfold zM zG
  cases h1 : (ty == 0)
  · simp [go_sem, h1]
  cases h9 : (mw == false)
  · simp [go_sem, h1, h9]
  cases h10 : (mp == 0)
  · simp [go_sem, h1, h9, h10]
  cases h11 : (mq == 0)
  · simp [go_sem, h1, h9, h10, h11]
  cases h12 : (mm == false)
  · simp [go_sem, h1, h9, h10, h11, h12]
  cases h13 : (gn == 0)
  · simp [go_sem, h1, h9, h10, h11, h12, h13]
  cases h14 : (gz == false)
  · simp [go_sem, h1, h9, h10, h11, h12, h13, h14]
  cases h15 : (gh == 0)
  · simp [go_sem, h1, h9, h10, h11, h12, h13, h14, h15]
  cases h16 : (gm == false)
  · simp [go_sem, h1, h9, h10, h11, h12, h13, h14, h15, h16]
  simp [go_sem, h1, h9, h10, h11, h12, h13, h14, h15, h16]
set_option maxRecDepth 100000 in
set_option maxHeartbeats 2000000 in
theorem eqE2 (k ty tn th tp tq mp mq gn gh : Int) (tz tw tm mw mm gz gm : Bool) (W : World) : (binOp .eql 35 (.agg #[.int .i64 2, .int .i64 ty, .int .i64 tn, .bool tz, .int .i64 th, .bool tw, .int .u64 tp, .int .u64 tq, .bool tm, .bool mw, .int .u64 mp, .int .u64 mq, .bool mm, .int .i64 gn, .bool gz, .int .i64 gh, .bool gm]) (.agg #[.int .i64 2, .int .i64 0, .int .i64 0, .bool false, .int .i64 0, .bool false, .int .u64 0, .int .u64 0, .bool false, .bool mw, .int .u64 mp, .int .u64 mq, .bool mm, .int .i64 0, .bool false, .int .i64 0, .bool false])).run Tryz.prog W = .ok (.bool ((ty == 0) && ((zT tn tz th tw tp tq tm) && (zG gn gz gh gm)))) W := by
  unfold zT zG
  cases h1 : (ty == 0)
  · simp [go_sem, h1]
  cases h2 : (tn == 0)
  · simp [go_sem, h1, h2]
  cases h3 : (tz == false)
  · simp [go_sem, h1, h2, h3]
  cases h4 : (th == 0)
  · simp [go_sem, h1, h2, h3, h4]
  cases h5 : (tw == false)
  · simp [go_sem, h1, h2, h3, h4, h5]
  cases h6 : (tp == 0)
  · simp [go_sem, h1, h2, h3, h4, h5, h6]
  cases h7 : (tq == 0)
  · simp [go_sem, h1, h2, h3, h4, h5, h6, h7]
  cases h8 : (tm == false)
  · simp [go_sem, h1, h2, h3, h4, h5, h6, h7, h8]
  cases h13 : (gn == 0)
  · simp [go_sem, h1, h2, h3, h4, h5, h6, h7, h8, h13]
  cases h14 : (gz == false)
  · simp [go_sem, h1, h2, h3, h4, h5, h6, h7, h8, h13, h14]
  cases h15 : (gh == 0)
  · simp [go_sem, h1, h2, h3, h4, h5, h6, h7, h8, h13, h14, h15]
  cases h16 : (gm == false)
  · simp [go_sem, h1, h2, h3, h4, h5, h6, h7, h8, h13, h14, h15, h16]
  simp [go_sem, h1, h2, h3, h4, h5, h6, h7, h8, h13, h14, h15, h16]
set_option maxRecDepth 100000 in
set_option maxHeartbeats 2000000 in
theorem eqE3 (k ty tn th tp tq mp mq gn gh : Int) (tz tw tm mw mm gz gm : Bool) (W : World) : (binOp .eql 35 (.agg #[.int .i64 3, .int .i64 ty, .int .i64 tn, .bool tz, .int .i64 th, .bool tw, .int .u64 tp, .int .u64 tq, .bool tm, .bool mw, .int .u64 mp, .int .u64 mq, .bool mm, .int .i64 gn, .bool gz, .int .i64 gh, .bool gm]) (.agg #[.int .i64 3, .int .i64 0, .int .i64 0, .bool false, .int .i64 0, .bool false, .int .u64 0, .int .u64 0, .bool false, .bool false, .int .u64 0, .int .u64 0, .bool false, .int .i64 gn, .bool gz, .int .i64 gh, .bool gm])).run Tryz.prog W = .ok (.bool ((ty == 0) && ((zT tn tz th tw tp tq tm) && (zM mw mp mq mm)))) W := by
  unfold zT zM
  cases h1 : (ty == 0)
  · simp [go_sem, h1]
  cases h2 : (tn == 0)
  · simp [go_sem, h1, h2]
  cases h3 : (tz == false)
  · simp [go_sem, h1, h2, h3]
  cases h4 : (th == 0)
  · simp [go_sem, h1, h2, h3, h4]
  cases h5 : (tw == false)
  · simp [go_sem, h1, h2, h3, h4, h5]
  cases h6 : (tp == 0)
  · simp [go_sem, h1, h2, h3, h4, h5, h6]
  cases h7 : (tq == 0)
  · simp [go_sem, h1, h2, h3, h4, h5, h6, h7]
  cases h8 : (tm == false)
  · simp [go_sem, h1, h2, h3, h4, h5, h6, h7, h8]
  cases h9 : (mw == false)
  · simp [go_sem, h1, h2, h3, h4, h5, h6, h7, h8, h9]
  cases h10 : (mp == 0)
  · simp [go_sem, h1, h2, h3, h4, h5, h6, h7, h8, h9, h10]
  cases h11 : (mq == 0)
  · simp [go_sem, h1, h2, h3, h4, h5, h6, h7, h8, h9, h10, h11]
  cases h12 : (mm == false)
  · simp [go_sem, h1, h2, h3, h4, h5, h6, h7, h8, h9, h10, h11, h12]
  simp [go_sem, h1, h2, h3, h4, h5, h6, h7, h8, h9, h10, h11, h12]
set_option maxRecDepth 100000 in
set_option maxHeartbeats 2000000 in
theorem eqE4 (k ty tn th tp tq mp mq gn gh : Int) (tz tw tm mw mm gz gm : Bool) (W : World) : (binOp .eql 35 (.agg #[.int .i64 4, .int .i64 ty, .int .i64 tn, .bool tz, .int .i64 th, .bool tw, .int .u64 tp, .int .u64 tq, .bool tm, .bool mw, .int .u64 mp, .int .u64 mq, .bool mm, .int .i64 gn, .bool gz, .int .i64 gh, .bool gm]) (.agg #[.int .i64 4, .int .i64 ty, .int .i64 0, .bool false, .int .i64 0, .bool false, .int .u64 0, .int .u64 0, .bool false, .bool false, .int .u64 0, .int .u64 0, .bool false, .int .i64 0, .bool false, .int .i64 0, .bool false])).run Tryz.prog W = .ok (.bool ((zT tn tz th tw tp tq tm) && ((zM mw mp mq mm) && (zG gn gz gh gm)))) W := by
  unfold zT zM zG
  cases h2 : (tn == 0)
  · simp [go_sem, h2]
  cases h3 : (tz == false)
  · simp [go_sem, h2, h3]
  cases h4 : (th == 0)
  · simp [go_sem, h2, h3, h4]
  cases h5 : (tw == false)
  · simp [go_sem, h2, h3, h4, h5]
  cases h6 : (tp == 0)
  · simp [go_sem, h2, h3, h4, h5, h6]
  cases h7 : (tq == 0)
  · simp [go_sem, h2, h3, h4, h5, h6, h7]
  cases h8 : (tm == false)
  · simp [go_sem, h2, h3, h4, h5, h6, h7, h8]
  cases h9 : (mw == false)
  · simp [go_sem, h2, h3, h4, h5, h6, h7, h8, h9]
  cases h10 : (mp == 0)
  · simp [go_sem, h2, h3, h4, h5, h6, h7, h8, h9, h10]
  cases h11 : (mq == 0)
  · simp [go_sem, h2, h3, h4, h5, h6, h7, h8, h9, h10, h11]
  cases h12 : (mm == false)
  · simp [go_sem, h2, h3, h4, h5, h6, h7, h8, h9, h10, h11, h12]
  cases h13 : (gn == 0)
  · simp [go_sem, h2, h3, h4, h5, h6, h7, h8, h9, h10, h11, h12, h13]
  cases h14 : (gz == false)
  · simp [go_sem, h2, h3, h4, h5, h6, h7, h8, h9, h10, h11, h12, h13, h14]
  cases h15 : (gh == 0)
  · simp [go_sem, h2, h3, h4, h5, h6, h7, h8, h9, h10, h11, h12, h13, h14, h15]
  cases h16 : (gm == false)
  · simp [go_sem, h2, h3, h4, h5, h6, h7, h8, h9, h10, h11, h12, h13, h14, h15, h16]
  simp [go_sem, h2, h3, h4, h5, h6, h7, h8, h9, h10, h11, h12, h13, h14, h15, h16]
end Go.Proofs.YtchehejjdinifaaGreatDoor
