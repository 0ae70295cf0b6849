/-
  DERIVED. GIVEN WITH THE SEED: THE PROGRAM's TIES (one call each: nine closed facts by the kernel) AND EACH ROW's TIE, after the 31st guide's Derived/Test/Toyas{Tie, Card}.lean. No idea stands in it: it is a product of the set-up. Laid BY PROGRAM, IN A SANDBOX (cutbox-door.mjs). By AI agents, Wed Nov 11 2026. No macro, syntax, notation, axiom, sorry.
-/
import Derived.Test.YtjkebimmddlccabDoorRows
import Derived.LaidByTextLater
import Derived.SevenTiedAt
import Derived.LaidSub
import Derived.LaidOnce
namespace Go.Proofs.YtjkebimmddlccabDoor
open Go
set_option maxRecDepth 100000
theorem seatTie1 : Tryd.prog.laidByTextLater [("ratchet/fnum.rows", Rows.laid_ratchet_fnum_rows), ("ratchet/fnum.conversions", Rows.laid_ratchet_fnum_conversions)] [.data, .data] true :=
  Program.laidByTextLater_by_one 49 8 97 (by kernel_rfl) (by kernel_rfl) (by kernel_rfl) (by kernel_rfl) (by kernel_rfl) (by kernel_rfl) (fun _ _ => by kernel_rfl)
theorem noOwnUnsafe : Tryd.pinned.checked.prog.headLifts.contains "ownunsafe" = false := by kernel_rfl
theorem tie : Tryd.prog.laidByTextLater [("ratchet/fnum.rows", Rows.laid_ratchet_fnum_rows)] [.data] true :=
  Program.laidByTextLater.sub seatTie1 ["ratchet/fnum.rows"] (by kernel_rfl) (by kernel_rfl)
theorem fnumTurns_row_tie : Rows.fnumTurnsRow.laidByTextAt .later Tryd.pinned [.data] true :=
  OpenClaim.laidByTextAt_later rfl rfl tie noOwnUnsafe
theorem fnumOrder_row_tie : Rows.fnumOrderRow.laidByTextAt .later Tryd.pinned [.data] true :=
  OpenClaim.laidByTextAt_later rfl rfl tie noOwnUnsafe
theorem tie2 : Tryd.prog.laidByTextLater [("ratchet/fnum.rows", Rows.laid_ratchet_fnum_rows), ("ratchet/fnum.conversions", Rows.laid_ratchet_fnum_conversions)] [.data, .data] true :=
  Program.laidByTextLater.sub seatTie1 ["ratchet/fnum.rows", "ratchet/fnum.conversions"] (by kernel_rfl) (by kernel_rfl)
theorem fnumThere_row_tie : Rows.fnumThereRow.laidByTextAt .later Tryd.pinned [.data, .data] true :=
  OpenClaim.laidByTextAt_later rfl rfl tie2 noOwnUnsafe
theorem fnumTurnsUpto_row_tie : Rows.fnumTurnsUptoRow.laidByTextAt .later Tryd.pinned [.data] true :=
  OpenClaim.laidByTextAt_later rfl rfl tie noOwnUnsafe
theorem fnumThereUpto_row_tie : Rows.fnumThereUptoRow.laidByTextAt .later Tryd.pinned [.data, .data] true :=
  OpenClaim.laidByTextAt_later rfl rfl tie2 noOwnUnsafe
theorem fnumOrderUpto_row_tie : Rows.fnumOrderUptoRow.laidByTextAt .later Tryd.pinned [.data] true :=
  OpenClaim.laidByTextAt_later rfl rfl tie noOwnUnsafe
end Go.Proofs.YtjkebimmddlccabDoor
