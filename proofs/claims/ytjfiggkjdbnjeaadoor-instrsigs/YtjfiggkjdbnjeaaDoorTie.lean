/-
  DERIVED. GIVEN WITH THE SEED: THE PROGRAM's TIES (one call each: nine closed facts by the kernel) AND EACH ROW's TIE, after the 31st guide's Derived/Test/Toyas{Tie, Card}.lean. No idea stands in it: it is a product of the set-up. Laid BY PROGRAM, IN A SANDBOX (cutbox-door.mjs). By AI agents, Wed Nov 11 2026. No macro, syntax, notation, axiom, sorry.
-/
import Derived.Test.YtjfiggkjdbnjeaaDoorRows
import Derived.LaidByTextLater
import Derived.SevenTiedAt
import Derived.LaidSub
import Derived.LaidOnce
namespace Go.Proofs.YtjfiggkjdbnjeaaDoor
open Go
set_option maxRecDepth 100000
theorem seatTie1 : Tryd.prog.laidByTextLater [("math/bits.deBruijn32tab", Rows.laid_math_bits_deBruijn32tab), ("math/bits.deBruijn64tab", Rows.laid_math_bits_deBruijn64tab), ("internal/strconv.uint64pow10", Rows.laid_internal_strconv_uint64pow10), ("ratchet/entry.codes", Rows.laid_ratchet_entry_codes), ("ratchet/types.numWords", Rows.laid_ratchet_types_numWords), ("ratchet/types.heapWords", Rows.laid_ratchet_types_heapWords), ("ratchet/instr.formFields", Rows.laid_ratchet_instr_formFields)] [.data, .data, .data, .data, .data, .data, .data] true :=
  Program.laidByTextLater_by_one 158 8 161 (by kernel_rfl) (by kernel_rfl) (by kernel_rfl) (by kernel_rfl) (by kernel_rfl) (by kernel_rfl) (fun _ _ => by kernel_rfl)
theorem seatTie2 : Tryd.prog.laidByTextLater [("ratchet/instr.sigs", Rows.laid_ratchet_instr_sigs), ("ratchet/instr.accesses", Rows.laid_ratchet_instr_accesses)] [.data, .data] true :=
  Program.laidByTextLater_by_one 158 8 161 (by kernel_rfl) (by kernel_rfl) (by kernel_rfl) (by kernel_rfl) (by kernel_rfl) (by kernel_rfl) (fun _ _ => by kernel_rfl)
theorem noOwnUnsafe : Tryd.pinned.checked.prog.headLifts.contains "ownunsafe" = false := by kernel_rfl
theorem tie : Tryd.prog.laidByTextLater [("ratchet/entry.codes", Rows.laid_ratchet_entry_codes), ("ratchet/instr.formFields", Rows.laid_ratchet_instr_formFields)] [.data, .data] true :=
  Program.laidByTextLater.sub seatTie1 ["ratchet/entry.codes", "ratchet/instr.formFields"] (by kernel_rfl) (by kernel_rfl)
theorem instrWrites_row_tie : Rows.instrWritesRow.laidByTextAt .later Tryd.pinned [.data, .data] true :=
  OpenClaim.laidByTextAt_later rfl rfl tie noOwnUnsafe
theorem tie2 : Tryd.prog.laidByTextLater [("math/bits.deBruijn32tab", Rows.laid_math_bits_deBruijn32tab), ("math/bits.deBruijn64tab", Rows.laid_math_bits_deBruijn64tab), ("internal/strconv.uint64pow10", Rows.laid_internal_strconv_uint64pow10), ("ratchet/types.numWords", Rows.laid_ratchet_types_numWords), ("ratchet/types.heapWords", Rows.laid_ratchet_types_heapWords), ("ratchet/instr.formFields", Rows.laid_ratchet_instr_formFields)] [.data, .data, .data, .data, .data, .data] true :=
  Program.laidByTextLater.sub seatTie1 ["math/bits.deBruijn32tab", "math/bits.deBruijn64tab", "internal/strconv.uint64pow10", "ratchet/types.numWords", "ratchet/types.heapWords", "ratchet/instr.formFields"] (by kernel_rfl) (by kernel_rfl)
theorem instrTexts_row_tie : Rows.instrTextsRow.laidByTextAt .later Tryd.pinned [.data, .data, .data, .data, .data, .data] true :=
  OpenClaim.laidByTextAt_later rfl rfl tie2 noOwnUnsafe
theorem tie3 : Tryd.prog.laidByTextLater [("ratchet/instr.sigs", Rows.laid_ratchet_instr_sigs), ("ratchet/instr.accesses", Rows.laid_ratchet_instr_accesses)] [.data, .data] true :=
  Program.laidByTextLater.sub seatTie2 ["ratchet/instr.sigs", "ratchet/instr.accesses"] (by kernel_rfl) (by kernel_rfl)
theorem instrSigs_row_tie : Rows.instrSigsRow.laidByTextAt .later Tryd.pinned [.data, .data] true :=
  OpenClaim.laidByTextAt_later rfl rfl tie3 noOwnUnsafe
theorem instrWritesUpto_row_tie : Rows.instrWritesUptoRow.laidByTextAt .later Tryd.pinned [.data, .data] true :=
  OpenClaim.laidByTextAt_later rfl rfl tie noOwnUnsafe
theorem instrTextsUpto_row_tie : Rows.instrTextsUptoRow.laidByTextAt .later Tryd.pinned [.data, .data, .data, .data, .data, .data] true :=
  OpenClaim.laidByTextAt_later rfl rfl tie2 noOwnUnsafe
theorem instrSigsUpto_row_tie : Rows.instrSigsUptoRow.laidByTextAt .later Tryd.pinned [.data, .data] true :=
  OpenClaim.laidByTextAt_later rfl rfl tie3 noOwnUnsafe
end Go.Proofs.YtjfiggkjdbnjeaaDoor
