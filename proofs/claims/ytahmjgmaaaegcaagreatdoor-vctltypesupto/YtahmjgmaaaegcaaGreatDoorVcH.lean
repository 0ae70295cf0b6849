/-
  A fact put aside; no statement is proved here.
-/
import Derived.Test.YtahmjgmaaaegcaaGreatDoorDCl
namespace Go.Proofs.YtahmjgmaaaegcaaGreatDoor
open Go.RowKit
theorem Hid.mk' {p : Prop} (h : p) : Hid p := h
end Go.Proofs.YtahmjgmaaaegcaaGreatDoor
