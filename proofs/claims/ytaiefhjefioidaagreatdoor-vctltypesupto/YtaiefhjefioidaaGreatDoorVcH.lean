/-
  A fact put aside; no statement is proved here.
-/
import Derived.Test.YtaiefhjefioidaaGreatDoorDCl
namespace Go.Proofs.YtaiefhjefioidaaGreatDoor
open Go.RowKit
theorem Hid.mk' {p : Prop} (h : p) : Hid p := h
end Go.Proofs.YtaiefhjefioidaaGreatDoor
