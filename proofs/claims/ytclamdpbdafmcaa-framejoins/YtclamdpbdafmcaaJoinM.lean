/-
  Plain mathematics: sections written as a module; nothing of the program.
-/
import Derived.Test.YtclamdpbdafmcaaSplitM
import Derived.Test.YtclamdpbdafmcaaPutN
namespace Go.Proofs.Ytclamdpbdafmcaa
set_option linter.unusedVariables false

/- What stands ahead of a section's data, but for id and size. -/
def bdy (s : Sec) : List Int := if s.id = 0 then nb s.name else []
def hdS (s : Sec) : List Int := s.id :: (PU ((bdy s).length + s.data.length : Nat) ++ bdy s)
def sb (s : Sec) : List Int := hdS s ++ s.data
/- Why a section can't stand behind those that came. -/
def ff (s : Sec) (last : Int) : Int := if rank s.id < 0 ∨ (s.id ≠ 0 ∧ s.name ≠ []) then 4 else if rank s.id ≠ 0 ∧ rank s.id ≤ last then 20 else nf s.name
def nl (s : Sec) (last : Int) : Int := if rank s.id = 0 then last else rank s.id
def jf : List Sec → Int → Int
  | [], _ => 0
  | s :: r, last => if ff s last ≠ 0 then ff s last else jf r (nl s last)
def jb (L : List Sec) : List Int := hd ++ L.flatMap sb
def join (L : List Sec) : List Int × Int := if jf L 0 ≠ 0 then ([], jf L 0) else if 1048576 < (jb L).length then ([], 2) else (jb L, 0)
end Go.Proofs.Ytclamdpbdafmcaa
