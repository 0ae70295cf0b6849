/-
  Steps of vnum: whichever method a group has, it does not answer that there is no such instruction; no statement is proved here.
-/
import Derived.Test.YtikaidokllnifaaGreatDoorVnCh
import Derived.Test.YtikaidokllnifaaGreatDoorVnD
import Derived.Test.YtikaidokllnifaaGreatDoorVnMi
import Derived.Test.YtikaidokllnifaaGreatDoorVnMc
import Derived.Test.YtikaidokllnifaaGreatDoorVnTe
import Derived.Test.YtikaidokllnifaaGreatDoorVnTd
import Derived.Test.YtikaidokllnifaaGreatDoorVnTi
import Derived.Test.YtikaidokllnifaaGreatDoorVnTj
import Derived.Test.YtikaidokllnifaaGreatDoorRepW
import Derived.Test.YtikaidokllnifaaGreatDoorVnGa
import Derived.Test.YtikaidokllnifaaGreatDoorVnVb
import Derived.Test.YtikaidokllnifaaGreatDoorVnVc
import Derived.Test.YtikaidokllnifaaGreatDoorVnVd
import Derived.Test.YtikaidokllnifaaGreatDoorVnMa
import Derived.Test.YtikaidokllnifaaGreatDoorVnMb
import Derived.Test.YtikaidokllnifaaGreatDoorVnTa
import Derived.Test.YtikaidokllnifaaGreatDoorVnTb
import Derived.Test.YtikaidokllnifaaGreatDoorVnTc
import Derived.Test.YtikaidokllnifaaGreatDoorVnAc
import Derived.Test.YtikaidokllnifaaGreatDoorTy
import Derived.Maps.OwnSet
import Derived.WalkMore
import Derived.Carry
set_option maxRecDepth 100000
set_option maxHeartbeats 8000000
namespace Go.Proofs.YtikaidokllnifaaGreatDoor
open Go.RowKit
set_option linter.unusedVariables false
set_option linter.unusedSimpArgs false
def Z6 (B : Nat) (w : World) : Ending → World → Prop := fun en w' => ∃ e : Int, en = .returned (.int .i64 e) ∧ e ≠ 6 ∧ KB B w w'
theorem z6_out {p : Program} {k : Nat} {a : Array Value} {w : World} {B : Nat} {e : Int} {Q : World → Prop} (h : Calls p k a w fun en w' => en = .returned (.int .i64 e) ∧ Q w') (he : e ≠ 6) (hQ : ∀ w', Q w' → KB B w w') : Calls p k a w (Z6 B w) :=
  h.mono fun en w' h => ⟨e, h.1, he, hQ _ h.2⟩
section
variable {gv : Value} {L : List RT} {W0 w : World} {C : Nat} {lv fv ov : Value} {g c : Nat} {lo : List LO} {fr : List Int} {ops : List VT} {fs : List FV} {x : FV} {S : Nat} {es : Array Value}
theorem z6_mp {p : Program} {k : Nat} {a : Array Value} {X : World} {e : Int} {lo' : List LO} {fr' : List Int} {ops' : List VT} (h : Calls p k a w (MP gv W0 w X C lv g c fs x e lo' fr' ops')) (he : e ≠ 6) : Calls p k a w (Z6 W0.heap.size w) :=
  h.mono fun en w' h => ⟨e, h.1, he, h.2.1⟩
theorem memorySize_z (A : StA gv L W0 w C lv fv ov g c lo fr ops fs x S es) {n : Nat} (h32 : n < 4294967296) (hx : es[11]? = some (.int .u32 (n : Int))) {mv : Value} {M : List LMt} (hm : es[3]? = some mv) (hM : LLm w mv M) :
    Calls Tryz.prog 83 #[.pointer (some ⟨S, 0, none⟩)] w (Z6 W0.heap.size w) := by
  rcases Nat.lt_or_ge n M.length with h | h
  · exact z6_mp (memorySize_in A h32 hx hm hM (List.getElem?_eq_getElem h)) (by first | decide | exact popsR_e6 _ _ _ _ _ | exact popTP_e6 _ _ _ _ _ | exact popP_e6 _ _ _)
  · exact z6_out (memorySize_out A h32 hx hm hM h) (by decide) (by first | exact fun _ g => Grew.kb g A.hB | exact fun _ k => k | exact fun _ k => k.1)
theorem memoryGrow_z (A : StA gv L W0 w C lv fv ov g c lo fr ops fs x S es) {n : Nat} (h32 : n < 4294967296) (hx : es[11]? = some (.int .u32 (n : Int))) {mv : Value} {M : List LMt} (hm : es[3]? = some mv) (hM : LLm w mv M) :
    Calls Tryz.prog 84 #[.pointer (some ⟨S, 0, none⟩)] w (Z6 W0.heap.size w) := by
  rcases Nat.lt_or_ge n M.length with h | h
  · exact z6_mp (memoryGrow_in A h32 hx hm hM (List.getElem?_eq_getElem h)) (by first | decide | exact popsR_e6 _ _ _ _ _ | exact popTP_e6 _ _ _ _ _ | exact popP_e6 _ _ _)
  · exact z6_out (memoryGrow_out A h32 hx hm hM h) (by decide) (by first | exact fun _ g => Grew.kb g A.hB | exact fun _ k => k | exact fun _ k => k.1)
theorem memoryFill_z (A : StA gv L W0 w C lv fv ov g c lo fr ops fs x S es) {n : Nat} (h32 : n < 4294967296) (hx : es[11]? = some (.int .u32 (n : Int))) {mv : Value} {M : List LMt} (hm : es[3]? = some mv) (hM : LLm w mv M) :
    Calls Tryz.prog 89 #[.pointer (some ⟨S, 0, none⟩)] w (Z6 W0.heap.size w) := by
  rcases Nat.lt_or_ge n M.length with h | h
  · exact z6_mp (memoryFill_in A h32 hx hm hM (List.getElem?_eq_getElem h)) (by first | decide | exact popsR_e6 _ _ _ _ _ | exact popTP_e6 _ _ _ _ _ | exact popP_e6 _ _ _)
  · exact z6_out (memoryFill_out A h32 hx hm hM h) (by decide) (by first | exact fun _ g => Grew.kb g A.hB | exact fun _ k => k | exact fun _ k => k.1)
theorem tableSize_z (A : StA gv L W0 w C lv fv ov g c lo fr ops fs x S es) {n : Nat} (h32 : n < 4294967296) (hx : es[11]? = some (.int .u32 (n : Int))) {mv : Value} {M : List TBt} (hm : es[2]? = some mv) (hM : LTb w mv M) :
    Calls Tryz.prog 94 #[.pointer (some ⟨S, 0, none⟩)] w (Z6 W0.heap.size w) := by
  rcases Nat.lt_or_ge n M.length with h | h
  · exact z6_mp (tableSize_in A h32 hx hm hM (List.getElem?_eq_getElem h)) (by first | decide | exact popsR_e6 _ _ _ _ _ | exact popTP_e6 _ _ _ _ _ | exact popP_e6 _ _ _)
  · exact z6_out (tableSize_out A h32 hx hm hM h) (by decide) (by first | exact fun _ g => Grew.kb g A.hB | exact fun _ k => k | exact fun _ k => k.1)
theorem tableGet_z (A : StA gv L W0 w C lv fv ov g c lo fr ops fs x S es) {n : Nat} (h32 : n < 4294967296) (hx : es[11]? = some (.int .u32 (n : Int))) {mv : Value} {M : List TBt} (hm : es[2]? = some mv) (hM : LTb w mv M) :
    Calls Tryz.prog 79 #[.pointer (some ⟨S, 0, none⟩)] w (Z6 W0.heap.size w) := by
  rcases Nat.lt_or_ge n M.length with h | h
  · exact z6_mp (tableGet_in A h32 hx hm hM (List.getElem?_eq_getElem h)) (by first | decide | exact popsR_e6 _ _ _ _ _ | exact popTP_e6 _ _ _ _ _ | exact popP_e6 _ _ _)
  · exact z6_out (tableGet_out A h32 hx hm hM h) (by decide) (by first | exact fun _ g => Grew.kb g A.hB | exact fun _ k => k | exact fun _ k => k.1)
theorem tableSet_z (A : StA gv L W0 w C lv fv ov g c lo fr ops fs x S es) {n : Nat} (h32 : n < 4294967296) (hx : es[11]? = some (.int .u32 (n : Int))) {mv : Value} {M : List TBt} (hm : es[2]? = some mv) (hM : LTb w mv M) :
    Calls Tryz.prog 80 #[.pointer (some ⟨S, 0, none⟩)] w (Z6 W0.heap.size w) := by
  rcases Nat.lt_or_ge n M.length with h | h
  · exact z6_mp (tableSet_in A h32 hx hm hM (List.getElem?_eq_getElem h)) (by first | decide | exact popsR_e6 _ _ _ _ _ | exact popTP_e6 _ _ _ _ _ | exact popP_e6 _ _ _)
  · exact z6_out (tableSet_out A h32 hx hm hM h) (by decide) (by first | exact fun _ g => Grew.kb g A.hB | exact fun _ k => k | exact fun _ k => k.1)
theorem tableGrow_z (A : StA gv L W0 w C lv fv ov g c lo fr ops fs x S es) {n : Nat} (h32 : n < 4294967296) (hx : es[11]? = some (.int .u32 (n : Int))) {mv : Value} {M : List TBt} (hm : es[2]? = some mv) (hM : LTb w mv M) :
    Calls Tryz.prog 93 #[.pointer (some ⟨S, 0, none⟩)] w (Z6 W0.heap.size w) := by
  rcases Nat.lt_or_ge n M.length with h | h
  · exact z6_mp (tableGrow_in A h32 hx hm hM (List.getElem?_eq_getElem h)) (by first | decide | exact popsR_e6 _ _ _ _ _ | exact popTP_e6 _ _ _ _ _ | exact popP_e6 _ _ _)
  · exact z6_out (tableGrow_out A h32 hx hm hM h) (by decide) (by first | exact fun _ g => Grew.kb g A.hB | exact fun _ k => k | exact fun _ k => k.1)
theorem tableFill_z (A : StA gv L W0 w C lv fv ov g c lo fr ops fs x S es) {n : Nat} (h32 : n < 4294967296) (hx : es[11]? = some (.int .u32 (n : Int))) {mv : Value} {M : List TBt} (hm : es[2]? = some mv) (hM : LTb w mv M) :
    Calls Tryz.prog 95 #[.pointer (some ⟨S, 0, none⟩)] w (Z6 W0.heap.size w) := by
  rcases Nat.lt_or_ge n M.length with h | h
  · exact z6_mp (tableFill_in A h32 hx hm hM (List.getElem?_eq_getElem h)) (by first | decide | exact popsR_e6 _ _ _ _ _ | exact popTP_e6 _ _ _ _ _ | exact popP_e6 _ _ _)
  · exact z6_out (tableFill_out A h32 hx hm hM h) (by decide) (by first | exact fun _ g => Grew.kb g A.hB | exact fun _ k => k | exact fun _ k => k.1)
theorem globalGet_z (A : StA gv L W0 w C lv fv ov g c lo fr ops fs x S es) {n : Nat} (h32 : n < 4294967296) (hx : es[11]? = some (.int .u32 (n : Int))) {mv : Value} {M : List GLt} (hm : es[4]? = some mv) (hM : LGl w mv M) :
    Calls Tryz.prog 77 #[.pointer (some ⟨S, 0, none⟩)] w (Z6 W0.heap.size w) := by
  rcases Nat.lt_or_ge n M.length with h | h
  · exact z6_mp (globalGet_in A h32 hx hm hM (List.getElem?_eq_getElem h)) (by first | decide | exact popsR_e6 _ _ _ _ _ | exact popTP_e6 _ _ _ _ _ | exact popP_e6 _ _ _)
  · exact z6_out (globalGet_out A h32 hx hm hM h) (by decide) (by first | exact fun _ g => Grew.kb g A.hB | exact fun _ k => k | exact fun _ k => k.1)
theorem globalSet_z (A : StA gv L W0 w C lv fv ov g c lo fr ops fs x S es) {n : Nat} (h32 : n < 4294967296) (hx : es[11]? = some (.int .u32 (n : Int))) {mv : Value} {M : List GLt} (hm : es[4]? = some mv) (hM : LGl w mv M) :
    Calls Tryz.prog 78 #[.pointer (some ⟨S, 0, none⟩)] w (Z6 W0.heap.size w) := by
  rcases Nat.lt_or_ge n M.length with h | h
  · have hp := List.getElem?_eq_getElem h
    cases hmut : M[n].mut_ with
    | false => exact z6_out (globalSet_mut A h32 hx hm hM hp hmut) (by decide) (by first | exact fun _ g => Grew.kb g A.hB | exact fun _ k => k | exact fun _ k => k.1)
    | true => exact z6_mp (globalSet_in A h32 hx hm hM hp hmut) (by first | decide | exact popsR_e6 _ _ _ _ _ | exact popTP_e6 _ _ _ _ _ | exact popP_e6 _ _ _)
  · exact z6_out (globalSet_out A h32 hx hm hM h) (by decide) (by first | exact fun _ g => Grew.kb g A.hB | exact fun _ k => k | exact fun _ k => k.1)
theorem drop_z (A : StA gv L W0 w C lv fv ov g c lo fr ops fs x S es)  :
    Calls Tryz.prog 71 #[.pointer (some ⟨S, 0, none⟩)] w (Z6 W0.heap.size w) := by
  exact z6_mp (drop_any A) (by first | decide | exact popsR_e6 _ _ _ _ _ | exact popTP_e6 _ _ _ _ _ | exact popP_e6 _ _ _)
theorem dataDrop_z (A : StA gv L W0 w C lv fv ov g c lo fr ops fs x S es) {n : Nat} (h32 : n < 4294967296) (hx : es[11]? = some (.int .u32 (n : Int))) {d : Int} (hd : es[7]? = some (.int .i64 d)) :
    Calls Tryz.prog 87 #[.pointer (some ⟨S, 0, none⟩)] w (Z6 W0.heap.size w) := by
  exact z6_out (dataDrop_any A h32 hx hd) (by split <;> decide) (by first | exact fun _ g => Grew.kb g A.hB | exact fun _ k => k | exact fun _ k => k.1)
theorem elemDrop_z (A : StA gv L W0 w C lv fv ov g c lo fr ops fs x S es) {n : Nat} (h32 : n < 4294967296) (hx : es[11]? = some (.int .u32 (n : Int))) {mv : Value} {M : List VT} (hm : es[6]? = some mv) (hM : LV w mv M) :
    Calls Tryz.prog 91 #[.pointer (some ⟨S, 0, none⟩)] w (Z6 W0.heap.size w) := by
  rcases Nat.lt_or_ge n M.length with h | h
  · exact z6_out (elemDrop_in A h32 hx hm hM (List.getElem?_eq_getElem h)) (by decide) (by first | exact fun _ g => Grew.kb g A.hB | exact fun _ k => k | exact fun _ k => k.1)
  · exact z6_out (elemDrop_out A h32 hx hm hM h) (by decide) (by first | exact fun _ g => Grew.kb g A.hB | exact fun _ k => k | exact fun _ k => k.1)
theorem localGet_z (A : StA gv L W0 w C lv fv ov g c lo fr ops fs x S es) {n : Nat} (h32 : n < 4294967296) (hx : es[11]? = some (.int .u32 (n : Int))) :
    Calls Tryz.prog 74 #[.pointer (some ⟨S, 0, none⟩)] w (Z6 W0.heap.size w) := by
  rcases Nat.lt_or_ge n lo.length with h | h
  · have hp := List.getElem?_eq_getElem h
    cases hs : lo[n].set with
    | false => exact z6_out (localGet_no A h32 hx (e := 134) (Or.inr ⟨_, hp, hs, rfl⟩)) (by decide) (by first | exact fun _ g => Grew.kb g A.hB | exact fun _ k => k | exact fun _ k => k.1)
    | true => exact z6_mp (localGet_ok A h32 hx hp hs) (by first | decide | exact popsR_e6 _ _ _ _ _ | exact popTP_e6 _ _ _ _ _ | exact popP_e6 _ _ _)
  · exact z6_out (localGet_no A h32 hx (e := 150) (Or.inl ⟨h, rfl⟩)) (by decide) (by first | exact fun _ g => Grew.kb g A.hB | exact fun _ k => k | exact fun _ k => k.1)
theorem localSet_z (A : StA gv L W0 w C lv fv ov g c lo fr ops fs x S es) {n : Nat} (h32 : n < 4294967296) (hx : es[11]? = some (.int .u32 (n : Int))) (hfr : fr.length ≤ 4194304) :
    Calls Tryz.prog 75 #[.pointer (some ⟨S, 0, none⟩)] w (Z6 W0.heap.size w) := by
  rcases Nat.lt_or_ge n lo.length with h | h
  · have hp := List.getElem?_eq_getElem h
    by_cases h0 : (popTP (matB L) x.height x.dead ops lo[n].kind).1 = 0
    · exact z6_out (localSet_ok A h32 hx hp hfr h0) (by decide) (by first | exact fun _ g => Grew.kb g A.hB | exact fun _ k => k | exact fun _ k => k.1)
    · exact z6_out (localSet_un A h32 hx hp h0) (by first | decide | exact popsR_e6 _ _ _ _ _ | exact popTP_e6 _ _ _ _ _ | exact popP_e6 _ _ _) (by first | exact fun _ g => Grew.kb g A.hB | exact fun _ k => k | exact fun _ k => k.1)
  · exact z6_out (localSet_no A h32 hx (e := 150) ⟨h, rfl⟩) (by decide) (by first | exact fun _ g => Grew.kb g A.hB | exact fun _ k => k | exact fun _ k => k.1)
theorem localTee_z (A : StA gv L W0 w C lv fv ov g c lo fr ops fs x S es) {n : Nat} (h32 : n < 4294967296) (hx : es[11]? = some (.int .u32 (n : Int))) (hfr : fr.length ≤ 4194304) :
    Calls Tryz.prog 76 #[.pointer (some ⟨S, 0, none⟩)] w (Z6 W0.heap.size w) := by
  rcases Nat.lt_or_ge n lo.length with h | h
  · have hp := List.getElem?_eq_getElem h
    by_cases h0 : (popsR (matB L) x.height x.dead [lo[n].kind].reverse ops).1 = 0
    · exact z6_out (localTee_ok A h32 hx hp hfr h0) (by decide) (by first | exact fun _ g => Grew.kb g A.hB | exact fun _ k => k | exact fun _ k => k.1)
    · exact z6_out (localTee_un A h32 hx hp h0) (by first | decide | exact popsR_e6 _ _ _ _ _ | exact popTP_e6 _ _ _ _ _ | exact popP_e6 _ _ _) (by first | exact fun _ g => Grew.kb g A.hB | exact fun _ k => k | exact fun _ k => k.1)
  · exact z6_out (localTee_no A h32 hx (e := 150) ⟨h, rfl⟩) (by decide) (by first | exact fun _ g => Grew.kb g A.hB | exact fun _ k => k | exact fun _ k => k.1)
theorem memoryInit_z (A : StA gv L W0 w C lv fv ov g c lo fr ops fs x S es) {n : Nat} (h32 : n < 4294967296) (hx : es[11]? = some (.int .u32 (n : Int))) {d : Int} (hd : es[7]? = some (.int .i64 d)) {n2 : Nat} (h322 : n2 < 4294967296) (hy : es[12]? = some (.int .u32 (n2 : Int))) {mv : Value} {M : List LMt} (hm : es[3]? = some mv) (hM : LLm w mv M) :
    Calls Tryz.prog 86 #[.pointer (some ⟨S, 0, none⟩)] w (Z6 W0.heap.size w) := by
  by_cases hdn : d ≤ (n : Int)
  · exact z6_out (memoryInit_no A h32 hx hd hdn) (by decide) (by first | exact fun _ g => Grew.kb g A.hB | exact fun _ k => k | exact fun _ k => k.1)
  rcases Nat.lt_or_ge n2 M.length with h | h
  · exact z6_mp (memoryInit_in A h32 hx hd hdn h322 hy hm hM (List.getElem?_eq_getElem h)) (by first | decide | exact popsR_e6 _ _ _ _ _ | exact popTP_e6 _ _ _ _ _ | exact popP_e6 _ _ _)
  · exact z6_out (memoryInit_out A h32 hx hd hdn h322 hy hm hM h) (by decide) (by first | exact fun _ g => Grew.kb g A.hB | exact fun _ k => k | exact fun _ k => k.1)
theorem memoryCopy_z (A : StA gv L W0 w C lv fv ov g c lo fr ops fs x S es) {n : Nat} (h32 : n < 4294967296) (hx : es[11]? = some (.int .u32 (n : Int))) {n2 : Nat} (h322 : n2 < 4294967296) (hy : es[12]? = some (.int .u32 (n2 : Int))) {mv : Value} {M : List LMt} (hm : es[3]? = some mv) (hM : LLm w mv M) :
    Calls Tryz.prog 88 #[.pointer (some ⟨S, 0, none⟩)] w (Z6 W0.heap.size w) := by
  rcases Nat.lt_or_ge n M.length with h | h
  · rcases Nat.lt_or_ge n2 M.length with h2 | h2
    · exact z6_mp (memoryCopy_in A h32 hx h322 hy hm hM (List.getElem?_eq_getElem h) (List.getElem?_eq_getElem h2)) (by first | decide | exact popsR_e6 _ _ _ _ _ | exact popTP_e6 _ _ _ _ _ | exact popP_e6 _ _ _)
    · exact z6_out (memoryCopy_out2 A h32 hx h322 hy hm hM (List.getElem?_eq_getElem h) h2) (by decide) (by first | exact fun _ g => Grew.kb g A.hB | exact fun _ k => k | exact fun _ k => k.1)
  · exact z6_out (memoryCopy_out A h32 hx hm hM h) (by decide) (by first | exact fun _ g => Grew.kb g A.hB | exact fun _ k => k | exact fun _ k => k.1)
theorem tableInit_z (A : StA gv L W0 w C lv fv ov g c lo fr ops fs x S es) {n : Nat} (h32 : n < 4294967296) (hx : es[11]? = some (.int .u32 (n : Int))) {n2 : Nat} (h322 : n2 < 4294967296) (hy : es[12]? = some (.int .u32 (n2 : Int))) {mv2 : Value} {M2 : List TBt} (hm2 : es[2]? = some mv2) (hM2 : LTb w mv2 M2) {tv : Value} {TT : List RT} (ht : es[0]? = some tv) (hT : LR w tv TT) (hfit : Fit TT) (htab : Tab w) {mv : Value} {M : List VT} (hm : es[6]? = some mv) (hM : LV w mv M) :
    Calls Tryz.prog 90 #[.pointer (some ⟨S, 0, none⟩)] w (Z6 W0.heap.size w) := by
  rcases Nat.lt_or_ge n M.length with h | h
  · have hp := List.getElem?_eq_getElem h
    rcases Nat.lt_or_ge n2 M2.length with h2 | h2
    · have hp2 := List.getElem?_eq_getElem h2
      cases hval : valS TT M[n] M2[n2].el with
      | false => exact z6_out (tableInit_no A h32 hx h322 hy hm2 hM2 ht hT hfit htab hm hM hp hp2 hval) (by decide) (by first | exact fun _ g => Grew.kb g A.hB | exact fun _ k => k | exact fun _ k => k.1)
      | true => exact z6_mp (tableInit_in A h32 hx h322 hy hm2 hM2 ht hT hfit htab hm hM hp hp2 hval) (by first | decide | exact popsR_e6 _ _ _ _ _ | exact popTP_e6 _ _ _ _ _ | exact popP_e6 _ _ _)
    · exact z6_out (tableInit_out2 A h32 hx h322 hy hm2 hM2 hm hM hp h2) (by decide) (by first | exact fun _ g => Grew.kb g A.hB | exact fun _ k => k | exact fun _ k => k.1)
  · exact z6_out (tableInit_out A h32 hx hm hM h) (by decide) (by first | exact fun _ g => Grew.kb g A.hB | exact fun _ k => k | exact fun _ k => k.1)
theorem tableCopy_z (A : StA gv L W0 w C lv fv ov g c lo fr ops fs x S es) {n : Nat} (h32 : n < 4294967296) (hx : es[11]? = some (.int .u32 (n : Int))) {n2 : Nat} (h322 : n2 < 4294967296) (hy : es[12]? = some (.int .u32 (n2 : Int))) {tv : Value} {TT : List RT} (ht : es[0]? = some tv) (hT : LR w tv TT) (hfit : Fit TT) (htab : Tab w) {mv : Value} {M : List TBt} (hm : es[2]? = some mv) (hM : LTb w mv M) :
    Calls Tryz.prog 92 #[.pointer (some ⟨S, 0, none⟩)] w (Z6 W0.heap.size w) := by
  rcases Nat.lt_or_ge n M.length with h | h
  · have hp := List.getElem?_eq_getElem h
    rcases Nat.lt_or_ge n2 M.length with h2 | h2
    · have hp2 := List.getElem?_eq_getElem h2
      cases hval : valS TT M[n2].el M[n].el with
      | false => exact z6_out (tableCopy_no A h32 hx h322 hy ht hT hfit htab hm hM hp hp2 hval) (by decide) (by first | exact fun _ g => Grew.kb g A.hB | exact fun _ k => k | exact fun _ k => k.1)
      | true => exact z6_mp (tableCopy_in A h32 hx h322 hy ht hT hfit htab hm hM hp hp2 hval) (by first | decide | exact popsR_e6 _ _ _ _ _ | exact popTP_e6 _ _ _ _ _ | exact popP_e6 _ _ _)
    · exact z6_out (tableCopy_out2 A h32 hx h322 hy hm hM hp h2) (by decide) (by first | exact fun _ g => Grew.kb g A.hB | exact fun _ k => k | exact fun _ k => k.1)
  · exact z6_out (tableCopy_out A h32 hx hm hM h) (by decide) (by first | exact fun _ g => Grew.kb g A.hB | exact fun _ k => k | exact fun _ k => k.1)
theorem operator_z (A : StA gv L W0 w C lv fv ov g c lo fr ops fs x S es) {op : Int} (hx : es[10]? = some (.int .i64 op)) (h : isOpB op = true) (hT : TabS w) :
    Calls Tryz.prog 85 #[.pointer (some ⟨S, 0, none⟩)] w (Z6 W0.heap.size w) := by
  exact z6_mp (operator_yes A hx h hT) (by first | decide | exact popsR_e6 _ _ _ _ _ | exact popTP_e6 _ _ _ _ _ | exact popP_e6 _ _ _)
theorem choose_z (A : StA gv L W0 w C lv fv ov g c lo fr ops fs x S es) (he : (popTP (matB L) x.height x.dead ops ⟨1, false, 0⟩).1 ≠ 0) :
    Calls Tryz.prog 72 #[.pointer (some ⟨S, 0, none⟩)] w (Z6 W0.heap.size w) := by
  exact z6_mp (choose_no A he) (by first | decide | exact popsR_e6 _ _ _ _ _ | exact popTP_e6 _ _ _ _ _ | exact popP_e6 _ _ _)
theorem chooseOf_z (A : StA gv L W0 w C lv fv ov g c lo fr ops fs x S es) {tv : Value} {T : List RT} (ht : es[0]? = some tv) (hT : LR w tv T) (hmx : T.length ≤ 1048576) (hc : cntT T ≤ 1048576) {sv : Value} {l : List VT} (hs : es[25]? = some sv) (hl : LV w sv l) :
    Calls Tryz.prog 73 #[.pointer (some ⟨S, 0, none⟩)] w (Z6 W0.heap.size w) := by
  match l, hl with
  | [], hl => exact z6_out (chooseOf_len A hs hl (by simp)) (by decide) (by first | exact fun _ g => Grew.kb g A.hB | exact fun _ k => k | exact fun _ k => k.1)
  | [p], hl =>
    cases hk : knownB T p with
    | false => exact z6_out (chooseOf_no A ht hT hmx hc hs hl hk) (by decide) (by first | exact fun _ g => Grew.kb g A.hB | exact fun _ k => k | exact fun _ k => k.1)
    | true => exact z6_mp (chooseOf_ok A ht hT hmx hc hs hl hk) (by first | decide | exact popsR_e6 _ _ _ _ _ | exact popTP_e6 _ _ _ _ _ | exact popP_e6 _ _ _)
  | p :: q :: l, hl => exact z6_out (chooseOf_len A hs hl (by simp)) (by decide) (by first | exact fun _ g => Grew.kb g A.hB | exact fun _ k => k | exact fun _ k => k.1)
theorem load_z (A : StA gv L W0 w C lv fv ov g c lo fr ops fs x S es) {n : Nat} (h32 : n < 4294967296) (hx : es[15]? = some (.int .u32 (n : Int))) {mv : Value} {M : List LMt} (hm : es[3]? = some mv) (hM : LLm w mv M) {op vn vb : Int} {vs : Bool} (ho : es[10]? = some (.int .i64 op)) (h40 : 40 ≤ op) (h62 : op ≤ 62) (hr : accL[(op - 40).toNat]? = some (vn, vb, vs)) (hT : TabA w) {al off : Int} (hal : es[14]? = some (.int .u32 al)) (hof : es[16]? = some (.int .u64 off)) (hal0 : 0 ≤ al) :
    Calls Tryz.prog 81 #[.pointer (some ⟨S, 0, none⟩)] w (Z6 W0.heap.size w) := by
  rcases Nat.lt_or_ge n M.length with h | h
  · have hp := List.getElem?_eq_getElem h
    by_cases hz : IntKind.u64.wrap vb / 2 ^ min al.toNat 64 = 0
    · exact z6_out (load_no (access_al A h32 hx hm hM hp ho h40 h62 hr hT hal hof hal0 hz) (by decide)) (by decide) (by first | exact fun _ g => Grew.kb g A.hB | exact fun _ k => k | exact fun _ k => k.1)
    cases hwd : M[n].wide with
    | true => exact z6_mp (load_in A (access_wide A h32 hx hm hM hp ho h40 h62 hr hT hal hof hal0 hz hwd)) (by first | decide | exact popsR_e6 _ _ _ _ _ | exact popTP_e6 _ _ _ _ _ | exact popP_e6 _ _ _)
    | false =>
      by_cases hof2 : off ≤ 4294967295
      · exact z6_mp (load_in A (access_narrow A h32 hx hm hM hp ho h40 h62 hr hT hal hof hal0 hz hwd hof2)) (by first | decide | exact popsR_e6 _ _ _ _ _ | exact popTP_e6 _ _ _ _ _ | exact popP_e6 _ _ _)
      · exact z6_out (load_no (access_of A h32 hx hm hM hp ho h40 h62 hr hT hal hof hal0 hz hwd (by omega)) (by decide)) (by decide) (by first | exact fun _ g => Grew.kb g A.hB | exact fun _ k => k | exact fun _ k => k.1)
  · exact z6_out (load_no (access_out A h32 hx hm hM h) (by decide)) (by decide) (by first | exact fun _ g => Grew.kb g A.hB | exact fun _ k => k | exact fun _ k => k.1)
theorem store_z (A : StA gv L W0 w C lv fv ov g c lo fr ops fs x S es) {n : Nat} (h32 : n < 4294967296) (hx : es[15]? = some (.int .u32 (n : Int))) {mv : Value} {M : List LMt} (hm : es[3]? = some mv) (hM : LLm w mv M) {op vn vb : Int} {vs : Bool} (ho : es[10]? = some (.int .i64 op)) (h40 : 40 ≤ op) (h62 : op ≤ 62) (hr : accL[(op - 40).toNat]? = some (vn, vb, vs)) (hT : TabA w) {al off : Int} (hal : es[14]? = some (.int .u32 al)) (hof : es[16]? = some (.int .u64 off)) (hal0 : 0 ≤ al) :
    Calls Tryz.prog 82 #[.pointer (some ⟨S, 0, none⟩)] w (Z6 W0.heap.size w) := by
  rcases Nat.lt_or_ge n M.length with h | h
  · have hp := List.getElem?_eq_getElem h
    by_cases hz : IntKind.u64.wrap vb / 2 ^ min al.toNat 64 = 0
    · exact z6_out (store_no (access_al A h32 hx hm hM hp ho h40 h62 hr hT hal hof hal0 hz) (by decide)) (by decide) (by first | exact fun _ g => Grew.kb g A.hB | exact fun _ k => k | exact fun _ k => k.1)
    cases hwd : M[n].wide with
    | true => exact z6_mp (store_in A (access_wide A h32 hx hm hM hp ho h40 h62 hr hT hal hof hal0 hz hwd)) (by first | decide | exact popsR_e6 _ _ _ _ _ | exact popTP_e6 _ _ _ _ _ | exact popP_e6 _ _ _)
    | false =>
      by_cases hof2 : off ≤ 4294967295
      · exact z6_mp (store_in A (access_narrow A h32 hx hm hM hp ho h40 h62 hr hT hal hof hal0 hz hwd hof2)) (by first | decide | exact popsR_e6 _ _ _ _ _ | exact popTP_e6 _ _ _ _ _ | exact popP_e6 _ _ _)
      · exact z6_out (store_no (access_of A h32 hx hm hM hp ho h40 h62 hr hT hal hof hal0 hz hwd (by omega)) (by decide)) (by decide) (by first | exact fun _ g => Grew.kb g A.hB | exact fun _ k => k | exact fun _ k => k.1)
  · exact z6_out (store_no (access_out A h32 hx hm hM h) (by decide)) (by decide) (by first | exact fun _ g => Grew.kb g A.hB | exact fun _ k => k | exact fun _ k => k.1)
end
end Go.Proofs.YtikaidokllnifaaGreatDoor
namespace Go.Proofs.YtikaidokllnifaaGreatDoor
open Go.RowKit Go.Maps
set_option linter.unusedVariables false
set_option linter.unusedSimpArgs false
/- Functions as an element of a map reads: the function's number, -1 for none. -/
def funElem : Value → Option (DataW Unit × List MemPlace)
  | .func (.func n) f c => if f.size = 0 ∧ c.size = 0 then some (.lit (.int .i64 (n : Int)), []) else none
  | .nilFunc => some (.lit (.int .i64 (-1)), [])
  | _ => none
theorem funElem_fn (n : Nat) : funElem (.func (.func n) #[] #[]) = some (.lit (.int .i64 (n : Int)), []) := rfl
theorem funElem_nil : funElem .nilFunc = some (.lit (.int .i64 (-1)), []) := rfl
theorem funElem_inv {v : Value} {ps : List MemPlace} {c : Int} (h : funElem v = some (.lit (.int .i64 c), ps)) : (c = -1 ∧ v = .nilFunc) ∨ ∃ n : Nat, c = (n : Int) ∧ v = .func (.func n) #[] #[] := by
  unfold funElem at h
  split at h
  · split at h
    · rename_i hs
      have h1 := Array.eq_empty_of_size_eq_zero hs.1
      have h2 := Array.eq_empty_of_size_eq_zero hs.2
      subst h1 h2
      simp only [Option.some.injEq, Prod.mk.injEq, DataW.lit.injEq, Lit.int.injEq] at h
      exact Or.inr ⟨_, h.1.2.symm, rfl⟩
    · cases h
  · simp only [Option.some.injEq, Prod.mk.injEq, DataW.lit.injEq, Lit.int.injEq] at h
    exact Or.inl ⟨h.1.2.symm, rfl⟩
  · cases h
def VSL : List (Int × Nat) := [(26, 71), (27, 72), (28, 73), (32, 74), (33, 75), (34, 76), (35, 77), (36, 78), (37, 79), (38, 80), (40, 81), (54, 82), (63, 83), (64, 84), (65, 85), (64520, 86), (64521, 87), (64522, 88), (64523, 89), (64524, 90), (64525, 91), (64526, 92), (64527, 93), (64528, 94), (64529, 95)]
def lookS (k : Int) : List (Int × Nat) → Int
  | [] => -1
  | x :: l => if x.1 = k then (x.2 : Int) else lookS k l
def stepF (k : Int) : Int := lookS k VSL
theorem lawI : Keyed Tryz.prog 3 := int_keyed Tryz.underlying3
theorem zeroFn (w : World) : (zeroValue 89).run Tryz.prog w = .ok .nilFunc w := by kernel_rfl
def putS (l : List (Int × Nat)) (D : DataW Unit) : Prop := IsMap D ∧ ∀ k : Int, Maps.has D (.int .i64 k) = decide (lookS k l ≠ -1) ∧ D.atKey (.int .i64 k) (.lit (.int .i64 (-1))) = .lit (.int .i64 (lookS k l))
theorem look_snoc (k : Int) (x : Int × Nat) : ∀ l : List (Int × Nat), (∀ y ∈ l, y.1 ≠ x.1) → lookS k (l ++ [x]) = if x.1 = k then (x.2 : Int) else lookS k l
  | [], _ => rfl
  | y :: l, h => by
    have h1 := h y (by simp)
    rw [List.cons_append, lookS, lookS, look_snoc k x l (fun z hz => h z (by simp [hz]))]
    by_cases hy : y.1 = k
    · rw [if_pos hy, if_pos hy, if_neg (fun hx => h1 (hy.trans hx.symm))]
    · rw [if_neg hy, if_neg hy]
theorem putS.put {l : List (Int × Nat)} {D : DataW Unit} {x : Int × Nat} (h : putS l D) (hm : IsMap (D.put (.int .i64 x.1) (.lit (.int .i64 ((x.2 : Nat) : Int))))) (hl : ∀ y ∈ l, y.1 ≠ x.1) : putS (l ++ [x]) (D.put (.int .i64 x.1) (.lit (.int .i64 ((x.2 : Nat) : Int)))) := by
  refine ⟨hm, fun k => ?_⟩
  rw [look_snoc k x l hl]
  by_cases hk : x.1 = k
  · subst hk
    rw [if_pos rfl]
    exact ⟨by rw [has_put_same h.1 (k := .int .i64 x.1) trivial _]; simp, atKey_put_same h.1 (k := .int .i64 x.1) trivial _ _⟩
  · rw [if_neg hk]
    have hne : (Lit.int .i64 k) ≠ .int .i64 x.1 := fun e => hk (by injection e with _ e; exact e.symm)
    exact ⟨(has_put_other hne _).trans (h.2 k).1, (atKey_put_other hne _ _).trans (h.2 k).2⟩
/- Block b is the map of the first steps. -/
def StM (n : Nat) (w : World) (b : Nat) : Prop := ∃ D : DataW Unit, w.ownsMap Tryz.prog 3 funElem b n D ∧ putS (VSL.take n) D
theorem StM.grew {n : Nat} {w w' : World} {b : Nat} (h : StM n w b) (g : Grew w w') : StM n w' b := by
  obtain ⟨D, ⟨es, clock, h1, h2⟩, hF⟩ := h
  exact ⟨D, ⟨es, clock, (g.1.block b (lt_of_obj h1)).trans h1, h2⟩, hF⟩
theorem StM.lt {n : Nat} {w : World} {b : Nat} (h : StM n w b) : b < w.heap.size := by
  obtain ⟨D, hD, _⟩ := h
  exact hD.lt
theorem StM.made (w : World) : StM 0 (w.alloc (.map #[] 0)) w.heap.size :=
  ⟨.map [], World.ownsMap_made _ _ _ _, (World.ownsMap_made w Tryz.prog 3 funElem).isMap, fun s => ⟨rfl, rfl⟩⟩
theorem VSL_len : VSL.length = 25 := by decide +kernel
theorem VSL_apart : ∀ n : Fin 25, ∀ x, VSL[n.val]? = some x → ∀ y ∈ VSL.take n.val, y.1 ≠ x.1 := by decide +kernel
section
variable {w : World} {ops : Array Oper} {rest : List Oper} {o : Oper} {a : Act} {Q : Exit → Act → World → Prop}
theorem wp_ins (hg : o.guard = none) (m x v : Operand) (hop : o.op = Op.insert 91 m x v) {b n : Nat} (hm : a.eval m = .map (some b)) (hF : StM n w b) {k : Int} {f : Nat} (hn : VSL[n]? = some (k, f)) (hn2 : n < 25) (hx : a.eval x = .int .i64 k) (hv : a.eval v = .func (.func f) #[] #[]) (hc : (Lit.int .i64 k).wf = true)
    (hK : ∀ w', StM (n + 1) w' b → w.grownBy w' (some b) → wpList Tryz.prog ops Q rest (a.put o.dst undef) w') : wpList Tryz.prog ops Q (o :: rest) a w := by
  obtain ⟨D, hD, hF⟩ := hF
  refine wpList_plain hg fun K' hK' => ?_
  obtain ⟨w', hrun, r1, r2⟩ := hD.update lawI Tryz.underlying91 (by unfold maxLen; omega) (keyOf_int_mk Tryz.underlying3 hc) (funElem_fn f)
  unfold Oper.wp
  simp [execOp, hop, hm, hx, hv, hrun, Result.andThen]
  refine hK' _ _ (hK w' ⟨_, r1, ?_⟩ r2)
  obtain ⟨h', he⟩ := List.getElem?_eq_some_iff.1 hn
  rw [List.take_succ_eq_append_getElem h', he]
  exact hF.put (x := (k, f)) r1.isMap (VSL_apart ⟨n, hn2⟩ _ hn)
theorem lookS_ok {w : World} {b : Nat} (hF : StM 25 w b) {k : Int} (hc : (Lit.int .i64 k).wf = true) : ∃ v, ((stepF k = -1 ∧ v = .nilFunc) ∨ ∃ n : Nat, stepF k = (n : Int) ∧ v = .func (.func n) #[] #[]) ∧ (Instr.lookup 91 (.map (some b)) (.int .i64 k) true).run Tryz.prog w = .ok (.tuple #[v, .bool (decide (stepF k ≠ -1))]) w := by
  obtain ⟨D, hD, hF⟩ := hF
  obtain ⟨v, ps, hrun, hv⟩ := hD.look_ok lawI Tryz.underlying91 (zeroFn w) funElem_nil (keyOf_int_mk Tryz.underlying3 hc)
  rw [(hF.2 k).2, ← VSL_len, List.take_length] at hv
  refine ⟨v, funElem_inv hv, ?_⟩
  rw [hrun, (hF.2 k).1, ← VSL_len, List.take_length]
  rfl
end
def StopI (p : Prop) : Prop := p
theorem stop_ins {P : Program} {ops : Array Oper} {rest : List Oper} {o : Oper} {a : Act} {w : World} {Q : Exit → Act → World → Prop} (ty : TypeId) {m x v : Operand} (ho : o.op = .insert ty m x v) (h : StopI (wpList P ops Q (o :: rest) a w)) : wpList P ops Q (o :: rest) a w := h
theorem grew_by {w0 w w' : World} {b : Nat} (g : Grew w0 w) (h : w.grownBy w' (some b)) (hb : w0.heap.size ≤ b) : Grew w0 w' := by
  refine ⟨⟨h.os.trans g.1.os, h.tape.trans g.1.tape, h.output.trans g.1.output, Nat.le_trans g.1.size h.size, fun k hk => ?_⟩, Nat.le_trans g.2 h.size⟩
  rw [h.block k (Nat.lt_of_lt_of_le hk g.2) (fun e => by injection e with e; omega)]
  exact g.1.block k hk
theorem steps_any (w : World) : Calls Tryz.prog 36 #[] w fun en w' => en = .returned (.map (some w.heap.size)) ∧ StM 25 w' w.heap.size ∧ Grew w w' := by
  have S0 : Hid (StM 0 (w.alloc (.map #[] 0)) w.heap.size) := StM.made w
  have G0 : Hid (Grew w (w.alloc (.map #[] 0))) := (Grew.refl w).alloc _
  have hmm := @run_makeMap Tryz.prog
  go_enter Tryz.func36, Tryz.ntmps36
  go_wp2_with (first
    | with_reducible refine stop_ins 91 rfl ?_
    | fail)
  unfold StopI
  have S := S0.out
  have G := G0.out
  clear S0 G0 hmm
  iterate 25 (refine wp_ins rfl _ _ _ rfl rfl S rfl (by decide) rfl rfl rfl ?_; intro w' S g'; have G := grew_by G g' (Nat.le_refl _))
  have S1 : Hid (StM 25 _ _) := S
  have G1 : Hid (Grew _ _) := G
  clear S G
  go_wp2_with fail
  go_ret
  exact ⟨rfl, S1.out, G1.out⟩
end Go.Proofs.YtikaidokllnifaaGreatDoor
namespace Go.Proofs.YtikaidokllnifaaGreatDoor
open Go.RowKit
set_option linter.unusedVariables false
set_option linter.unusedSimpArgs false
/- The method that a group has in the table. -/
theorem stepF_mem {k : Int} {n : Nat} (h : stepF k = (n : Int)) : (k, n) ∈ VSL := by
  have go : ∀ l : List (Int × Nat), lookS k l = (n : Int) → (k, n) ∈ l := by
    intro l
    induction l with
    | nil => intro h; simp only [lookS] at h; omega
    | cons y l ih =>
      intro h
      simp only [lookS] at h
      by_cases e : y.1 = k
      · rw [if_pos e] at h
        obtain ⟨a, b⟩ := y
        simp only at e h
        have hb : b = n := by omega
        rw [e, hb]
        exact List.mem_cons_self ..
      · rw [if_neg e] at h
        exact List.mem_cons_of_mem _ (ih h)
  exact go VSL h
theorem grp_40 {op : Int} (h : grpF op = 40) : 40 ≤ op ∧ op ≤ 53 := by
  unfold grpF at h; (repeat' split at h) <;> omega
theorem grp_54 {op : Int} (h : grpF op = 54) : 54 ≤ op ∧ op ≤ 62 := by
  unfold grpF at h; (repeat' split at h) <;> omega
theorem grp_65 {op : Int} (h : grpF op = 65) : isOpB op = true := by
  have : (65 ≤ op ∧ op ≤ 196) ∨ (64512 ≤ op ∧ op ≤ 64519) := by
    unfold grpF at h; (repeat' split at h) <;> omega
  unfold isOpB
  rcases this with h | h <;> simp [h]
theorem acc_row {op : Int} (h40 : 40 ≤ op) (h62 : op ≤ 62) : ∃ vn vb vs, accL[(op - 40).toNat]? = some (vn, vb, vs) := by
  have h : (op - 40).toNat < accL.length := by rw [acc_len]; omega
  exact ⟨_, _, _, List.getElem?_eq_getElem h⟩
section
variable {gv : Value} {L : List RT} {W0 w : World} {C : Nat} {lv fv ov : Value} {g c : Nat} {lo : List LO} {fr : List Int} {ops : List VT} {fs : List FV} {x : FV} {S : Nat} {es : Array Value}
theorem meth_z (A : StA gv L W0 w C lv fv ov g c lo fr ops fs x S es) {op : Int} (ho : es[10]? = some (.int .i64 op))
    {nx : Nat} (h32 : nx < 4294967296) (hx : es[11]? = some (.int .u32 (nx : Int))) {ny : Nat} (h322 : ny < 4294967296) (hy : es[12]? = some (.int .u32 (ny : Int)))
    {al off : Int} (hal : es[14]? = some (.int .u32 al)) (hal0 : 0 ≤ al) {me : Nat} (hme : me < 4294967296) (hmem : es[15]? = some (.int .u32 (me : Int))) (hof : es[16]? = some (.int .u64 off))
    {tv : Value} {TT : List RT} (ht : es[0]? = some tv) (hT : LR w tv TT) (hmx : TT.length ≤ 1048576) (hc : cntT TT ≤ 1048576) (hfit : Fit TT) (htab : Tab w)
    {tbv : Value} {TB : List TBt} (htb : es[2]? = some tbv) (hTB : LTb w tbv TB)
    {mv : Value} {M : List LMt} (hm : es[3]? = some mv) (hM : LLm w mv M)
    {glv : Value} {GL : List GLt} (hgl : es[4]? = some glv) (hGL : LGl w glv GL)
    {elv : Value} {EL : List VT} (hel : es[6]? = some elv) (hEL : LV w elv EL)
    {d : Int} (hd : es[7]? = some (.int .i64 d))
    {sv : Value} {sl : List VT} (hs : es[25]? = some sv) (hsl : LV w sv sl)
    (hfr : fr.length ≤ 4194304) (hch : (popTP (matB L) x.height x.dead ops ⟨1, false, 0⟩).1 ≠ 0) (hTS : TabS w) (hTA : TabA w)
    {n : Nat} (hn : stepF (grpF op) = (n : Int)) : Calls Tryz.prog n #[.pointer (some ⟨S, 0, none⟩)] w (Z6 W0.heap.size w) := by
  have h := stepF_mem hn
  obtain ⟨k, hk⟩ : ∃ k, k = grpF op := ⟨_, rfl⟩
  rw [← hk] at h
  clear hn
  simp only [VSL, List.mem_cons, List.mem_nil_iff, or_false, Prod.mk.injEq] at h
  rcases h with ⟨e, rfl⟩ | ⟨e, rfl⟩ | ⟨e, rfl⟩ | ⟨e, rfl⟩ | ⟨e, rfl⟩ | ⟨e, rfl⟩ | ⟨e, rfl⟩ | ⟨e, rfl⟩ | ⟨e, rfl⟩ | ⟨e, rfl⟩ | ⟨e, rfl⟩ | ⟨e, rfl⟩ | ⟨e, rfl⟩ | ⟨e, rfl⟩ | ⟨e, rfl⟩ | ⟨e, rfl⟩ | ⟨e, rfl⟩ | ⟨e, rfl⟩ | ⟨e, rfl⟩ | ⟨e, rfl⟩ | ⟨e, rfl⟩ | ⟨e, rfl⟩ | ⟨e, rfl⟩ | ⟨e, rfl⟩ | ⟨e, rfl⟩
  · exact drop_z A
  · exact choose_z A hch
  · exact chooseOf_z A ht hT hmx hc hs hsl
  · exact localGet_z A h32 hx
  · exact localSet_z A h32 hx hfr
  · exact localTee_z A h32 hx hfr
  · exact globalGet_z A h32 hx hgl hGL
  · exact globalSet_z A h32 hx hgl hGL
  · exact tableGet_z A h32 hx htb hTB
  · exact tableSet_z A h32 hx htb hTB
  · obtain ⟨h40, h62⟩ := grp_40 (hk.symm.trans e)
    obtain ⟨vn, vb, vs, hr⟩ := acc_row h40 (by omega)
    exact load_z A hme hmem hm hM ho h40 (by omega) hr hTA hal hof hal0
  · obtain ⟨h40, h62⟩ := grp_54 (hk.symm.trans e)
    obtain ⟨vn, vb, vs, hr⟩ := acc_row (op := op) (by omega) (by omega)
    exact store_z A hme hmem hm hM ho (by omega) (by omega) hr hTA hal hof hal0
  · exact memorySize_z A h32 hx hm hM
  · exact memoryGrow_z A h32 hx hm hM
  · exact operator_z A ho (grp_65 (hk.symm.trans e)) hTS
  · exact memoryInit_z A h32 hx hd h322 hy hm hM
  · exact dataDrop_z A h32 hx hd
  · exact memoryCopy_z A h32 hx h322 hy hm hM
  · exact memoryFill_z A h32 hx hm hM
  · exact tableInit_z A h32 hx h322 hy htb hTB ht hT hfit htab hel hEL
  · exact elemDrop_z A h32 hx hel hEL
  · exact tableCopy_z A h32 hx h322 hy ht hT hfit htab htb hTB
  · exact tableGrow_z A h32 hx htb hTB
  · exact tableSize_z A h32 hx htb hTB
  · exact tableFill_z A h32 hx htb hTB
end
end Go.Proofs.YtikaidokllnifaaGreatDoor
