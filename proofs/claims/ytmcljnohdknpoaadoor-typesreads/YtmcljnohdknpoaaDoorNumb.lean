/-
  The walks of CutPrefix, of the reader's number and heap; no statement is proved here.
-/
import Derived.Test.YtmcljnohdknpoaaDoorDec
namespace Go.Proofs.YtmcljnohdknpoaaDoor
open Go.RowKit
set_option linter.unusedVariables false
set_option linter.unusedSimpArgs false

def REC : ByteArray := ⟨#[114, 101, 99, 46]⟩
theorem has_yes (d x : ByteArray) (w : World) (h : x.size ≤ d.size) (hx : d.extract 0 x.size = x) :
    Calls Tryd.prog 95 #[.string d, .string x] w fun e w' => e = .returned (.bool true) ∧ w' = w := by
  have hd : decide ((x.size : Int) ≤ (d.size : Int)) = true := by simpa using h
  have hs := same_str x
  go_enter Tryd.func95, Tryd.ntmps95
  go_wp2
  go_ret
  exact ⟨by simp [hx], rfl⟩
theorem has_no (d x : ByteArray) (w : World) (h : ¬ (x.size ≤ d.size ∧ d.extract 0 x.size = x)) :
    Calls Tryd.prog 95 #[.string d, .string x] w fun e w' => e = .returned (.bool false) ∧ w' = w := by
  by_cases hl : x.size ≤ d.size
  · have hd : decide ((x.size : Int) ≤ (d.size : Int)) = true := by simpa using hl
    have hs := other_str (fun hx => h ⟨hl, hx⟩ : d.extract 0 x.size ≠ x)
    clear h
    go_enter Tryd.func95, Tryd.ntmps95
    go_wp2
    go_ret
    exact ⟨by simp [hs], rfl⟩
  · have hd : decide ((x.size : Int) ≤ (d.size : Int)) = false := by simpa using hl
    clear h
    go_enter Tryd.func95, Tryd.ntmps95
    go_wp2
    go_ret
    exact ⟨by simp, rfl⟩
theorem cut_yes (d x : ByteArray) (w : World) (h : x.size ≤ d.size) (hx : d.extract 0 x.size = x) :
    Calls Tryd.prog 83 #[.string d, .string x] w fun e w' => e = .returned (.tuple #[.string (d.extract x.size d.size), .bool true]) ∧ w' = w := by
  have C := fun w => has_yes d x w h hx
  clear hx
  go_enter Tryd.func83, Tryd.ntmps83
  go_wp2_with (first | (go_at_call 95; refine (C _).mono ?_; rintro e w' ⟨rfl, rfl⟩) | go_in)
  go_ret2
  exact ⟨rfl, rfl⟩
theorem cut_no (d x : ByteArray) (w : World) (h : ¬ (x.size ≤ d.size ∧ d.extract 0 x.size = x)) :
    Calls Tryd.prog 83 #[.string d, .string x] w fun e w' => e = .returned (.tuple #[.string d, .bool false]) ∧ w' = w := by
  have C := fun w => has_no d x w h
  clear h
  go_enter Tryd.func83, Tryd.ntmps83
  go_wp2_with (first | (go_at_call 95; refine (C _).mono ?_; rintro e w' ⟨rfl, rfl⟩) | go_in)
  go_ret2
  exact ⟨rfl, rfl⟩
/- The number of a defined type that a word tells, rolled or not. -/
def isRec (x : ByteArray) : Bool := decide (4 ≤ x.size ∧ x.extract 0 4 = REC)
def numAt (x : ByteArray) : Option Int := if isRec x = true then (num9 (x.extract 4 x.size).data.toList).map fun n : Nat => -100 - (n : Int) else (num9 x.data.toList).map fun n : Nat => (n : Int)
theorem map_some {α β : Type} {f : α → β} {o : Option α} {b : β} (h : o.map f = some b) : ∃ a, o = some a ∧ f a = b := by
  cases o with
  | none => cases h
  | some a => exact ⟨a, rfl, Option.some.inj h⟩
theorem map_none {α β : Type} {f : α → β} {o : Option α} (h : o.map f = none) : o = none := by
  cases o with
  | none => rfl
  | some a => cases h
set_option maxRecDepth 100000 in
theorem number_ok {w : World} {b : Nat} {s : ByteArray} {p : Nat} {n : Int} (h : RD w b s p) (hs : s.size ≤ 65536) (he : Env w) (hn : numAt (tk s p) = some n) :
    Calls Tryd.prog 67 #[.pointer (some ⟨b, 0, none⟩)] w fun en w' => en = .returned (.int .i64 n) ∧ Turn [b] w w' ∧ RD w' b s (nx s p) := by
  have hz := tk_size s p h.2.1
  have hz2 := tend_size s p h.2.1
  have c1 := cell_of h.1 1
  simp at c1
  have S : Hid (∀ w1, Grew w w1 → Calls Tryd.prog 36 #[.pointer (some ⟨b, 0, none⟩)] w1 fun en w' => en = .returned (.tuple #[]) ∧ Turn [b] w1 w' ∧ RD w' b s (nx s p)) := fun w1 g => (h.grew g).step hs
  have hts : (tk s p).size ≤ 65536 := by omega
  unfold numAt at hn
  split at hn
  · rename_i hr'
    have hr := of_decide_eq_true hr'
    obtain ⟨u, hu, rfl⟩ := map_some hn
    have C : Calls Tryd.prog 83 #[.string (tk s p), .string ⟨#[114, 101, 99, 46]⟩] w fun e w' => e = .returned (.tuple #[.string ((tk s p).extract 4 (tk s p).size), .bool true]) ∧ w' = w := cut_yes (tk s p) REC w hr.1 hr.2
    have D : Hid (∀ w1, Grew w w1 → Calls Tryd.prog 84 #[.string ((tk s p).extract 4 (tk s p).size)] w1 fun e w' => e = .returned (.tuple #[.int .i64 (u : Int), .bool true]) ∧ Grew w1 w') := fun w1 g => decimal_ok (he.grew g) ((tk s p).extract 4 (tk s p).size) (by rw [ByteArray.size_extract]; omega) u hu
    have hlt := (num9_inv hu).2
    clear hn hr' hr hz hz2 hts hu h
    generalize tk s p = x at *
    go_enter Tryd.func67, Tryd.ntmps67
    go_wp2_with fail
    refine C.mono ?_
    rintro en w1 ⟨rfl, h1⟩
    obtain rfl := h1.symm
    go_wp2_with fail
    refine (D.out _ (Grew.refl _)).mono ?_
    rintro en w2 ⟨rfl, g2⟩
    have G2 : Hid (Grew w w2) := g2
    clear g2
    go_wp2_with fail
    refine (S.out _ G2.out).mono ?_
    rintro en w3 ⟨rfl, t3, r3⟩
    have T3 : Hid (Turn [b] w w3) := (G2.out.turn [b]).trans t3
    have R3 : Hid (RD w3 b s (nx s p)) := r3
    clear t3 r3
    go_wp2_with fail
    go_ret
    exact ⟨by simp, T3.out, R3.out⟩
  · rename_i hr'
    have hr : ¬ (4 ≤ (tk s p).size ∧ (tk s p).extract 0 4 = REC) := fun h => hr' (decide_eq_true h)
    obtain ⟨u, hu, rfl⟩ := map_some hn
    have C : Calls Tryd.prog 83 #[.string (tk s p), .string ⟨#[114, 101, 99, 46]⟩] w fun e w' => e = .returned (.tuple #[.string (tk s p), .bool false]) ∧ w' = w := cut_no (tk s p) REC w hr
    have D : Hid (∀ w1, Grew w w1 → Calls Tryd.prog 84 #[.string (tk s p)] w1 fun e w' => e = .returned (.tuple #[.int .i64 (u : Int), .bool true]) ∧ Grew w1 w') := fun w1 g => decimal_ok (he.grew g) (tk s p) hts u hu
    have hlt := (num9_inv hu).2
    clear hn hr' hr hz hz2 hts hu h
    generalize tk s p = x at *
    go_enter Tryd.func67, Tryd.ntmps67
    go_wp2_with fail
    refine C.mono ?_
    rintro en w1 ⟨rfl, h1⟩
    obtain rfl := h1.symm
    go_wp2_with fail
    refine (D.out _ (Grew.refl _)).mono ?_
    rintro en w2 ⟨rfl, g2⟩
    have G2 : Hid (Grew w w2) := g2
    clear g2
    go_wp2_with fail
    refine (S.out _ G2.out).mono ?_
    rintro en w3 ⟨rfl, t3, r3⟩
    have T3 : Hid (Turn [b] w w3) := (G2.out.turn [b]).trans t3
    have R3 : Hid (RD w3 b s (nx s p)) := r3
    clear t3 r3
    go_wp2_with fail
    go_ret
    exact ⟨by simp, T3.out, R3.out⟩
set_option maxRecDepth 100000 in
theorem number_bad {w : World} {b : Nat} {s : ByteArray} {p : Nat} (h : RD w b s p) (hs : s.size ≤ 65536) (he : Env w) (hn : numAt (tk s p) = none) :
    Calls Tryd.prog 67 #[.pointer (some ⟨b, 0, none⟩)] w fun en w' => en = .panicked (flt p) ∧ Grew w w' := by
  have hz := tk_size s p h.2.1
  have hz2 := tend_size s p h.2.1
  have c1 := cell_of h.1 1
  simp at c1
  have S : Hid (∀ w1, Grew w w1 → Calls Tryd.prog 60 #[.pointer (some ⟨b, 0, none⟩)] w1 fun en w' => en = .panicked (flt p) ∧ w' = w1) := fun w1 g => giveUp_any b s (tk s p) p w1 (h.grew g).1
  have hts : (tk s p).size ≤ 65536 := by omega
  unfold numAt at hn
  split at hn
  · rename_i hr'
    have hr := of_decide_eq_true hr'
    have hu := map_none hn
    have C : Calls Tryd.prog 83 #[.string (tk s p), .string ⟨#[114, 101, 99, 46]⟩] w fun e w' => e = .returned (.tuple #[.string ((tk s p).extract 4 (tk s p).size), .bool true]) ∧ w' = w := cut_yes (tk s p) REC w hr.1 hr.2
    have D : Hid (∀ w1, Grew w w1 → Calls Tryd.prog 84 #[.string ((tk s p).extract 4 (tk s p).size)] w1 fun e w' => ∃ n : Int, e = .returned (.tuple #[.int .i64 n, .bool false]) ∧ Grew w1 w') := fun w1 g => decimal_bad (he.grew g) ((tk s p).extract 4 (tk s p).size) (by rw [ByteArray.size_extract]; omega) hu
    clear hn hr' hr hz hz2 hts hu h
    generalize tk s p = x at *
    go_enter Tryd.func67, Tryd.ntmps67
    go_wp2_with fail
    refine C.mono ?_
    rintro en w1 ⟨rfl, h1⟩
    obtain rfl := h1.symm
    go_wp2_with fail
    refine (D.out _ (Grew.refl _)).mono ?_
    rintro en w2 ⟨n, rfl, g2⟩
    have G2 : Hid (Grew w w2) := g2
    clear g2
    go_wp2_with fail
    refine (S.out _ G2.out).mono ?_
    rintro en w3 ⟨rfl, h3⟩
    obtain rfl := h3.symm
    go_wp2_with fail
    exact ⟨rfl, rfl, G2.out⟩
  · rename_i hr'
    have hr : ¬ (4 ≤ (tk s p).size ∧ (tk s p).extract 0 4 = REC) := fun h => hr' (decide_eq_true h)
    have hu := map_none hn
    have C : Calls Tryd.prog 83 #[.string (tk s p), .string ⟨#[114, 101, 99, 46]⟩] w fun e w' => e = .returned (.tuple #[.string (tk s p), .bool false]) ∧ w' = w := cut_no (tk s p) REC w hr
    have D : Hid (∀ w1, Grew w w1 → Calls Tryd.prog 84 #[.string (tk s p)] w1 fun e w' => ∃ n : Int, e = .returned (.tuple #[.int .i64 n, .bool false]) ∧ Grew w1 w') := fun w1 g => decimal_bad (he.grew g) (tk s p) hts hu
    clear hn hr' hr hz hz2 hts hu h
    generalize tk s p = x at *
    go_enter Tryd.func67, Tryd.ntmps67
    go_wp2_with fail
    refine C.mono ?_
    rintro en w1 ⟨rfl, h1⟩
    obtain rfl := h1.symm
    go_wp2_with fail
    refine (D.out _ (Grew.refl _)).mono ?_
    rintro en w2 ⟨n, rfl, g2⟩
    have G2 : Hid (Grew w w2) := g2
    clear g2
    go_wp2_with fail
    refine (S.out _ G2.out).mono ?_
    rintro en w3 ⟨rfl, h3⟩
    obtain rfl := h3.symm
    go_wp2_with fail
    exact ⟨rfl, rfl, G2.out⟩
end Go.Proofs.YtmcljnohdknpoaaDoor
