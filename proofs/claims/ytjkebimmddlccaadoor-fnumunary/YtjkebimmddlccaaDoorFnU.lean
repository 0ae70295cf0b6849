/-
  The walks of the library's Ceil, Floor, Trunc, RoundToEven, Sqrt and of fnum's unary; no statement is proved here.
-/
import Derived.Test.YtjkebimmddlccaaDoorFnW
namespace Go.Proofs.YtjkebimmddlccaaDoor
open Go.RowKit
set_option linter.unusedVariables false
set_option linter.unusedSimpArgs false

/- A conversion of floats: its word, or some NaN of a NaN; where the language fixes no value, whatever. -/
def Cnv (s d : FloatKind) (x z : Nat) : Prop := z < 2 ^ d.format.width ∧ (∀ r, floatToFloatBits s x d = some r → z = r) ∧ (s.format.infRung < sz s.format x → d.format.infRung < sz d.format z)
theorem two_k (k : FloatKind) : Two k.format := by cases k <;> simp [Two, FloatKind.format]
theorem run_cnv {P : Program} (s d : FloatKind) (st dt : TypeId) (x : Nat) (hx : x < 2 ^ s.format.width) (hs : P.underlying st = some (.float s)) (hd : P.underlying dt = some (.float d)) (w : World) :
    ∃ z w', (convert st dt (.float s x)).run P w = .ok (.float d z) w' ∧ Cnv s d x z ∧ Grew w w' := by
  by_cases hn : s.format.infRung < sz s.format x
  · have hr := read_nan (two_k s) hn
    by_cases e : s = d
    · subst e
      refine ⟨x, w, by simp [convert, run_underlying hs, run_underlying hd, Conv.floatToFloat], ⟨hx, fun r hr => by simpa [floatToFloatBits] using hr, fun h => h⟩, Grew.refl _⟩
    · refine ⟨(Question.nanConv d x).cut (w.tape w.drawn (.nanConv d x)), w.drew, ?_, ⟨(nan_conv d x _).1, fun r h => ?_, fun _ => (nan_conv d x _).2⟩, (Grew.refl _).drew⟩
      · simp [convert, run_underlying hs, run_underlying hd, Conv.floatToFloat, e, FloatKind.decode, hr, Question.forced]
      · simp [floatToFloatBits, e, FloatKind.decode, hr] at h
  · cases h : floatToFloatBits s x d with
    | some r =>
      refine ⟨r, w, run_convert_float_float w st dt s d x r (by rw [hs]; rfl) hd h, ⟨?_, fun r' hr => Option.some.inj (h.symm.trans hr), fun h' => absurd h' hn⟩, Grew.refl _⟩
      have hb : (Lit.float s x).wf = true := wf_of_lt s x hx
      have := floatToFloatBits_wf hb h
      cases d <;> simp [Lit.wf] at this <;> exact this
    | none =>
      have e : s ≠ d := by intro e; subst e; simp [floatToFloatBits] at h
      obtain ⟨sg, m, i, hr⟩ : ∃ sg m i, s.decode x = .number sg m i := by
        unfold FloatKind.decode
        rcases Nat.lt_or_eq_of_le (Nat.le_of_not_lt hn) with h1 | h1
        · exact ⟨_, _, _, read_fin (two_k s) h1⟩
        · exfalso
          simp [floatToFloatBits, e, FloatKind.decode, read_inf (two_k s) h1] at h
      have hi : (d.decode (d.encode (.number sg m i))).isInfinity = true := by
        simp only [floatToFloatBits, e, if_false, hr] at h
        split at h
        · assumption
        · cases h
      refine ⟨(Question.floatToFloat x).cut (w.tape w.drawn (.floatToFloat x)), w.drew, ?_, ⟨?_, fun r h' => (by rw [h] at h'; cases h'), fun h' => absurd h' hn⟩, (Grew.refl _).drew⟩
      · simp [convert, run_underlying hs, run_underlying hd, Conv.floatToFloat, e, hr, hi, Question.forced]
      · have : (Question.floatToFloat x).cut (w.tape w.drawn (.floatToFloat x)) < 2 ^ 32 := Nat.mod_lt _ (by decide)
        cases d
        · exact this
        · exact Nat.lt_trans this (by decide)
/- A float made whole. -/
def rop (f : Ieee.Format) (way : Ieee.Toward) (x : Nat) : Option Nat := if f.infRung < sz f x then none else some (f.write ((f.read x).integral way))
theorem quiet_nan (s : Bool) (t : Nat) (ht : t < Ieee.double.binade) : Ieee.double.write (.nan s (Ieee.double.quiet t)) < 2 ^ 64 ∧ Ieee.double.infRung < sz Ieee.double (Ieee.double.write (.nan s (Ieee.double.quiet t))) := by
  refine ⟨Ieee.Format.write_lt _ _, ?_⟩
  have q1 : Ieee.double.quiet t < 2 ^ 52 := Nat.or_lt_two_pow (by rw [bn2] at ht; exact ht) (by decide)
  have q2 : Ieee.double.quiet t ≠ 0 := by
    intro h
    have : 2 ^ 51 ≤ Ieee.double.quiet t := Nat.right_le_or
    rw [h] at this
    exact absurd this (by decide)
  generalize Ieee.double.quiet t = q at *
  show _ < sz Ieee.double (Ieee.double.word s (Ieee.double.infRung + q % Ieee.double.binade))
  unfold sz Ieee.Format.word
  rw [bn2, ir2, sw2]
  have q3 : q % 4503599627370496 = q := Nat.mod_eq_of_lt q1
  rw [q3]
  split <;> omega
theorem m2 (x : Nat) (f : Nat → Sem Value) (g : Array Value → Sem Value) : Extern.MathFloor.toIntegral.match_2 (fun _ => Sem Value) #[.float .f64 x] f g = f x := rfl
theorem m3 (x : Nat) (f : Nat → Sem Value) (g : Array Value → Sem Value) : Extern.MathSqrt.sqrt.match_2 (fun _ => Sem Value) #[.float .f64 x] f g = f x := rfl
theorem run_whole {P : Program} (name : String) (way : Ieee.Toward) (x : Nat) (hx : x < 2 ^ 64) (w : World) :
    ∃ z w', (Extern.MathFloor.toIntegral name way #[.float .f64 x]).run P w = .ok (.float .f64 z) w' ∧ Res Ieee.double (rop Ieee.double way x) z ∧ Grew w w' := by
  have hT : Two Ieee.double := by simp [Two]
  by_cases hn : Ieee.double.infRung < sz Ieee.double x
  · have hr : FloatKind.f64.decode x = .nan (ng Ieee.double x) (sz Ieee.double x - Ieee.double.infRung) := read_nan hT hn
    have ht : sz Ieee.double x - Ieee.double.infRung < Ieee.double.binade := by
      have := sz_lt Ieee.double x
      have := inf_bin Ieee.double
      omega
    have hnone : rop Ieee.double way x = none := by simp [rop, hn]
    rw [hnone]
    generalize sz Ieee.double x - Ieee.double.infRung = t at *
    by_cases hq : FloatKind.f64.format.quiet t = t
    · refine ⟨x, w, ?_, ⟨hx, (fun r h => by cases h), fun _ => hn⟩, Grew.refl _⟩
      unfold Extern.MathFloor.toIntegral
      rw [m2, hr]
      simp only [hq, if_true]
      rfl
    · by_cases hk : (Question.extern "math.Floor,Ceil,Trunc,RoundToEven.signallingNaN kept" 2).cut (w.tape w.drawn (.extern "math.Floor,Ceil,Trunc,RoundToEven.signallingNaN kept" 2)) == 1
      · refine ⟨x, w.drew, ?_, ⟨hx, (fun r h => by cases h), fun _ => hn⟩, (Grew.refl _).drew⟩
        unfold Extern.MathFloor.toIntegral
        rw [m2, hr]
        simp only [hq, if_false, Sem.run_bind, run_choose_drew, Question.forced]
        simp
        intro h
        exact absurd (beq_iff_eq.1 hk) h
      · refine ⟨FloatKind.f64.encode (.nan (ng Ieee.double x) (FloatKind.f64.format.quiet t)), w.drew, ?_, ⟨(quiet_nan _ t ht).1, (fun r h => by cases h), fun _ => (quiet_nan _ t ht).2⟩, (Grew.refl _).drew⟩
        unfold Extern.MathFloor.toIntegral
        rw [m2, hr]
        simp only [hq, if_false, Sem.run_bind, run_choose_drew, Question.forced]
        simp
        intro h
        exact absurd (beq_iff_eq.2 h) hk
  · have hsome : rop Ieee.double way x = some (Ieee.double.write ((Ieee.double.read x).integral way)) := by simp [rop, hn]
    rw [hsome]
    refine ⟨Ieee.double.write ((Ieee.double.read x).integral way), w, ?_, ⟨Ieee.Format.write_lt _ _, (fun r h => by cases h; rfl), fun h => by cases h⟩, Grew.refl _⟩
    rcases Nat.lt_or_eq_of_le (Nat.le_of_not_lt hn) with h1 | h1
    · have hr : FloatKind.f64.decode x = _ := read_fin hT h1
      have hr2 : Ieee.double.read x = _ := read_fin hT h1
      unfold Extern.MathFloor.toIntegral
      rw [m2, hr, hr2]
      rfl
    · have hr : FloatKind.f64.decode x = _ := read_inf hT h1
      have hr2 : Ieee.double.read x = _ := read_inf hT h1
      unfold Extern.MathFloor.toIntegral
      rw [m2, hr, hr2]
      rfl
theorem run_sqrt {P : Program} (x : Nat) (w : World) :
    ∃ z w', (Extern.MathSqrt.sqrt #[.float .f64 x]).run P w = .ok (.float .f64 z) w' ∧ Res Ieee.double (Ieee.double.sqrt x) z ∧ Grew w w' := by
  cases h : Ieee.double.sqrt x with
  | some r =>
    refine ⟨r, w, ?_, ⟨Ieee.Format.sqrt_lt _ h, (fun r' h' => by cases h'; rfl), fun h' => by cases h'⟩, Grew.refl _⟩
    have h2 : FloatKind.f64.format.sqrt x = some r := h
    unfold Extern.MathSqrt.sqrt
    rw [m3, h2]
    rfl
  | none =>
    refine ⟨(Question.nanBits .f64 x x).cut (w.tape w.drawn (.nanBits .f64 x x)), w.drew, ?_, ⟨(nan_bits .f64 x x _).1, (fun r h' => by cases h'), fun _ => (nan_bits .f64 x x _).2⟩, (Grew.refl _).drew⟩
    have h2 : FloatKind.f64.format.sqrt x = none := h
    unfold Extern.MathSqrt.sqrt
    rw [m3, h2]
    simp [Question.forced]
theorem xCeil (x : Nat) (hx : x < 2 ^ 64) (w : World) : ∃ z w', (callFunc 81 #[.float .f64 x]).run Tryd.prog w = .ok (.value (.float .f64 z)) w' ∧ Res Ieee.double (rop Ieee.double .up x) z ∧ Grew w w' := by
  obtain ⟨z, w', h, hz, hg⟩ := run_whole (P := Tryd.prog) "math.archCeil" .up x hx w
  refine ⟨z, w', ?_, hz, hg⟩
  rw [run_callFunc_extern (e := Extern.MathFloor.toIntegral "math.archCeil" .up) Tryd.func81 (by kernel_rfl) (by kernel_rfl) (by kernel_rfl) (by kernel_rfl), h]
  rfl
set_option maxRecDepth 100000 in
theorem mCeil (x : Nat) (hx : x < 2 ^ 64) (w : World) :
    Calls Tryd.prog 50 #[.float .f64 x] w fun e w' => ∃ z, e = .returned (.float .f64 z) ∧ Res Ieee.double (rop Ieee.double .up x) z ∧ Grew w w' := by
  obtain ⟨z, w1, hr, hz, hg⟩ := xCeil x hx w
  have HZ : Hid (Res Ieee.double (rop Ieee.double .up x) z) := hz
  have HG : Hid (Grew w w1) := hg
  clear hz hg
  go_enter Tryd.func50, Tryd.ntmps50
  go_wp2
  go_ret
  go_light
  exact ⟨z, rfl, HZ.out, HG.out⟩
theorem xFloor (x : Nat) (hx : x < 2 ^ 64) (w : World) : ∃ z w', (callFunc 83 #[.float .f64 x]).run Tryd.prog w = .ok (.value (.float .f64 z)) w' ∧ Res Ieee.double (rop Ieee.double .down x) z ∧ Grew w w' := by
  obtain ⟨z, w', h, hz, hg⟩ := run_whole (P := Tryd.prog) "math.archFloor" .down x hx w
  refine ⟨z, w', ?_, hz, hg⟩
  rw [run_callFunc_extern (e := Extern.MathFloor.toIntegral "math.archFloor" .down) Tryd.func83 (by kernel_rfl) (by kernel_rfl) (by kernel_rfl) (by kernel_rfl), h]
  rfl
set_option maxRecDepth 100000 in
theorem mFloor (x : Nat) (hx : x < 2 ^ 64) (w : World) :
    Calls Tryd.prog 51 #[.float .f64 x] w fun e w' => ∃ z, e = .returned (.float .f64 z) ∧ Res Ieee.double (rop Ieee.double .down x) z ∧ Grew w w' := by
  obtain ⟨z, w1, hr, hz, hg⟩ := xFloor x hx w
  have HZ : Hid (Res Ieee.double (rop Ieee.double .down x) z) := hz
  have HG : Hid (Grew w w1) := hg
  clear hz hg
  go_enter Tryd.func51, Tryd.ntmps51
  go_wp2
  go_ret
  go_light
  exact ⟨z, rfl, HZ.out, HG.out⟩
theorem xTrunc (x : Nat) (hx : x < 2 ^ 64) (w : World) : ∃ z w', (callFunc 85 #[.float .f64 x]).run Tryd.prog w = .ok (.value (.float .f64 z)) w' ∧ Res Ieee.double (rop Ieee.double .zero x) z ∧ Grew w w' := by
  obtain ⟨z, w', h, hz, hg⟩ := run_whole (P := Tryd.prog) "math.archTrunc" .zero x hx w
  refine ⟨z, w', ?_, hz, hg⟩
  rw [run_callFunc_extern (e := Extern.MathFloor.toIntegral "math.archTrunc" .zero) Tryd.func85 (by kernel_rfl) (by kernel_rfl) (by kernel_rfl) (by kernel_rfl), h]
  rfl
set_option maxRecDepth 100000 in
theorem mTrunc (x : Nat) (hx : x < 2 ^ 64) (w : World) :
    Calls Tryd.prog 52 #[.float .f64 x] w fun e w' => ∃ z, e = .returned (.float .f64 z) ∧ Res Ieee.double (rop Ieee.double .zero x) z ∧ Grew w w' := by
  obtain ⟨z, w1, hr, hz, hg⟩ := xTrunc x hx w
  have HZ : Hid (Res Ieee.double (rop Ieee.double .zero x) z) := hz
  have HG : Hid (Grew w w1) := hg
  clear hz hg
  go_enter Tryd.func52, Tryd.ntmps52
  go_wp2
  go_ret
  go_light
  exact ⟨z, rfl, HZ.out, HG.out⟩
theorem xRound (x : Nat) (hx : x < 2 ^ 64) (w : World) : ∃ z w', (callFunc 53 #[.float .f64 x]).run Tryd.prog w = .ok (.value (.float .f64 z)) w' ∧ Res Ieee.double (rop Ieee.double .even x) z ∧ Grew w w' := by
  obtain ⟨z, w', h, hz, hg⟩ := run_whole (P := Tryd.prog) "math.RoundToEven" .even x hx w
  refine ⟨z, w', ?_, hz, hg⟩
  rw [run_callFunc_extern (e := Extern.MathFloor.toIntegral "math.RoundToEven" .even) Tryd.func53 (by kernel_rfl) (by kernel_rfl) (by kernel_rfl) (by kernel_rfl), h]
  rfl
theorem xSqrt (x : Nat) (w : World) : ∃ z w', (callFunc 87 #[.float .f64 x]).run Tryd.prog w = .ok (.value (.float .f64 z)) w' ∧ Res Ieee.double (Ieee.double.sqrt x) z ∧ Grew w w' := by
  obtain ⟨z, w', h, hz, hg⟩ := run_sqrt (P := Tryd.prog) x w
  refine ⟨z, w', ?_, hz, hg⟩
  rw [run_callFunc_extern (e := Extern.MathSqrt.sqrt) Tryd.func87 (by kernel_rfl) (by kernel_rfl) (by kernel_rfl) (by kernel_rfl), h]
  rfl
set_option maxRecDepth 100000 in
theorem mSqrt (x : Nat) (w : World) :
    Calls Tryd.prog 54 #[.float .f64 x] w fun e w' => ∃ z, e = .returned (.float .f64 z) ∧ Res Ieee.double (Ieee.double.sqrt x) z ∧ Grew w w' := by
  obtain ⟨z, w1, hr, hz, hg⟩ := xSqrt x w
  have HZ : Hid (Res Ieee.double (Ieee.double.sqrt x) z) := hz
  have HG : Hid (Grew w w1) := hg
  clear hz hg
  go_enter Tryd.func54, Tryd.ntmps54
  go_wp2
  go_ret
  go_light
  exact ⟨z, rfl, HZ.out, HG.out⟩
/- What the library's five give at the wide kind. -/
def lop (k : Nat) (x : Nat) : Option Nat :=
  if k = 9 then rop Ieee.double .up x else if k = 10 then rop Ieee.double .down x else if k = 11 then rop Ieee.double .zero x else if k = 12 then rop Ieee.double .even x else Ieee.double.sqrt x
set_option maxRecDepth 100000 in
set_option maxHeartbeats 2000000 in
theorem una32_9 (x : Nat) (hx : x < 2 ^ 32) (w : World) :
    Calls Tryd.prog 23 #[.int .i64 9, .float .f32 x] w fun e w' => ∃ z, e = .returned (.float .f32 z) ∧ (∃ y r, Cnv .f32 .f64 x y ∧ Res Ieee.double (lop 9 y) r ∧ Cnv .f64 .f32 r z) ∧ Grew w w' := by
  obtain ⟨y, w1, hr, hy, hg⟩ := run_cnv (P := Tryd.prog) .f32 .f64 43 47 x hx Tryd.underlying43 Tryd.underlying47 w
  have HY : Hid (Cnv .f32 .f64 x y) := hy
  have HG : Hid (Grew w w1) := hg
  have hy1 : y < 2 ^ 64 := hy.1
  clear hy hg
  have M := mCeil y hy1 w1
  go_enter Tryd.func23, Tryd.ntmps23
  go_wp2_with fail
  refine M.mono ?_
  rintro e w2 ⟨r, rfl, hz, hg2⟩
  have HZ : Hid (Res Ieee.double (lop 9 y) r) := hz
  have HG2 : Hid (Grew w1 w2) := hg2
  obtain ⟨z, w3, hr2, hz3, hg3⟩ := run_cnv (P := Tryd.prog) .f64 .f32 47 43 r hz.1 Tryd.underlying47 Tryd.underlying43 w2
  have HZ3 : Hid (Cnv .f64 .f32 r z) := hz3
  have HG3 : Hid (Grew w2 w3) := hg3
  clear hz hg2 hz3 hg3 hy1
  go_wp2
  go_ret
  go_light
  exact ⟨z, rfl, ⟨y, r, HY.out, HZ.out, HZ3.out⟩, (HG.out.trans HG2.out).trans HG3.out⟩
set_option maxRecDepth 100000 in
set_option maxHeartbeats 2000000 in
theorem una32_10 (x : Nat) (hx : x < 2 ^ 32) (w : World) :
    Calls Tryd.prog 23 #[.int .i64 10, .float .f32 x] w fun e w' => ∃ z, e = .returned (.float .f32 z) ∧ (∃ y r, Cnv .f32 .f64 x y ∧ Res Ieee.double (lop 10 y) r ∧ Cnv .f64 .f32 r z) ∧ Grew w w' := by
  obtain ⟨y, w1, hr, hy, hg⟩ := run_cnv (P := Tryd.prog) .f32 .f64 43 47 x hx Tryd.underlying43 Tryd.underlying47 w
  have HY : Hid (Cnv .f32 .f64 x y) := hy
  have HG : Hid (Grew w w1) := hg
  have hy1 : y < 2 ^ 64 := hy.1
  clear hy hg
  have M := mFloor y hy1 w1
  go_enter Tryd.func23, Tryd.ntmps23
  go_wp2_with fail
  refine M.mono ?_
  rintro e w2 ⟨r, rfl, hz, hg2⟩
  have HZ : Hid (Res Ieee.double (lop 10 y) r) := hz
  have HG2 : Hid (Grew w1 w2) := hg2
  obtain ⟨z, w3, hr2, hz3, hg3⟩ := run_cnv (P := Tryd.prog) .f64 .f32 47 43 r hz.1 Tryd.underlying47 Tryd.underlying43 w2
  have HZ3 : Hid (Cnv .f64 .f32 r z) := hz3
  have HG3 : Hid (Grew w2 w3) := hg3
  clear hz hg2 hz3 hg3 hy1
  go_wp2
  go_ret
  go_light
  exact ⟨z, rfl, ⟨y, r, HY.out, HZ.out, HZ3.out⟩, (HG.out.trans HG2.out).trans HG3.out⟩
set_option maxRecDepth 100000 in
set_option maxHeartbeats 2000000 in
theorem una32_11 (x : Nat) (hx : x < 2 ^ 32) (w : World) :
    Calls Tryd.prog 23 #[.int .i64 11, .float .f32 x] w fun e w' => ∃ z, e = .returned (.float .f32 z) ∧ (∃ y r, Cnv .f32 .f64 x y ∧ Res Ieee.double (lop 11 y) r ∧ Cnv .f64 .f32 r z) ∧ Grew w w' := by
  obtain ⟨y, w1, hr, hy, hg⟩ := run_cnv (P := Tryd.prog) .f32 .f64 43 47 x hx Tryd.underlying43 Tryd.underlying47 w
  have HY : Hid (Cnv .f32 .f64 x y) := hy
  have HG : Hid (Grew w w1) := hg
  have hy1 : y < 2 ^ 64 := hy.1
  clear hy hg
  have M := mTrunc y hy1 w1
  go_enter Tryd.func23, Tryd.ntmps23
  go_wp2_with fail
  refine M.mono ?_
  rintro e w2 ⟨r, rfl, hz, hg2⟩
  have HZ : Hid (Res Ieee.double (lop 11 y) r) := hz
  have HG2 : Hid (Grew w1 w2) := hg2
  obtain ⟨z, w3, hr2, hz3, hg3⟩ := run_cnv (P := Tryd.prog) .f64 .f32 47 43 r hz.1 Tryd.underlying47 Tryd.underlying43 w2
  have HZ3 : Hid (Cnv .f64 .f32 r z) := hz3
  have HG3 : Hid (Grew w2 w3) := hg3
  clear hz hg2 hz3 hg3 hy1
  go_wp2
  go_ret
  go_light
  exact ⟨z, rfl, ⟨y, r, HY.out, HZ.out, HZ3.out⟩, (HG.out.trans HG2.out).trans HG3.out⟩
set_option maxRecDepth 100000 in
set_option maxHeartbeats 2000000 in
theorem una32_12 (x : Nat) (hx : x < 2 ^ 32) (w : World) :
    Calls Tryd.prog 23 #[.int .i64 12, .float .f32 x] w fun e w' => ∃ z, e = .returned (.float .f32 z) ∧ (∃ y r, Cnv .f32 .f64 x y ∧ Res Ieee.double (lop 12 y) r ∧ Cnv .f64 .f32 r z) ∧ Grew w w' := by
  obtain ⟨y, w1, hr, hy, hg⟩ := run_cnv (P := Tryd.prog) .f32 .f64 43 47 x hx Tryd.underlying43 Tryd.underlying47 w
  have HY : Hid (Cnv .f32 .f64 x y) := hy
  have HG : Hid (Grew w w1) := hg
  have hy1 : y < 2 ^ 64 := hy.1
  clear hy hg
  obtain ⟨r, w2, hr1, hz, hg2⟩ := xRound y hy1 w1
  have HZ : Hid (Res Ieee.double (lop 12 y) r) := hz
  have HG2 : Hid (Grew w1 w2) := hg2
  obtain ⟨z, w3, hr2, hz3, hg3⟩ := run_cnv (P := Tryd.prog) .f64 .f32 47 43 r hz.1 Tryd.underlying47 Tryd.underlying43 w2
  have HZ3 : Hid (Cnv .f64 .f32 r z) := hz3
  have HG3 : Hid (Grew w2 w3) := hg3
  clear hz hg2 hz3 hg3 hy1
  go_enter Tryd.func23, Tryd.ntmps23
  go_wp2
  go_ret
  go_light
  exact ⟨z, rfl, ⟨y, r, HY.out, HZ.out, HZ3.out⟩, (HG.out.trans HG2.out).trans HG3.out⟩
set_option maxRecDepth 100000 in
set_option maxHeartbeats 2000000 in
theorem una32_13 (x : Nat) (hx : x < 2 ^ 32) (w : World) :
    Calls Tryd.prog 23 #[.int .i64 13, .float .f32 x] w fun e w' => ∃ z, e = .returned (.float .f32 z) ∧ (∃ y r, Cnv .f32 .f64 x y ∧ Res Ieee.double (lop 13 y) r ∧ Cnv .f64 .f32 r z) ∧ Grew w w' := by
  obtain ⟨y, w1, hr, hy, hg⟩ := run_cnv (P := Tryd.prog) .f32 .f64 43 47 x hx Tryd.underlying43 Tryd.underlying47 w
  have HY : Hid (Cnv .f32 .f64 x y) := hy
  have HG : Hid (Grew w w1) := hg
  have hy1 : y < 2 ^ 64 := hy.1
  clear hy hg
  have M := mSqrt y w1
  go_enter Tryd.func23, Tryd.ntmps23
  go_wp2_with fail
  refine M.mono ?_
  rintro e w2 ⟨r, rfl, hz, hg2⟩
  have HZ : Hid (Res Ieee.double (lop 13 y) r) := hz
  have HG2 : Hid (Grew w1 w2) := hg2
  obtain ⟨z, w3, hr2, hz3, hg3⟩ := run_cnv (P := Tryd.prog) .f64 .f32 47 43 r hz.1 Tryd.underlying47 Tryd.underlying43 w2
  have HZ3 : Hid (Cnv .f64 .f32 r z) := hz3
  have HG3 : Hid (Grew w2 w3) := hg3
  clear hz hg2 hz3 hg3 hy1
  go_wp2
  go_ret
  go_light
  exact ⟨z, rfl, ⟨y, r, HY.out, HZ.out, HZ3.out⟩, (HG.out.trans HG2.out).trans HG3.out⟩
theorem una32_any (k : Nat) (h9 : 9 ≤ k) (h13 : k ≤ 13) (x : Nat) (hx : x < 2 ^ 32) (w : World) :
    Calls Tryd.prog 23 #[.int .i64 (k : Int), .float .f32 x] w fun e w' => ∃ z, e = .returned (.float .f32 z) ∧ (∃ y r, Cnv .f32 .f64 x y ∧ Res Ieee.double (lop k y) r ∧ Cnv .f64 .f32 r z) ∧ Grew w w' := by
  have : k = 9 ∨ k = 10 ∨ k = 11 ∨ k = 12 ∨ k = 13 := by omega
  rcases this with rfl | rfl | rfl | rfl | rfl
  · exact una32_9 x hx w
  · exact una32_10 x hx w
  · exact una32_11 x hx w
  · exact una32_12 x hx w
  · exact una32_13 x hx w
set_option maxRecDepth 100000 in
set_option maxHeartbeats 2000000 in
theorem una64_9 (x : Nat) (hx : x < 2 ^ 64) (w : World) :
    Calls Tryd.prog 26 #[.int .i64 9, .float .f64 x] w fun e w' => ∃ z, e = .returned (.float .f64 z) ∧ Res Ieee.double (lop 9 x) z ∧ Grew w w' := by
  have M := mCeil x hx w
  go_enter Tryd.func26, Tryd.ntmps26
  go_wp2_with fail
  refine M.mono ?_
  rintro e w2 ⟨r, rfl, hz, hg2⟩
  have HZ : Hid (Res Ieee.double (lop 9 x) r) := hz
  have HG2 : Hid (Grew w w2) := hg2
  clear hz hg2
  go_wp2
  go_ret
  go_light
  exact ⟨r, rfl, HZ.out, HG2.out⟩
set_option maxRecDepth 100000 in
set_option maxHeartbeats 2000000 in
theorem una64_10 (x : Nat) (hx : x < 2 ^ 64) (w : World) :
    Calls Tryd.prog 26 #[.int .i64 10, .float .f64 x] w fun e w' => ∃ z, e = .returned (.float .f64 z) ∧ Res Ieee.double (lop 10 x) z ∧ Grew w w' := by
  have M := mFloor x hx w
  go_enter Tryd.func26, Tryd.ntmps26
  go_wp2_with fail
  refine M.mono ?_
  rintro e w2 ⟨r, rfl, hz, hg2⟩
  have HZ : Hid (Res Ieee.double (lop 10 x) r) := hz
  have HG2 : Hid (Grew w w2) := hg2
  clear hz hg2
  go_wp2
  go_ret
  go_light
  exact ⟨r, rfl, HZ.out, HG2.out⟩
set_option maxRecDepth 100000 in
set_option maxHeartbeats 2000000 in
theorem una64_11 (x : Nat) (hx : x < 2 ^ 64) (w : World) :
    Calls Tryd.prog 26 #[.int .i64 11, .float .f64 x] w fun e w' => ∃ z, e = .returned (.float .f64 z) ∧ Res Ieee.double (lop 11 x) z ∧ Grew w w' := by
  have M := mTrunc x hx w
  go_enter Tryd.func26, Tryd.ntmps26
  go_wp2_with fail
  refine M.mono ?_
  rintro e w2 ⟨r, rfl, hz, hg2⟩
  have HZ : Hid (Res Ieee.double (lop 11 x) r) := hz
  have HG2 : Hid (Grew w w2) := hg2
  clear hz hg2
  go_wp2
  go_ret
  go_light
  exact ⟨r, rfl, HZ.out, HG2.out⟩
set_option maxRecDepth 100000 in
set_option maxHeartbeats 2000000 in
theorem una64_12 (x : Nat) (hx : x < 2 ^ 64) (w : World) :
    Calls Tryd.prog 26 #[.int .i64 12, .float .f64 x] w fun e w' => ∃ z, e = .returned (.float .f64 z) ∧ Res Ieee.double (lop 12 x) z ∧ Grew w w' := by
  obtain ⟨r, w2, hr1, hz, hg2⟩ := xRound x hx w
  have HZ : Hid (Res Ieee.double (lop 12 x) r) := hz
  have HG2 : Hid (Grew w w2) := hg2
  clear hz hg2
  go_enter Tryd.func26, Tryd.ntmps26
  go_wp2
  go_ret
  go_light
  exact ⟨r, rfl, HZ.out, HG2.out⟩
set_option maxRecDepth 100000 in
set_option maxHeartbeats 2000000 in
theorem una64_13 (x : Nat) (hx : x < 2 ^ 64) (w : World) :
    Calls Tryd.prog 26 #[.int .i64 13, .float .f64 x] w fun e w' => ∃ z, e = .returned (.float .f64 z) ∧ Res Ieee.double (lop 13 x) z ∧ Grew w w' := by
  have M := mSqrt x w
  go_enter Tryd.func26, Tryd.ntmps26
  go_wp2_with fail
  refine M.mono ?_
  rintro e w2 ⟨r, rfl, hz, hg2⟩
  have HZ : Hid (Res Ieee.double (lop 13 x) r) := hz
  have HG2 : Hid (Grew w w2) := hg2
  clear hz hg2
  go_wp2
  go_ret
  go_light
  exact ⟨r, rfl, HZ.out, HG2.out⟩
theorem una64_any (k : Nat) (h9 : 9 ≤ k) (h13 : k ≤ 13) (x : Nat) (hx : x < 2 ^ 64) (w : World) :
    Calls Tryd.prog 26 #[.int .i64 (k : Int), .float .f64 x] w fun e w' => ∃ z, e = .returned (.float .f64 z) ∧ Res Ieee.double (lop k x) z ∧ Grew w w' := by
  have : k = 9 ∨ k = 10 ∨ k = 11 ∨ k = 12 ∨ k = 13 := by omega
  rcases this with rfl | rfl | rfl | rfl | rfl
  · exact una64_9 x hx w
  · exact una64_10 x hx w
  · exact una64_11 x hx w
  · exact una64_12 x hx w
  · exact una64_13 x hx w
end Go.Proofs.YtjkebimmddlccaaDoor
