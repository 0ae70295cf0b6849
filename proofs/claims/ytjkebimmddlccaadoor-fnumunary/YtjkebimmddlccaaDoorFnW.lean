/-
  The walks of fnum's computing calls on floats; no statement is proved here.
-/
import Derived.Test.YtjkebimmddlccaaDoorNaF
namespace Go.Proofs.YtjkebimmddlccaaDoor
open Go.RowKit
set_option linter.unusedVariables false
set_option linter.unusedSimpArgs false

/- What an operation leaves: its word, or some NaN where it has none. -/
def Res (f : Ieee.Format) (o : Option Nat) (z : Nat) : Prop := z < 2 ^ f.width ∧ (∀ r, o = some r → z = r) ∧ (o = none → f.infRung < sz f z)
theorem nan_cut32 (t : Nat) : (t % 2) * 2 ^ 31 + 0x7f800000 + 1 + (t / 2) % (2 ^ 23 - 1) < 2 ^ Ieee.single.width ∧ Ieee.single.infRung < sz Ieee.single ((t % 2) * 2 ^ 31 + 0x7f800000 + 1 + (t / 2) % (2 ^ 23 - 1)) := by
  unfold sz
  rw [wi1, ir1, sw1]
  have h1 : t % 2 < 2 := Nat.mod_lt _ (by decide)
  have h2 : (t / 2) % (2 ^ 23 - 1) < 2 ^ 23 - 1 := Nat.mod_lt _ (by decide)
  generalize (t / 2) % (2 ^ 23 - 1) = y at *
  generalize t % 2 = x at *
  omega
theorem nan_cut64 (t : Nat) : (t % 2) * 2 ^ 63 + 0x7ff0000000000000 + 1 + (t / 2) % (2 ^ 52 - 1) < 2 ^ Ieee.double.width ∧ Ieee.double.infRung < sz Ieee.double ((t % 2) * 2 ^ 63 + 0x7ff0000000000000 + 1 + (t / 2) % (2 ^ 52 - 1)) := by
  unfold sz
  rw [wi2, ir2, sw2]
  have h1 : t % 2 < 2 := Nat.mod_lt _ (by decide)
  have h2 : (t / 2) % (2 ^ 52 - 1) < 2 ^ 52 - 1 := Nat.mod_lt _ (by decide)
  generalize (t / 2) % (2 ^ 52 - 1) = y at *
  generalize t % 2 = x at *
  omega
theorem nan_bits (k : FloatKind) (x y t : Nat) : (Question.nanBits k x y).cut t < 2 ^ k.format.width ∧ k.format.infRung < sz k.format ((Question.nanBits k x y).cut t) := by
  cases k
  · exact nan_cut32 t
  · exact nan_cut64 t
theorem nan_minmax (k : FloatKind) (m : Bool) (x y t : Nat) : (Question.nanMinMax k m x y).cut t < 2 ^ k.format.width ∧ k.format.infRung < sz k.format ((Question.nanMinMax k m x y).cut t) := by
  cases k
  · exact nan_cut32 t
  · exact nan_cut64 t
theorem nan_conv (k : FloatKind) (x t : Nat) : (Question.nanConv k x).cut t < 2 ^ k.format.width ∧ k.format.infRung < sz k.format ((Question.nanConv k x).cut t) := by
  cases k
  · exact nan_cut32 t
  · exact nan_cut64 t
theorem run_arith {P : Program} (op : BinOp) (hop : op = .add ∨ op = .sub ∨ op = .mul ∨ op = .quo) (t : TypeId) (k : FloatKind) (x y : Nat) (w : World) :
    ∃ z w', (binOp op t (.float k x) (.float k y)).run P w = .ok (.float k z) w' ∧ Res k.format (floatBits op k x y) z ∧ Grew w w' := by
  cases h : floatBits op k x y with
  | some r =>
    refine ⟨r, w, run_float_arith w op t k x y r h, ⟨?_, fun s hs => by cases hs; rfl, fun hn => by cases hn⟩, Grew.refl _⟩
    have := floatBits_wf h
    cases k <;> simp [Lit.wf] at this <;> exact this
  | none =>
    refine ⟨(Question.nanBits k x y).cut (w.tape w.drawn (.nanBits k x y)), w.drew, ?_, ⟨(nan_bits k x y _).1, (fun r hr => by cases hr), fun _ => (nan_bits k x y _).2⟩, (Grew.refl _).drew⟩
    unfold floatBits at h
    rcases hop with rfl | rfl | rfl | rfl <;> simp only at h <;> simp [binOp, Op.floatArith, h, Question.forced]
/- min and max. -/
def mm (f : Ieee.Format) (m : Bool) (x y : Nat) : Option Nat :=
  match f.order x y with
  | none => none
  | some .lt => some (if m then y else x)
  | some .gt => some (if m then x else y)
  | some .eq => some (if (f.read x).neg = m then y else x)
theorem run_min {P : Program} (t u : TypeId) (ts : Array TypeId) (k : FloatKind) (x y : Nat) (hx : x < 2 ^ k.format.width) (hy : y < 2 ^ k.format.width) (w : World) :
    ∃ z w', (Builtin.min_ ts t #[.float k x, .float k y]).run P w = .ok (.float k z) w' ∧ Res k.format (mm k.format false x y) z ∧ Grew w w' := by
  cases h : k.format.order x y with
  | none =>
    refine ⟨(Question.nanMinMax k false x y).cut (w.tape w.drawn (.nanMinMax k false x y)), w.drew, ?_, ⟨(nan_minmax k _ x y _).1, (fun r hr => by simp [mm, h] at hr), fun _ => (nan_minmax k _ x y _).2⟩, (Grew.refl _).drew⟩
    simp [Builtin.min_, Builtin.min2, h, Question.forced]
  | some c =>
    cases c
    · refine ⟨x, w, by simp [Builtin.min_, Builtin.min2, h], ⟨hx, (fun r hr => by simpa [mm, h] using hr), fun hn => by simp [mm, h] at hn⟩, Grew.refl _⟩
    · refine ⟨if (k.decode x).neg then x else y, w, by simp [Builtin.min_, Builtin.min2, h], ⟨by split <;> assumption, (fun r hr => by
        simp only [mm, h, Option.some.injEq] at hr
        rw [← hr]
        unfold FloatKind.decode
        cases (k.format.read x).neg <;> simp), fun hn => by simp [mm, h] at hn⟩, Grew.refl _⟩
    · refine ⟨y, w, by simp [Builtin.min_, Builtin.min2, h], ⟨hy, (fun r hr => by simpa [mm, h] using hr), fun hn => by simp [mm, h] at hn⟩, Grew.refl _⟩
theorem run_max {P : Program} (t u : TypeId) (ts : Array TypeId) (k : FloatKind) (x y : Nat) (hx : x < 2 ^ k.format.width) (hy : y < 2 ^ k.format.width) (w : World) :
    ∃ z w', (Builtin.max_ ts t #[.float k x, .float k y]).run P w = .ok (.float k z) w' ∧ Res k.format (mm k.format true x y) z ∧ Grew w w' := by
  cases h : k.format.order x y with
  | none =>
    refine ⟨(Question.nanMinMax k true x y).cut (w.tape w.drawn (.nanMinMax k true x y)), w.drew, ?_, ⟨(nan_minmax k _ x y _).1, (fun r hr => by simp [mm, h] at hr), fun _ => (nan_minmax k _ x y _).2⟩, (Grew.refl _).drew⟩
    simp [Builtin.max_, Builtin.max2, h, Question.forced]
  | some c =>
    cases c
    · refine ⟨y, w, by simp [Builtin.max_, Builtin.max2, h], ⟨hy, (fun r hr => by simpa [mm, h] using hr), fun hn => by simp [mm, h] at hn⟩, Grew.refl _⟩
    · refine ⟨if (k.decode x).neg then y else x, w, by simp [Builtin.max_, Builtin.max2, h], ⟨by split <;> assumption, (fun r hr => by
        simp only [mm, h, Option.some.injEq] at hr
        rw [← hr]
        unfold FloatKind.decode
        cases (k.format.read x).neg <;> simp), fun hn => by simp [mm, h] at hn⟩, Grew.refl _⟩
    · refine ⟨x, w, by simp [Builtin.max_, Builtin.max2, h], ⟨hx, (fun r hr => by simpa [mm, h] using hr), fun hn => by simp [mm, h] at hn⟩, Grew.refl _⟩
/- What the six operators give. -/
def bop (f : Ieee.Format) (k : Nat) (x y : Nat) : Option Nat :=
  if k = 0 then f.add x y else if k = 1 then f.sub x y else if k = 2 then f.mul x y else if k = 3 then f.div x y else mm f (k == 5) x y
set_option maxRecDepth 100000 in
theorem bin32_0 (x y : Nat) (hx : x < 2 ^ 32) (hy : y < 2 ^ 32) (w : World) :
    Calls Tryd.prog 30 #[.int .i64 14, .float .f32 x, .float .f32 y] w fun e w' => ∃ z, e = .returned (.float .f32 z) ∧ Res Ieee.single (bop Ieee.single 0 x y) z ∧ Grew w w' := by
  obtain ⟨z, w1, hr, hz, hg⟩ := run_arith .add (by simp) (P := Tryd.prog) 43 .f32 x y w
  have HZ : Hid (Res Ieee.single (bop Ieee.single 0 x y) z) := hz
  have HG : Hid (Grew w w1) := hg
  clear hz hg
  go_enter Tryd.func30, Tryd.ntmps30
  go_wp2
  go_ret
  go_light
  exact ⟨z, rfl, HZ.out, HG.out⟩
set_option maxRecDepth 100000 in
theorem bin32_1 (x y : Nat) (hx : x < 2 ^ 32) (hy : y < 2 ^ 32) (w : World) :
    Calls Tryd.prog 30 #[.int .i64 15, .float .f32 x, .float .f32 y] w fun e w' => ∃ z, e = .returned (.float .f32 z) ∧ Res Ieee.single (bop Ieee.single 1 x y) z ∧ Grew w w' := by
  obtain ⟨z, w1, hr, hz, hg⟩ := run_arith .sub (by simp) (P := Tryd.prog) 43 .f32 x y w
  have HZ : Hid (Res Ieee.single (bop Ieee.single 1 x y) z) := hz
  have HG : Hid (Grew w w1) := hg
  clear hz hg
  go_enter Tryd.func30, Tryd.ntmps30
  go_wp2
  go_ret
  go_light
  exact ⟨z, rfl, HZ.out, HG.out⟩
set_option maxRecDepth 100000 in
theorem bin32_2 (x y : Nat) (hx : x < 2 ^ 32) (hy : y < 2 ^ 32) (w : World) :
    Calls Tryd.prog 30 #[.int .i64 16, .float .f32 x, .float .f32 y] w fun e w' => ∃ z, e = .returned (.float .f32 z) ∧ Res Ieee.single (bop Ieee.single 2 x y) z ∧ Grew w w' := by
  obtain ⟨z, w1, hr, hz, hg⟩ := run_arith .mul (by simp) (P := Tryd.prog) 43 .f32 x y w
  have HZ : Hid (Res Ieee.single (bop Ieee.single 2 x y) z) := hz
  have HG : Hid (Grew w w1) := hg
  clear hz hg
  go_enter Tryd.func30, Tryd.ntmps30
  go_wp2
  go_ret
  go_light
  exact ⟨z, rfl, HZ.out, HG.out⟩
set_option maxRecDepth 100000 in
theorem bin32_3 (x y : Nat) (hx : x < 2 ^ 32) (hy : y < 2 ^ 32) (w : World) :
    Calls Tryd.prog 30 #[.int .i64 17, .float .f32 x, .float .f32 y] w fun e w' => ∃ z, e = .returned (.float .f32 z) ∧ Res Ieee.single (bop Ieee.single 3 x y) z ∧ Grew w w' := by
  obtain ⟨z, w1, hr, hz, hg⟩ := run_arith .quo (by simp) (P := Tryd.prog) 43 .f32 x y w
  have HZ : Hid (Res Ieee.single (bop Ieee.single 3 x y) z) := hz
  have HG : Hid (Grew w w1) := hg
  clear hz hg
  go_enter Tryd.func30, Tryd.ntmps30
  go_wp2
  go_ret
  go_light
  exact ⟨z, rfl, HZ.out, HG.out⟩
set_option maxRecDepth 100000 in
theorem bin32_4 (x y : Nat) (hx : x < 2 ^ 32) (hy : y < 2 ^ 32) (w : World) :
    Calls Tryd.prog 30 #[.int .i64 18, .float .f32 x, .float .f32 y] w fun e w' => ∃ z, e = .returned (.float .f32 z) ∧ Res Ieee.single (bop Ieee.single 4 x y) z ∧ Grew w w' := by
  obtain ⟨z, w1, hr, hz, hg⟩ := run_min (P := Tryd.prog) 43 0 #[43, 43] .f32 x y hx hy w
  have HZ : Hid (Res Ieee.single (bop Ieee.single 4 x y) z) := hz
  have HG : Hid (Grew w w1) := hg
  clear hz hg
  go_enter Tryd.func30, Tryd.ntmps30
  go_wp2
  go_ret
  go_light
  exact ⟨z, rfl, HZ.out, HG.out⟩
set_option maxRecDepth 100000 in
theorem bin32_5 (x y : Nat) (hx : x < 2 ^ 32) (hy : y < 2 ^ 32) (w : World) :
    Calls Tryd.prog 30 #[.int .i64 19, .float .f32 x, .float .f32 y] w fun e w' => ∃ z, e = .returned (.float .f32 z) ∧ Res Ieee.single (bop Ieee.single 5 x y) z ∧ Grew w w' := by
  obtain ⟨z, w1, hr, hz, hg⟩ := run_max (P := Tryd.prog) 43 0 #[43, 43] .f32 x y hx hy w
  have HZ : Hid (Res Ieee.single (bop Ieee.single 5 x y) z) := hz
  have HG : Hid (Grew w w1) := hg
  clear hz hg
  go_enter Tryd.func30, Tryd.ntmps30
  go_wp2
  go_ret
  go_light
  exact ⟨z, rfl, HZ.out, HG.out⟩
theorem bin32_any (k : Nat) (hk : k < 6) (x y : Nat) (hx : x < 2 ^ 32) (hy : y < 2 ^ 32) (w : World) :
    Calls Tryd.prog 30 #[.int .i64 ((14 + k : Nat) : Int), .float .f32 x, .float .f32 y] w fun e w' => ∃ z, e = .returned (.float .f32 z) ∧ Res Ieee.single (bop Ieee.single k x y) z ∧ Grew w w' := by
  have : k = 0 ∨ k = 1 ∨ k = 2 ∨ k = 3 ∨ k = 4 ∨ k = 5 := by omega
  rcases this with rfl | rfl | rfl | rfl | rfl | rfl
  · exact bin32_0 x y hx hy w
  · exact bin32_1 x y hx hy w
  · exact bin32_2 x y hx hy w
  · exact bin32_3 x y hx hy w
  · exact bin32_4 x y hx hy w
  · exact bin32_5 x y hx hy w
theorem bits32 (b : Nat) (w : World) : (callFunc 49 #[.float .f32 b]).run Tryd.prog w = .ok (.value (.int .u32 b)) w := by
  rw [run_callFunc_extern (e := Extern.MathFloatBits.float32bits) Tryd.func49 (by kernel_rfl) (by kernel_rfl) (by kernel_rfl) (by kernel_rfl)]
  rfl
set_option maxRecDepth 100000 in
theorem lay32_nan (z : Nat) (hn : Ieee.single.infRung < sz Ieee.single z) (w : World) :
    Calls Tryd.prog 22 #[.float .f32 z] w fun e w' => e = .returned (.int .u64 (cn Ieee.single : Int)) ∧ w' = w := by
  have I' := fun w : World => isNaN32_any z w
  simp only [hn, decide_true] at I'
  have I : Hid (∀ w : World, Calls Tryd.prog 48 #[.float .f32 z] w fun e w' => e = .returned (.bool true) ∧ w' = w) := I'
  rw [cn1]
  go_enter Tryd.func22, Tryd.ntmps22
  go_wp2_with (go_at_call 48; refine (I.out _).mono ?_; rintro e w' ⟨rfl, rfl⟩)
  go_ret
  go_light
  exact ⟨rfl, rfl⟩
set_option maxRecDepth 100000 in
theorem lay32_num (z : Nat) (hz : z < 2 ^ 32) (hn : ¬ Ieee.single.infRung < sz Ieee.single z) (w : World) :
    Calls Tryd.prog 22 #[.float .f32 z] w fun e w' => e = .returned (.int .u64 (z : Int)) ∧ w' = w := by
  have I' := fun w : World => isNaN32_any z w
  simp only [hn, decide_false] at I'
  have I : Hid (∀ w : World, Calls Tryd.prog 48 #[.float .f32 z] w fun e w' => e = .returned (.bool false) ∧ w' = w) := I'
  have hz' : z < 4294967296 := hz
  go_enter Tryd.func22, Tryd.ntmps22
  go_wp2_with (go_at_call 48; refine (I.out _).mono ?_; rintro e w' ⟨rfl, rfl⟩)
  rw [bits32]
  go_wp2
  go_ret
  go_light
  exact ⟨by first | rfl | (congr 2; omega), rfl⟩
theorem lay32_any (o : Option Nat) (z : Nat) (hz : Res Ieee.single o z) (hno : ∀ r, o = some r → ¬ Ieee.single.infRung < sz Ieee.single r) (w : World) :
    Calls Tryd.prog 22 #[.float .f32 z] w fun e w' => e = .returned (.int .u64 ((o.getD (cn Ieee.single) : Nat) : Int)) ∧ w' = w := by
  obtain ⟨h0, h1, h2⟩ := hz
  cases o with
  | none => exact lay32_nan z (h2 rfl) w
  | some r =>
    have := h1 r rfl
    subst this
    exact lay32_num z h0 (hno z rfl) w
set_option maxRecDepth 100000 in
theorem bin64_0 (x y : Nat) (hx : x < 2 ^ 64) (hy : y < 2 ^ 64) (w : World) :
    Calls Tryd.prog 31 #[.int .i64 14, .float .f64 x, .float .f64 y] w fun e w' => ∃ z, e = .returned (.float .f64 z) ∧ Res Ieee.double (bop Ieee.double 0 x y) z ∧ Grew w w' := by
  obtain ⟨z, w1, hr, hz, hg⟩ := run_arith .add (by simp) (P := Tryd.prog) 47 .f64 x y w
  have HZ : Hid (Res Ieee.double (bop Ieee.double 0 x y) z) := hz
  have HG : Hid (Grew w w1) := hg
  clear hz hg
  go_enter Tryd.func31, Tryd.ntmps31
  go_wp2
  go_ret
  go_light
  exact ⟨z, rfl, HZ.out, HG.out⟩
set_option maxRecDepth 100000 in
theorem bin64_1 (x y : Nat) (hx : x < 2 ^ 64) (hy : y < 2 ^ 64) (w : World) :
    Calls Tryd.prog 31 #[.int .i64 15, .float .f64 x, .float .f64 y] w fun e w' => ∃ z, e = .returned (.float .f64 z) ∧ Res Ieee.double (bop Ieee.double 1 x y) z ∧ Grew w w' := by
  obtain ⟨z, w1, hr, hz, hg⟩ := run_arith .sub (by simp) (P := Tryd.prog) 47 .f64 x y w
  have HZ : Hid (Res Ieee.double (bop Ieee.double 1 x y) z) := hz
  have HG : Hid (Grew w w1) := hg
  clear hz hg
  go_enter Tryd.func31, Tryd.ntmps31
  go_wp2
  go_ret
  go_light
  exact ⟨z, rfl, HZ.out, HG.out⟩
set_option maxRecDepth 100000 in
theorem bin64_2 (x y : Nat) (hx : x < 2 ^ 64) (hy : y < 2 ^ 64) (w : World) :
    Calls Tryd.prog 31 #[.int .i64 16, .float .f64 x, .float .f64 y] w fun e w' => ∃ z, e = .returned (.float .f64 z) ∧ Res Ieee.double (bop Ieee.double 2 x y) z ∧ Grew w w' := by
  obtain ⟨z, w1, hr, hz, hg⟩ := run_arith .mul (by simp) (P := Tryd.prog) 47 .f64 x y w
  have HZ : Hid (Res Ieee.double (bop Ieee.double 2 x y) z) := hz
  have HG : Hid (Grew w w1) := hg
  clear hz hg
  go_enter Tryd.func31, Tryd.ntmps31
  go_wp2
  go_ret
  go_light
  exact ⟨z, rfl, HZ.out, HG.out⟩
set_option maxRecDepth 100000 in
theorem bin64_3 (x y : Nat) (hx : x < 2 ^ 64) (hy : y < 2 ^ 64) (w : World) :
    Calls Tryd.prog 31 #[.int .i64 17, .float .f64 x, .float .f64 y] w fun e w' => ∃ z, e = .returned (.float .f64 z) ∧ Res Ieee.double (bop Ieee.double 3 x y) z ∧ Grew w w' := by
  obtain ⟨z, w1, hr, hz, hg⟩ := run_arith .quo (by simp) (P := Tryd.prog) 47 .f64 x y w
  have HZ : Hid (Res Ieee.double (bop Ieee.double 3 x y) z) := hz
  have HG : Hid (Grew w w1) := hg
  clear hz hg
  go_enter Tryd.func31, Tryd.ntmps31
  go_wp2
  go_ret
  go_light
  exact ⟨z, rfl, HZ.out, HG.out⟩
set_option maxRecDepth 100000 in
theorem bin64_4 (x y : Nat) (hx : x < 2 ^ 64) (hy : y < 2 ^ 64) (w : World) :
    Calls Tryd.prog 31 #[.int .i64 18, .float .f64 x, .float .f64 y] w fun e w' => ∃ z, e = .returned (.float .f64 z) ∧ Res Ieee.double (bop Ieee.double 4 x y) z ∧ Grew w w' := by
  obtain ⟨z, w1, hr, hz, hg⟩ := run_min (P := Tryd.prog) 47 0 #[47, 47] .f64 x y hx hy w
  have HZ : Hid (Res Ieee.double (bop Ieee.double 4 x y) z) := hz
  have HG : Hid (Grew w w1) := hg
  clear hz hg
  go_enter Tryd.func31, Tryd.ntmps31
  go_wp2
  go_ret
  go_light
  exact ⟨z, rfl, HZ.out, HG.out⟩
set_option maxRecDepth 100000 in
theorem bin64_5 (x y : Nat) (hx : x < 2 ^ 64) (hy : y < 2 ^ 64) (w : World) :
    Calls Tryd.prog 31 #[.int .i64 19, .float .f64 x, .float .f64 y] w fun e w' => ∃ z, e = .returned (.float .f64 z) ∧ Res Ieee.double (bop Ieee.double 5 x y) z ∧ Grew w w' := by
  obtain ⟨z, w1, hr, hz, hg⟩ := run_max (P := Tryd.prog) 47 0 #[47, 47] .f64 x y hx hy w
  have HZ : Hid (Res Ieee.double (bop Ieee.double 5 x y) z) := hz
  have HG : Hid (Grew w w1) := hg
  clear hz hg
  go_enter Tryd.func31, Tryd.ntmps31
  go_wp2
  go_ret
  go_light
  exact ⟨z, rfl, HZ.out, HG.out⟩
theorem bin64_any (k : Nat) (hk : k < 6) (x y : Nat) (hx : x < 2 ^ 64) (hy : y < 2 ^ 64) (w : World) :
    Calls Tryd.prog 31 #[.int .i64 ((14 + k : Nat) : Int), .float .f64 x, .float .f64 y] w fun e w' => ∃ z, e = .returned (.float .f64 z) ∧ Res Ieee.double (bop Ieee.double k x y) z ∧ Grew w w' := by
  have : k = 0 ∨ k = 1 ∨ k = 2 ∨ k = 3 ∨ k = 4 ∨ k = 5 := by omega
  rcases this with rfl | rfl | rfl | rfl | rfl | rfl
  · exact bin64_0 x y hx hy w
  · exact bin64_1 x y hx hy w
  · exact bin64_2 x y hx hy w
  · exact bin64_3 x y hx hy w
  · exact bin64_4 x y hx hy w
  · exact bin64_5 x y hx hy w
theorem bits64 (b : Nat) (w : World) : (callFunc 56 #[.float .f64 b]).run Tryd.prog w = .ok (.value (.int .u64 b)) w := by
  rw [run_callFunc_extern (e := Extern.MathFloatBits.float64bits) Tryd.func56 (by kernel_rfl) (by kernel_rfl) (by kernel_rfl) (by kernel_rfl)]
  rfl
set_option maxRecDepth 100000 in
theorem lay64_nan (z : Nat) (hn : Ieee.double.infRung < sz Ieee.double z) (w : World) :
    Calls Tryd.prog 25 #[.float .f64 z] w fun e w' => e = .returned (.int .u64 (cn Ieee.double : Int)) ∧ w' = w := by
  have I' := fun w : World => isNaN64_any z w
  simp only [hn, decide_true] at I'
  have I : Hid (∀ w : World, Calls Tryd.prog 47 #[.float .f64 z] w fun e w' => e = .returned (.bool true) ∧ w' = w) := I'
  rw [cn2]
  go_enter Tryd.func25, Tryd.ntmps25
  go_wp2_with (go_at_call 47; refine (I.out _).mono ?_; rintro e w' ⟨rfl, rfl⟩)
  go_ret
  go_light
  exact ⟨rfl, rfl⟩
set_option maxRecDepth 100000 in
theorem lay64_num (z : Nat) (hz : z < 2 ^ 64) (hn : ¬ Ieee.double.infRung < sz Ieee.double z) (w : World) :
    Calls Tryd.prog 25 #[.float .f64 z] w fun e w' => e = .returned (.int .u64 (z : Int)) ∧ w' = w := by
  have I' := fun w : World => isNaN64_any z w
  simp only [hn, decide_false] at I'
  have I : Hid (∀ w : World, Calls Tryd.prog 47 #[.float .f64 z] w fun e w' => e = .returned (.bool false) ∧ w' = w) := I'
  have hz' : z < 18446744073709551616 := hz
  go_enter Tryd.func25, Tryd.ntmps25
  go_wp2_with (go_at_call 47; refine (I.out _).mono ?_; rintro e w' ⟨rfl, rfl⟩)
  rw [bits64]
  go_wp2
  go_ret
  go_light
  exact ⟨by first | rfl | (congr 2; omega), rfl⟩
theorem lay64_any (o : Option Nat) (z : Nat) (hz : Res Ieee.double o z) (hno : ∀ r, o = some r → ¬ Ieee.double.infRung < sz Ieee.double r) (w : World) :
    Calls Tryd.prog 25 #[.float .f64 z] w fun e w' => e = .returned (.int .u64 ((o.getD (cn Ieee.double) : Nat) : Int)) ∧ w' = w := by
  obtain ⟨h0, h1, h2⟩ := hz
  cases o with
  | none => exact lay64_nan z (h2 rfl) w
  | some r =>
    have := h1 r rfl
    subst this
    exact lay64_num z h0 (hno z rfl) w
set_option maxRecDepth 100000 in
theorem truth_any (b : Bool) (w : World) :
    Calls Tryd.prog 33 #[.bool b] w fun e w' => e = .returned (.int .u64 (if b then 1 else 0)) ∧ w' = w := by
  cases b
  · go_enter Tryd.func33, Tryd.ntmps33
    go_wp2
    go_ret
    go_light
    exact ⟨rfl, rfl⟩
  · go_enter Tryd.func33, Tryd.ntmps33
    go_wp2
    go_ret
    go_light
    exact ⟨rfl, rfl⟩
def cop (f : Ieee.Format) (k : Nat) (x y : Nat) : Bool :=
  if k = 0 then f.order x y == some .eq else if k = 1 then f.order x y != some .eq else if k = 2 then f.order x y == some .lt else if k = 3 then f.order x y == some .gt
  else if k = 4 then (f.order x y == some .lt || f.order x y == some .eq) else (f.order x y == some .gt || f.order x y == some .eq)
set_option maxRecDepth 100000 in
theorem cmp32_any (k : Nat) (hk : k < 6) (x y : Nat) (w : World) :
    Calls Tryd.prog 34 #[.int .i64 ((1 + k : Nat) : Int), .float .f32 x, .float .f32 y] w fun e w' => e = .returned (.bool (cop Ieee.single k x y)) ∧ w' = w := by
  have : k = 0 ∨ k = 1 ∨ k = 2 ∨ k = 3 ∨ k = 4 ∨ k = 5 := by omega
  rcases this with rfl | rfl | rfl | rfl | rfl | rfl
  · show Calls Tryd.prog 34 #[.int .i64 1, .float .f32 x, .float .f32 y] w _
    go_enter Tryd.func34, Tryd.ntmps34
    go_wp2
    go_ret
    go_light
    exact ⟨rfl, rfl⟩
  · show Calls Tryd.prog 34 #[.int .i64 2, .float .f32 x, .float .f32 y] w _
    go_enter Tryd.func34, Tryd.ntmps34
    go_wp2
    go_ret
    go_light
    exact ⟨rfl, rfl⟩
  · show Calls Tryd.prog 34 #[.int .i64 3, .float .f32 x, .float .f32 y] w _
    go_enter Tryd.func34, Tryd.ntmps34
    go_wp2
    go_ret
    go_light
    exact ⟨rfl, rfl⟩
  · show Calls Tryd.prog 34 #[.int .i64 4, .float .f32 x, .float .f32 y] w _
    go_enter Tryd.func34, Tryd.ntmps34
    go_wp2
    go_ret
    go_light
    exact ⟨rfl, rfl⟩
  · show Calls Tryd.prog 34 #[.int .i64 5, .float .f32 x, .float .f32 y] w _
    go_enter Tryd.func34, Tryd.ntmps34
    go_wp2
    go_ret
    go_light
    exact ⟨rfl, rfl⟩
  · show Calls Tryd.prog 34 #[.int .i64 6, .float .f32 x, .float .f32 y] w _
    go_enter Tryd.func34, Tryd.ntmps34
    go_wp2
    go_ret
    go_light
    exact ⟨rfl, rfl⟩
set_option maxRecDepth 100000 in
theorem cmp64_any (k : Nat) (hk : k < 6) (x y : Nat) (w : World) :
    Calls Tryd.prog 35 #[.int .i64 ((1 + k : Nat) : Int), .float .f64 x, .float .f64 y] w fun e w' => e = .returned (.bool (cop Ieee.double k x y)) ∧ w' = w := by
  have : k = 0 ∨ k = 1 ∨ k = 2 ∨ k = 3 ∨ k = 4 ∨ k = 5 := by omega
  rcases this with rfl | rfl | rfl | rfl | rfl | rfl
  · show Calls Tryd.prog 35 #[.int .i64 1, .float .f64 x, .float .f64 y] w _
    go_enter Tryd.func35, Tryd.ntmps35
    go_wp2
    go_ret
    go_light
    exact ⟨rfl, rfl⟩
  · show Calls Tryd.prog 35 #[.int .i64 2, .float .f64 x, .float .f64 y] w _
    go_enter Tryd.func35, Tryd.ntmps35
    go_wp2
    go_ret
    go_light
    exact ⟨rfl, rfl⟩
  · show Calls Tryd.prog 35 #[.int .i64 3, .float .f64 x, .float .f64 y] w _
    go_enter Tryd.func35, Tryd.ntmps35
    go_wp2
    go_ret
    go_light
    exact ⟨rfl, rfl⟩
  · show Calls Tryd.prog 35 #[.int .i64 4, .float .f64 x, .float .f64 y] w _
    go_enter Tryd.func35, Tryd.ntmps35
    go_wp2
    go_ret
    go_light
    exact ⟨rfl, rfl⟩
  · show Calls Tryd.prog 35 #[.int .i64 5, .float .f64 x, .float .f64 y] w _
    go_enter Tryd.func35, Tryd.ntmps35
    go_wp2
    go_ret
    go_light
    exact ⟨rfl, rfl⟩
  · show Calls Tryd.prog 35 #[.int .i64 6, .float .f64 x, .float .f64 y] w _
    go_enter Tryd.func35, Tryd.ntmps35
    go_wp2
    go_ret
    go_light
    exact ⟨rfl, rfl⟩
end Go.Proofs.YtjkebimmddlccaaDoor
