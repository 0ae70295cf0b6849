/-
  The walks of letter, follows, goingOn and of prefixes; no statement is proved here.
-/
import Derived.Outline
import Derived.Deep.QuietTactic
import Derived.BigQuiet
import Derived.Test.YtfnfbioenngjoaaDoorKit
import Derived.Test.YtfnfbioenngjoaaDoorN2U
import Derived.Test.YtfnfbioenngjoaaDoorWorld
namespace Go.Proofs.YtfnfbioenngjoaaDoor
open Go.RowKit
set_option linter.unusedVariables false
set_option linter.unusedSimpArgs false

theorem letter_any (f : Int) (w : World) (h0 : 0 ≤ f) (h1 : f ≤ 255) :
    Calls Tryd.prog 66 #[.int .u8 f] w fun e w' => e = .returned (.int .i64 (lt f)) ∧ w' = w := by
  rcases lt_cases f with ⟨h, e⟩ | ⟨h, h', e⟩ | ⟨h, h', e⟩ | ⟨h, h', e⟩ | ⟨h, h', e⟩
  · rw [e]; clear e
    go_enter Tryd.func66, Tryd.ntmps66
    go_wp2
    go_ret
    exact ⟨rfl, rfl⟩
  · rw [e]; clear e
    go_enter Tryd.func66, Tryd.ntmps66
    go_wp2
    go_ret
    exact ⟨rfl, rfl⟩
  · rw [e]; clear e
    go_enter Tryd.func66, Tryd.ntmps66
    go_wp2
    go_ret
    exact ⟨rfl, rfl⟩
  · rw [e]; clear e
    go_enter Tryd.func66, Tryd.ntmps66
    go_wp2
    go_ret
    exact ⟨rfl, rfl⟩
  · rw [e]; clear e
    rcases h' with h' | h'
    · have d1 : decide (194 ≤ f) = false := by simp; omega
      have d2 : decide (224 ≤ f) = false := by simp; omega
      have d3 : decide (240 ≤ f) = false := by simp; omega
      go_enter Tryd.func66, Tryd.ntmps66
      go_wp2
      go_ret
      exact ⟨rfl, rfl⟩
    · have d1 : decide (f ≤ 223) = false := by simp; omega
      have d2 : decide (f ≤ 239) = false := by simp; omega
      have d3 : decide (f ≤ 244) = false := by simp; omega
      go_enter Tryd.func66, Tryd.ntmps66
      go_wp2
      go_ret
      exact ⟨rfl, rfl⟩
theorem band_le {x c y : Int} : (decide (x ≤ c) && decide (c ≤ y)) = decide (x ≤ c ∧ c ≤ y) := by simp
theorem follows_far (f c : Int) (k : Nat) (w : World) (hk : k ≠ 1) :
    Calls Tryd.prog 67 #[.int .u8 f, .int .i64 k, .int .u8 c] w fun e w' => e = .returned (.bool (fl f k c)) ∧ w' = w := by
  have hk' : ((k : Int) == 1) = false := beq_eq_false_iff_ne.2 (by omega)
  unfold fl
  rw [if_neg hk]
  clear hk
  by_cases h : 128 ≤ c
  · have h' : decide (128 ≤ c) = true := by simpa using h
    rw [show decide (128 ≤ c ∧ c ≤ 191) = decide (c ≤ 191) from by simp [h]]
    go_enter Tryd.func67, Tryd.ntmps67
    go_wp2
    go_ret
    exact ⟨rfl, rfl⟩
  · have h' : decide (128 ≤ c) = false := by simpa using h
    rw [show decide (128 ≤ c ∧ c ≤ 191) = false from by simp; omega]
    go_enter Tryd.func67, Tryd.ntmps67
    go_wp2
    go_ret
    exact ⟨rfl, rfl⟩
theorem follows_near (f c : Int) (w : World) :
    Calls Tryd.prog 67 #[.int .u8 f, .int .i64 (1 : Nat), .int .u8 c] w fun e w' => e = .returned (.bool (fl f 1 c)) ∧ w' = w := by
  unfold fl
  rw [if_pos rfl]
  unfold lo hi
  by_cases e224 : f = 224
  · subst e224
    rw [show (if (224 : Int) = 224 then (160 : Int) else if (224 : Int) = 240 then 144 else 128) = 160 from by decide, show (if (224 : Int) = 237 then (159 : Int) else if (224 : Int) = 244 then 143 else 191) = 191 from by decide]
    by_cases h : 160 ≤ c
    · have h' : decide (160 ≤ c) = true := by simpa using h
      rw [show decide (160 ≤ c ∧ c ≤ 191) = decide (c ≤ 191) from by simp [h]]
      go_enter Tryd.func67, Tryd.ntmps67
      go_wp2
      go_ret
      exact ⟨rfl, rfl⟩
    · have h' : decide (160 ≤ c) = false := by simpa using h
      rw [show decide (160 ≤ c ∧ c ≤ 191) = false from by simp; omega]
      go_enter Tryd.func67, Tryd.ntmps67
      go_wp2
      go_ret
      exact ⟨rfl, rfl⟩
  have d224 : (f == 224) = false := beq_eq_false_iff_ne.2 e224
  by_cases e237 : f = 237
  · subst e237
    rw [show (if (237 : Int) = 224 then (160 : Int) else if (237 : Int) = 240 then 144 else 128) = 128 from by decide, show (if (237 : Int) = 237 then (159 : Int) else if (237 : Int) = 244 then 143 else 191) = 159 from by decide]
    by_cases h : 128 ≤ c
    · have h' : decide (128 ≤ c) = true := by simpa using h
      rw [show decide (128 ≤ c ∧ c ≤ 159) = decide (c ≤ 159) from by simp [h]]
      go_enter Tryd.func67, Tryd.ntmps67
      go_wp2
      go_ret
      exact ⟨rfl, rfl⟩
    · have h' : decide (128 ≤ c) = false := by simpa using h
      rw [show decide (128 ≤ c ∧ c ≤ 159) = false from by simp; omega]
      go_enter Tryd.func67, Tryd.ntmps67
      go_wp2
      go_ret
      exact ⟨rfl, rfl⟩
  have d237 : (f == 237) = false := beq_eq_false_iff_ne.2 e237
  by_cases e240 : f = 240
  · subst e240
    rw [show (if (240 : Int) = 224 then (160 : Int) else if (240 : Int) = 240 then 144 else 128) = 144 from by decide, show (if (240 : Int) = 237 then (159 : Int) else if (240 : Int) = 244 then 143 else 191) = 191 from by decide]
    by_cases h : 144 ≤ c
    · have h' : decide (144 ≤ c) = true := by simpa using h
      rw [show decide (144 ≤ c ∧ c ≤ 191) = decide (c ≤ 191) from by simp [h]]
      go_enter Tryd.func67, Tryd.ntmps67
      go_wp2
      go_ret
      exact ⟨rfl, rfl⟩
    · have h' : decide (144 ≤ c) = false := by simpa using h
      rw [show decide (144 ≤ c ∧ c ≤ 191) = false from by simp; omega]
      go_enter Tryd.func67, Tryd.ntmps67
      go_wp2
      go_ret
      exact ⟨rfl, rfl⟩
  have d240 : (f == 240) = false := beq_eq_false_iff_ne.2 e240
  by_cases e244 : f = 244
  · subst e244
    rw [show (if (244 : Int) = 224 then (160 : Int) else if (244 : Int) = 240 then 144 else 128) = 128 from by decide, show (if (244 : Int) = 237 then (159 : Int) else if (244 : Int) = 244 then 143 else 191) = 143 from by decide]
    by_cases h : 128 ≤ c
    · have h' : decide (128 ≤ c) = true := by simpa using h
      rw [show decide (128 ≤ c ∧ c ≤ 143) = decide (c ≤ 143) from by simp [h]]
      go_enter Tryd.func67, Tryd.ntmps67
      go_wp2
      go_ret
      exact ⟨rfl, rfl⟩
    · have h' : decide (128 ≤ c) = false := by simpa using h
      rw [show decide (128 ≤ c ∧ c ≤ 143) = false from by simp; omega]
      go_enter Tryd.func67, Tryd.ntmps67
      go_wp2
      go_ret
      exact ⟨rfl, rfl⟩
  have d244 : (f == 244) = false := beq_eq_false_iff_ne.2 e244
  rw [if_neg e224, if_neg e240, if_neg e237, if_neg e244]
  clear e224 e240 e237 e244
  by_cases h : 128 ≤ c
  · have h' : decide (128 ≤ c) = true := by simpa using h
    rw [show decide (128 ≤ c ∧ c ≤ 191) = decide (c ≤ 191) from by simp [h]]
    go_enter Tryd.func67, Tryd.ntmps67
    go_wp2
    go_ret
    exact ⟨rfl, rfl⟩
  · have h' : decide (128 ≤ c) = false := by simpa using h
    rw [show decide (128 ≤ c ∧ c ≤ 191) = false from by simp; omega]
    go_enter Tryd.func67, Tryd.ntmps67
    go_wp2
    go_ret
    exact ⟨rfl, rfl⟩
theorem follows_any (f c : Int) (k : Nat) (w : World) :
    Calls Tryd.prog 67 #[.int .u8 f, .int .i64 k, .int .u8 c] w fun e w' => e = .returned (.bool (fl f k c)) ∧ w' = w := by
  by_cases hk : k = 1
  · subst hk; exact follows_near f c w
  · exact follows_far f c k w hk
set_option maxRecDepth 100000 in
set_option maxHeartbeats 1000000 in
theorem goingOn_any (m : List Int) (x y : Int) (w : World) (hb : Byt m) (hlen : m.length ≤ 140737488351232) :
    Calls Tryd.prog 78 #[.string (strOfNums m), .int .u8 x, .int .u8 y] w fun e w' => e = .returned (.int .i64 (gon m x y)) ∧ w' = w := by
  have hsz := strOfNums_size m
  have hix : ∀ (k : Nat) (w : World), k < m.length → (Instr.index 9 (.string (strOfNums m)) (.int .i64 k)).run Tryd.prog w = .ok (.int .u8 (m.getD k 0)) w := by
    intro k w hk
    rw [run_index_string w 9 _ .i64 k Tryd.underlying9, dif_pos (by omega)]
    have := str_at m hb k (by omega)
    simp only [Int.toNat_natCast]
    rw [this]
  have HX : Hid (∀ (k : Nat) (w : World), k < m.length → (Instr.index 9 (.string (strOfNums m)) (.int .i64 k)).run Tryd.prog w = .ok (.int .u8 (m.getD k 0)) w) := hix
  clear hix hb
  generalize strOfNums m = s at *
  go_enter Tryd.func78, Tryd.ntmps78
  go_wp2
  go_loop [1, 2, 7] (fun X Y n => ∃ (k : Nat) (a b : Int), X = .int .u8 a ∧ Y = .int .u8 b ∧ n = .int .i64 k ∧ k ≤ m.length ∧ gon m x y = k + gon (m.drop k) a b)
    (fun _ _ n => m.length - (intOf n).toNat)
  case atStart => exact ⟨0, x, y, rfl, rfl, rfl, by omega, by simp⟩
  case round =>
    obtain ⟨k, a, b, rfl, rfl, rfl, hk, hg⟩ := hrel
    have HG : Hid (gon m x y = k + gon (m.drop k) a b) := hg
    clear hg
    by_cases hlt : k < m.length
    · obtain ⟨c, hc⟩ : ∃ c, c = m.getD k 0 := ⟨_, rfl⟩
      have hi := fun w => HX.out k w hlt
      rw [← hc] at hi
      have HD : Hid (m.drop k = c :: m.drop (k + 1)) := by
        show m.drop k = _
        rw [List.drop_eq_getElem_cons hlt, hc]; simp [List.getD, hlt]
      clear hc
      by_cases h1 : a ≤ c
      · by_cases h2 : c ≤ b
        · go_wp2
          go_round
          case rel =>
            refine ⟨k + 1, 128, 191, rfl, rfl, by go_num, by omega, ?_⟩
            rw [HG.out, HD.out, gon, if_pos ⟨h1, h2⟩]; omega
          case measure => simp [intOf]; omega
        · have h2' : decide (c ≤ b) = false := by simpa using h2
          go_wp2
          go_ret
          refine ⟨ret_int ?_, rfl⟩
          rw [HG.out, HD.out, gon, if_neg (by omega)]; rfl
      · have h1' : decide (a ≤ c) = false := by simpa using h1
        go_wp2
        go_ret
        refine ⟨ret_int ?_, rfl⟩
        rw [HG.out, HD.out, gon, if_neg (by omega)]; rfl
    · go_wp2
      go_ret
      refine ⟨ret_int ?_, rfl⟩
      rw [HG.out, List.drop_eq_nil_of_le (by omega)]; rfl
set_option maxRecDepth 100000 in
theorem prefix_in (m : List Int) (b : Bool) (w : World) (h : b = decide (m.take 3 = [239, 191, 189])) (hb : Byt m) :
    Calls Tryd.prog 77 #[.string (strOfNums m), .string ⟨#[239, 191, 189]⟩] w fun e w' => e = .returned (.bool b) ∧ w' = w := by
  have hsz := strOfNums_size m
  have hsz3 : (⟨#[239, 191, 189]⟩ : ByteArray).size = 3 := rfl
  by_cases h3 : 3 ≤ m.length
  · have heq : (((strOfNums m).extract 0 3).toList == [239, 191, 189]) = b := by
      rw [str_take, ByteArray.toList_eq, strOfNums_data, h, Bool.eq_iff_iff, beq_iff_eq, decide_eq_true_iff]
      constructor
      · intro h
        apply str_inj (hb.take 3) (Byt.of_mem (by simp))
        apply ByteArray.ext
        apply Array.ext'
        rw [strOfNums_data, h]; rfl
      · intro h; rw [h]; rfl
    clear h hb
    generalize strOfNums m = s at *
    go_enter Tryd.func77, Tryd.ntmps77
    go_wp2
    go_ret
    exact ⟨rfl, rfl⟩
  · have hbf : b = false := by
      rw [h]; simp; intro h'; have := congrArg List.length h'; simp at this; omega
    subst hbf
    clear h hb
    have h3' : ¬ (3 : Int) ≤ m.length := by omega
    have h3'' : decide ((3 : Int) ≤ m.length) = false := by simp; omega
    generalize strOfNums m = s at *
    go_enter Tryd.func77, Tryd.ntmps77
    go_wp2
    go_ret
    exact ⟨rfl, rfl⟩
theorem prefix_any (m : List Int) (b : Bool) (w : World) (h : b = decide (m.take 3 = [239, 191, 189])) (hb : Byt m) :
    Calls Tryd.prog 75 #[.string (strOfNums m), .string ⟨#[239, 191, 189]⟩] w fun e w' => e = .returned (.bool b) ∧ w' = w := by
  have c := prefix_in m b w h hb
  clear h hb
  generalize strOfNums m = s at *
  go_enter Tryd.func75, Tryd.ntmps75
  go_wp2_with fail
  refine c.mono ?_
  rintro e w' ⟨rfl, rfl⟩
  clear c
  go_wp2_with fail
  go_ret
  exact ⟨rfl, rfl⟩
end Go.Proofs.YtfnfbioenngjoaaDoor
