/-
  The walks of the document's words and Name; no statement is proved here.
-/
import Derived.Test.YtolllelejdnjlaaDoorWorld
import Derived.Test.YtolllelejdnjlaaDoorWordM
import Derived.Laws.BytesArg
import Derived.Laws.IdiomStrings
namespace Go.Proofs.YtolllelejdnjlaaDoor
open Go.RowKit
set_option linter.unusedVariables false
set_option linter.unusedSimpArgs false

theorem wgo_hit {s : ByteArray} {op n : Int} {u k f : Nat} (h : k = s.size ∨ bt s k = 32) (hn : n = op) : wgo s op (u + 1) k f n = s.extract f k := by rw [wgo, if_pos h, if_pos hn]
theorem wgo_next {s : ByteArray} {op n : Int} {u k f : Nat} (h : k = s.size ∨ bt s k = 32) (hn : ¬ n = op) : wgo s op (u + 1) k f n = wgo s op u (k + 1) (k + 1) (n + 1) := by rw [wgo, if_pos h, if_neg hn]
theorem wgo_on {s : ByteArray} {op n : Int} {u k f : Nat} (h : ¬ (k = s.size ∨ bt s k = 32)) : wgo s op (u + 1) k f n = wgo s op u (k + 1) f n := by rw [wgo, if_neg h]
set_option maxRecDepth 100000 in
set_option maxHeartbeats 1000000 in
theorem words_any (first op : Int) (s : ByteArray) (w : World) (hs : s.size ≤ 200) (f0 : 0 ≤ first) (f1 : first ≤ 1000) :
    Calls Tryd.prog 28 #[.int .i64 first, .string s, .int .i64 op] w fun e w' => e = .returned (.string (wdP first s op)) ∧ w' = w := by
  obtain ⟨F, rfl⟩ : ∃ F : Nat, first = F := ⟨first.toNat, by omega⟩
  obtain ⟨R, hR⟩ : ∃ R, R = wdP (F : Int) s op := ⟨_, rfl⟩
  rw [← hR]
  have HR : Hid (wgo s op (s.size + 1 - 0) 0 0 ((F : Nat) : Int) = R) := hR.symm
  clear hR
  go_enter Tryd.func28, Tryd.ntmps28
  go_wp2_with fail
  go_loop [7, 8, 9] (fun n_ f_ i_ => ∃ (k f n : Nat), i_ = .int .i64 k ∧ f_ = .int .i64 f ∧ n_ = .int .i64 n ∧ k ≤ s.size + 1 ∧ f ≤ k ∧ n ≤ 1000 + k ∧ wgo s op (s.size + 1 - k) k f n = R) (fun _ _ i_ => s.size + 1 - (intOf i_).toNat)
  case atStart => exact ⟨0, 0, F, rfl, rfl, rfl, by omega, by omega, by omega, HR.out⟩
  case round =>
    obtain ⟨k, f, n, rfl, rfl, rfl, hk, hf, hn, hW⟩ := hrel
    have HW : Hid (wgo s op (s.size + 1 - k) k f n = R) := hW
    clear hW HR
    by_cases hlt : k < s.size
    · have hne : ((k : Int) == (s.size : Int)) = false := beq_eq_false_iff_ne.2 (by omega)
      have hu : s.size + 1 - k = (s.size + 1 - (k + 1)) + 1 := by omega
      have HU : Hid (s.size + 1 - k = (s.size + 1 - (k + 1)) + 1) := hu
      have hb := bt_at hlt
      have HB : Hid (bt s k = (s[k]'hlt).toNat) := hb
      clear hu hb
      by_cases hc : bt s k = 32
      · have hc1 : (((s[k]'hlt).toNat : Int) == 32) = true := by rw [← HB.out, hc]; rfl
        by_cases ho : (n : Int) = op
        · have ho1 : ((n : Int) == op) = true := beq_iff_eq.2 ho
          have hR := HW.out
          rw [HU.out, wgo_hit (Or.inr hc) ho] at hR
          have HR2 : Hid (s.extract f k = R) := hR
          clear hR ho hc
          go_wp2
          go_ret
          go_light
          exact ⟨by rw [← HR2.out]; rfl, rfl⟩
        · have ho1 : ((n : Int) == op) = false := beq_eq_false_iff_ne.2 ho
          have hR := HW.out
          rw [HU.out, wgo_next (Or.inr hc) ho] at hR
          have HR2 : Hid (wgo s op (s.size + 1 - (k + 1)) (k + 1) (k + 1) ((n : Int) + 1) = R) := hR
          clear hR ho hc
          go_wp2
          go_light
          exact ⟨⟨k + 1, k + 1, n + 1, by simp, by simp, by simp, by omega, by omega, by omega, by simpa using HR2.out⟩, by simp [intOf]; omega⟩
      · have hc1 : (((s[k]'hlt).toNat : Int) == 32) = false := by rw [← HB.out]; exact beq_eq_false_iff_ne.2 (by omega)
        have hR := HW.out
        rw [HU.out, wgo_on (fun h => h.elim (by omega) hc)] at hR
        have HR2 : Hid (wgo s op (s.size + 1 - (k + 1)) (k + 1) f (n : Int) = R) := hR
        clear hR hc
        go_wp2
        go_light
        exact ⟨⟨k + 1, f, n, by simp, rfl, rfl, by omega, by omega, by omega, HR2.out⟩, by simp [intOf]; omega⟩
    · by_cases he : k = s.size
      · have hne : ((k : Int) == (s.size : Int)) = true := beq_iff_eq.2 (by omega)
        have HU : Hid (s.size + 1 - k = (s.size + 1 - (k + 1)) + 1) := by show _ = _; omega
        by_cases ho : (n : Int) = op
        · have ho1 : ((n : Int) == op) = true := beq_iff_eq.2 ho
          have hR := HW.out
          rw [HU.out, wgo_hit (Or.inl he) ho] at hR
          have HR2 : Hid (s.extract f k = R) := hR
          have HE : Hid (k = s.size) := he
          have hle : k ≤ s.size := by omega
          clear hR ho he
          go_wp2
          go_ret
          go_light
          exact ⟨by rw [← HR2.out]; rfl, rfl⟩
        · have ho1 : ((n : Int) == op) = false := beq_eq_false_iff_ne.2 ho
          have hR := HW.out
          rw [HU.out, wgo_next (Or.inl he) ho] at hR
          have HR2 : Hid (wgo s op (s.size + 1 - (k + 1)) (k + 1) (k + 1) ((n : Int) + 1) = R) := hR
          have HE : Hid (k = s.size) := he
          have hle : k ≤ s.size := by omega
          clear hR ho he
          go_wp2
          go_light
          have hE := HE.out
          exact ⟨⟨k + 1, k + 1, n + 1, by simp, by simp, by simp, by omega, by omega, by omega, by simpa using HR2.out⟩, by simp [intOf]; omega⟩
      · have hR := HW.out
        rw [show s.size + 1 - k = 0 from by omega] at hR
        have HR2 : Hid (R = ⟨#[]⟩) := hR.symm
        clear hR
        go_wp2
        go_ret
        go_light
        exact ⟨by rw [HR2.out]; rfl, rfl⟩
end Go.Proofs.YtolllelejdnjlaaDoor
