/-
  The walk of the document's nth; no statement is proved here.
-/
import Derived.Test.YtahmjgmaaaegcaaGreatDoorCutW
namespace Go.Proofs.YtahmjgmaaaegcaaGreatDoor
open Go.RowKit
set_option linter.unusedVariables false
set_option linter.unusedSimpArgs false

def nthV (o : Option (List UInt8)) : Value := match o with
  | some x => .tuple #[.string (BA x), .bool true]
  | none => .tuple #[.string ⟨#[]⟩, .bool false]
theorem cut_end (cur : List UInt8) : cutW [] cur = [cur] := rfl
set_option maxRecDepth 100000 in
set_option maxHeartbeats 2000000 in
theorem nth_any (s : List UInt8) (n : Nat) (hl : s.length ≤ 60000) (hn : n ≤ 1000) (w : World) :
    Calls Tryz.prog 110 #[.string (BA s), .int .i64 n] w fun e w' => e = .returned (nthV (cutW s [])[n]?) ∧ w' = w := by
  have HB : Hid (∀ (st pos : Nat) (W : World), st ≤ pos → pos ≤ s.length → (Instr.slice 9 (.string (BA s)) (some (.int .i64 (st : Int))) (some (.int .i64 (pos : Int))) none).run Tryz.prog W = .ok (.string (BA ((s.take pos).drop st))) W) := by
    intro st pos W h1 h2
    rw [run_slice_string W 9 (BA s) .i64 .i64 st pos Tryz.underlying9 (by omega) (by omega) (by rw [BA_size]; omega)]
    simp [BA_extract]
  have hz := BA_size s
  have HC : Hid (∀ (pos : Nat) (h : pos < (BA s).size) (h' : pos < s.length), (BA s)[pos]'h = s[pos]'h') := fun pos h h' => BA_get s pos h
  obtain ⟨S, hS⟩ : ∃ S, BA s = S := ⟨_, rfl⟩
  rw [hS] at HB hz HC ⊢
  clear hS
  obtain ⟨R, hR⟩ : ∃ R, (cutW s [])[n]? = R := ⟨_, rfl⟩
  have HR : Hid ((cutW s [])[n]? = R) := hR
  rw [hR]
  clear hR
  go_enter Tryz.func110, Tryz.ntmps110
  go_wp2
  go_loop [1, 6, 7] (fun m f i => ∃ (pos st left : Nat), pos ≤ s.length + 1 ∧ left ≤ n ∧ m = .int .i64 left ∧ f = .int .i64 st ∧ i = .int .i64 pos ∧
    (pos ≤ s.length → st ≤ pos ∧ (cutW (s.drop pos) ((s.take pos).drop st))[left]? = R) ∧ (pos = s.length + 1 → R = none)) (fun _ _ i => s.length + 1 - (intOf i).toNat)
  case atStart => exact ⟨0, 0, n, by omega, Nat.le_refl _, rfl, rfl, rfl, fun _ => ⟨Nat.le_refl _, by simpa using HR.out⟩, fun h => by omega⟩
  case round =>
    obtain ⟨pos, st, left, hp, hle, rfl, rfl, rfl, hin, hend⟩ := hrel
    by_cases hlt : pos ≤ s.length
    · obtain ⟨hst, hcut⟩ := hin hlt
      have hsl := fun W => HB.out st pos W hst hlt
      have HCUT : Hid ((cutW (s.drop pos) ((s.take pos).drop st))[left]? = R) := hcut
      clear hin hend hcut HB HR
      have d1 : decide ((pos : Int) ≤ s.length) = true := by simp; omega
      by_cases hps : pos < s.length
      · have hpS : pos < S.size := by omega
        have hc := HC.out pos hpS hps
        obtain ⟨c, hcc⟩ : ∃ c, s[pos]'hps = c := ⟨_, rfl⟩
        rw [hcc] at hc
        have HCC : Hid (s[pos]'hps = c) := hcc
        clear hcc HC
        have d2 : decide ((pos : Int) < s.length) = true := by simp; omega
        by_cases h32 : c = 32
        · have d3 : ((c.toNat : Int) != 32) = false := by rw [h32]; rfl
          by_cases h0 : left = 0
          · have d4 : ((left : Int) == 0) = true := by rw [h0]; rfl
            have e : Hid (R = some ((s.take pos).drop st)) := by
              show R = _
              rw [← HCUT.out, cut_word hps HCC.out h32, h0]
              rfl
            clear h0
            go_wp2
            go_ret2
            rw [e.out]
            exact ⟨rfl, rfl⟩
          · have d4 : ((left : Int) == 0) = false := by simp; omega
            go_wp2
            go_round
            case rel =>
              obtain ⟨l', rfl⟩ : ∃ l', left = l' + 1 := ⟨left - 1, by omega⟩
              refine ⟨pos + 1, pos + 1, l', by omega, by omega, by go_num, by go_num, by go_num, fun _ => ⟨Nat.le_refl _, ?_⟩, fun h => by omega⟩
              rw [← HCUT.out, cut_word hps HCC.out h32]
              rfl
            case measure => simp [intOf]; omega
        · have d3 : ((c.toNat : Int) != 32) = true := by
            have : c.toNat ≠ 32 := fun h => h32 (UInt8.toNat_inj.1 (by show c.toNat = 32; exact h))
            simp
            omega
          go_wp2
          go_round
          case rel =>
            refine ⟨pos + 1, st, left, by omega, hle, rfl, rfl, by go_num, fun _ => ⟨by omega, ?_⟩, fun h => by omega⟩
            rw [← cut_step hps HCC.out hst h32]
            exact HCUT.out
          case measure => simp [intOf]; omega
      · have d2 : decide ((pos : Int) < s.length) = false := by simp; omega
        by_cases h0 : left = 0
        · have d4 : ((left : Int) == 0) = true := by rw [h0]; rfl
          have e : Hid (R = some ((s.take pos).drop st)) := by
            show R = _
            rw [← HCUT.out, List.drop_eq_nil_of_le (by omega), cut_end, h0]
            rfl
          clear h0
          go_wp2
          go_ret2
          rw [e.out]
          exact ⟨rfl, rfl⟩
        · have d4 : ((left : Int) == 0) = false := by simp; omega
          go_wp2
          go_round
          case rel =>
            refine ⟨pos + 1, pos + 1, left - 1, by omega, by omega, by go_num, by go_num, by go_num, fun h => by omega, fun _ => ?_⟩
            rw [← HCUT.out, List.drop_eq_nil_of_le (by omega), cut_end]
            exact List.getElem?_eq_none (by simp; omega)
          case measure => simp [intOf]; omega
    · have hE := hend (by omega)
      subst hE
      have d1 : decide ((pos : Int) ≤ s.length) = false := by simp; omega
      clear hin hend HB HR HC
      go_wp2
      go_ret2
      exact ⟨rfl, rfl⟩
end Go.Proofs.YtahmjgmaaaegcaaGreatDoor
