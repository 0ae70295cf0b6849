/-
  The document's reading: the walks of number, word, HeapText of abstract types; no statement is proved here.
-/
import Derived.Test.YtmcljnohdknpoaaDoorDIs
import Derived.Test.YtmcljnohdknpoaaDoorNumM
namespace Go.Proofs.YtmcljnohdknpoaaDoor
open Go.RowKit
set_option linter.unusedVariables false
set_option linter.unusedSimpArgs false

theorem decFrom_bad (l : List UInt8) : ∀ (k : Nat) (b : UInt8) (acc : Nat), l[k]? = some b → Lib.digitVal b = none → Lib.decFrom acc l = none := by
  induction l with
  | nil => intro k b acc h; simp at h
  | cons a t ih =>
    intro k b acc h hb
    cases k with
    | zero =>
      simp only [List.getElem?_cons_zero, Option.some.injEq] at h
      subst h
      simp [Lib.decFrom, hb]
    | succ k =>
      simp only [List.getElem?_cons_succ] at h
      simp only [Lib.decFrom]
      cases Lib.digitVal a with
      | none => rfl
      | some d => exact ih k b _ h hb
theorem byte_at (x : ByteArray) (k : Nat) (h : k < x.size) : x.data.toList[k]? = some (x[k]'h) := by
  rw [Array.getElem?_toList]
  exact Array.getElem?_eq_getElem h
theorem take_lt (l : List UInt8) (k u : Nat) (h : Lib.decFrom 0 (l.take k) = some u) (hk : k ≤ l.length) : u < 10 ^ k := by
  induction k generalizing u with
  | zero => simp [Lib.decFrom] at h; subst h; decide
  | succ k ih =>
    have hk' : k < l.length := by omega
    rw [List.take_succ_eq_append_getElem hk', decFrom_snoc] at h
    cases hd : Lib.decFrom 0 (l.take k) with
    | none => rw [hd] at h; cases h
    | some m =>
      rw [hd] at h
      simp only at h
      cases hv : Lib.digitVal l[k] with
      | none => rw [hv] at h; cases h
      | some d =>
        rw [hv] at h
        simp only [Option.map_some, Option.some.injEq] at h
        subst h
        have := ih m hd (by omega)
        have h10 := (digit_inv hv).2
        rw [Nat.pow_succ]
        omega
theorem digit_yes {b : UInt8} (h : 48 ≤ b.toNat ∧ b.toNat ≤ 57) : Lib.digitVal b = some (b.toNat - 48) := by unfold Lib.digitVal; rw [if_pos h]
theorem digit_no {b : UInt8} (h : ¬ (48 ≤ b.toNat ∧ b.toNat ≤ 57)) : Lib.digitVal b = none := by unfold Lib.digitVal; rw [if_neg h]
def ob (o : Option Nat) : Value := .tuple #[.int .i64 ((o.getD 0 : Nat) : Int), .bool o.isSome]
theorem list_head (x : ByteArray) (h : 0 < x.size) : x.data.toList.head? = some (x[0]'h) := by
  rw [← byte_at x 0 h]
  cases x.data.toList <;> rfl
theorem list_ne (x : ByteArray) (h : 0 < x.size) : x.data.toList ≠ [] := by
  intro h0
  have : x.data.toList.length = 0 := by rw [h0]; rfl
  rw [Array.length_toList] at this
  have : x.size = 0 := this
  omega
set_option maxRecDepth 100000 in
set_option maxHeartbeats 1000000 in
theorem dnumber_any (x : ByteArray) (w : World) (hm : x.size ≤ 65536) :
    Calls Tryd.prog 71 #[.string x] w fun en w' => en = .returned (ob (num9 x.data.toList)) ∧ w' = w := by
  have hlen : x.data.toList.length = x.size := Array.length_toList
  obtain ⟨o, ho⟩ : ∃ o, o = num9 x.data.toList := ⟨_, rfl⟩
  rw [← ho]
  have HO : Hid (o = num9 x.data.toList) := ho
  have none_of : ∀ (h : ¬ (x.data.toList ≠ [] ∧ x.data.toList.length ≤ 9 ∧ (x.data.toList.length = 1 ∨ x.data.toList.head? ≠ some 48))), o = none := fun h => by rw [ho]; unfold num9; rw [if_neg h]
  by_cases h1 : x.size < 1
  · have hd : decide ((x.size : Int) < 1) = true := by simp; omega
    have hn : o = none := none_of (fun h => by have h0 := List.length_pos_iff.2 h.1; omega)
    subst hn
    clear none_of HO ho
    go_enter Tryd.func71, Tryd.ntmps71
    go_wp2
    all_goals (go_ret2; exact ⟨by simp [ob], rfl⟩)
  · have hd : decide ((x.size : Int) < 1) = false := by simp; omega
    by_cases h9 : 9 < x.size
    · have hd9 : decide ((9 : Int) < (x.size : Int)) = true := by simp; omega
      have hn : o = none := none_of (fun h => by have := h.2.1; omega)
      subst hn
      clear none_of HO ho
      go_enter Tryd.func71, Tryd.ntmps71
      go_wp2
      all_goals (go_ret2; exact ⟨by simp [ob], rfl⟩)
    · have hd9 : decide ((9 : Int) < (x.size : Int)) = false := by simp; omega
      have hx0 : 0 < x.size := by omega
      by_cases hz : (x[0]'hx0).toNat = 48 ∧ 1 < x.size
      · have f0 : (((x[0]'hx0).toNat : Int) == 48) = true := by rw [hz.1]; rfl
        have hd1 : decide ((1 : Int) < (x.size : Int)) = true := by simp; omega
        have hn : o = none := none_of (fun h => by
          rcases h.2.2 with h | h
          · omega
          · apply h
            rw [list_head x hx0]
            congr 1
            exact UInt8.toNat_inj.1 hz.1)
        subst hn
        clear none_of HO ho hz
        go_enter Tryd.func71, Tryd.ntmps71
        go_wp2
        all_goals (go_ret2; exact ⟨by simp [ob], rfl⟩)
      · have HC : Hid (x.data.toList ≠ [] ∧ x.data.toList.length ≤ 9 ∧ (x.data.toList.length = 1 ∨ x.data.toList.head? ≠ some 48)) := by
          refine ⟨list_ne x hx0, by omega, ?_⟩
          by_cases h1 : x.size = 1
          · left; omega
          · right
            rw [list_head x hx0]
            intro h
            have := Option.some.inj h
            exact hz ⟨by rw [this]; rfl, by omega⟩
        have HO' : Hid (o = Lib.decFrom 0 x.data.toList) := by
          have := HO.out
          unfold num9 at this
          rw [if_pos HC.out] at this
          exact this
        clear none_of HO ho
        have f0 : (((x[0]'hx0).toNat : Int) == 48) = false ∨ (((x[0]'hx0).toNat : Int) == 48) = true ∧ decide ((1 : Int) < (x.size : Int)) = false := by
          by_cases h1 : (x[0]'hx0).toNat = 48
          · right
            refine ⟨by rw [h1]; rfl, ?_⟩
            have : ¬ 1 < x.size := fun h => hz ⟨h1, h⟩
            simp; omega
          · left
            simp only [beq_eq_false_iff_ne]
            omega
        clear hz
        rcases f0 with f0 | ⟨f0, hd1⟩ <;>
        · go_enter Tryd.func71, Tryd.ntmps71
          go_wp2
          go_loop [4, 5] (fun n_ i_ => ∃ k u : Nat, i_ = .int .i64 k ∧ k ≤ x.size ∧ n_ = .int .i64 u ∧ u < 10000000000 ∧ Hid (Lib.decFrom 0 (x.data.toList.take k) = some u)) (fun _ i_ => x.size - (intOf i_).toNat)
          case atStart => exact ⟨0, 0, rfl, Nat.zero_le _, rfl, by decide, (show Lib.decFrom 0 (x.data.toList.take 0) = some 0 by simp [Lib.decFrom])⟩
          case round =>
            obtain ⟨k, u, rfl, hk, rfl, hu, HD⟩ := hrel
            clear f0
            by_cases hlt : k < x.size
            · have hdk : decide ((k : Int) < (x.size : Int)) = true := by simpa using hlt
              have hu9 : u < 1000000000 := by
                have h1 := take_lt _ k u HD.out (by omega)
                have h2 : 10 ^ k ≤ 10 ^ 9 := Nat.pow_le_pow_right (by decide) (by omega)
                have h3 : (10 : Nat) ^ 9 = 1000000000 := by decide
                omega
              by_cases hdig : 48 ≤ (x[k]'hlt).toNat ∧ (x[k]'hlt).toNat ≤ 57
              · have HN : Hid (Lib.decFrom 0 (x.data.toList.take (k + 1)) = some (u * 10 + ((x[k]'hlt).toNat - 48))) := Lib.decFrom_take _ k 0 u _ _ HD.out (byte_at x k hlt) (digit_yes hdig)
                obtain ⟨c, hc⟩ : ∃ c : Nat, c = (x[k]'hlt).toNat := ⟨_, rfl⟩
                rw [← hc] at HN hdig
                have g1 : decide (((x[k]'hlt).toNat : Int) < 48) = false := by rw [← hc]; simp; omega
                have g2 : decide ((57 : Int) < ((x[k]'hlt).toNat : Int)) = false := by rw [← hc]; simp; omega
                have g3 : IntKind.u8.wrap (((x[k]'hlt).toNat : Int) - 48) = ((c - 48 : Nat) : Int) := by rw [← hc, IntKind.wrap_u8]; omega
                clear hc
                go_wp2
                go_round
                case rel => exact ⟨k + 1, u * 10 + (c - 48), by go_num, by omega, by go_num, by omega, HN⟩
                case measure => simp [intOf]; omega
              · have HN : Hid (o = none) := by rw [HO'.out]; exact decFrom_bad _ k _ 0 (byte_at x k hlt) (digit_no hdig)
                by_cases h48 : (x[k]'hlt).toNat < 48
                · have g1 : decide (((x[k]'hlt).toNat : Int) < 48) = true := by simp; omega
                  clear hdig h48
                  go_wp2
                  go_ret2
                  exact ⟨by rw [HN.out]; simp [ob], rfl⟩
                · have g1 : decide (((x[k]'hlt).toNat : Int) < 48) = false := by simp; omega
                  have g2 : decide ((57 : Int) < ((x[k]'hlt).toNat : Int)) = true := by simp; omega
                  clear hdig h48
                  go_wp2
                  go_ret2
                  exact ⟨by rw [HN.out]; simp [ob], rfl⟩
            · have hdk : decide ((k : Int) < (x.size : Int)) = false := by simp; omega
              have HN : Hid (o = some u) := by
                rw [HO'.out, ← HD.out, List.take_of_length_le (by omega)]
                exact rfl
              go_wp2
              go_ret2
              exact ⟨by rw [HN.out]; simp [ob], rfl⟩
/- The n-th of the words of a text, from a place on. -/
def wrd (t : ByteArray) : Nat → Nat → Nat → Nat → ByteArray
  | 0, _, _, _ => ⟨#[]⟩
  | g + 1, f, i, n => if i = t.size ∨ bt t i = 32 then (if n = 0 then t.extract f i else wrd t g (i + 1) (i + 1) (n - 1)) else wrd t g f (i + 1) n
set_option maxRecDepth 100000 in
set_option maxHeartbeats 1000000 in
theorem word_any (t : ByteArray) (n : Nat) (w : World) (ht : t.size ≤ 65536) (hn : n ≤ 65536) :
    Calls Tryd.prog 43 #[.string t, .int .i64 (n : Int)] w fun en w' => en = .returned (.string (wrd t (t.size + 1) 0 0 n)) ∧ w' = w := by
  obtain ⟨r, hr⟩ : ∃ r, r = wrd t (t.size + 1) 0 0 n := ⟨_, rfl⟩
  rw [← hr]
  have HR : Hid (r = wrd t (t.size + 1) 0 0 n) := hr
  clear hr
  go_enter Tryd.func43, Tryd.ntmps43
  go_wp2
  go_loop [1, 5, 6] (fun n_ f_ i_ => ∃ k f m : Nat, i_ = .int .i64 k ∧ f_ = .int .i64 f ∧ n_ = .int .i64 m ∧ k ≤ t.size + 1 ∧ f ≤ k ∧ m ≤ 65536 ∧ Hid (r = wrd t (t.size + 1 - k) f k m)) (fun _ _ i_ => t.size + 1 - (intOf i_).toNat)
  case atStart => exact ⟨0, 0, n, rfl, rfl, rfl, Nat.zero_le _, Nat.le_refl _, hn, HR⟩
  case round =>
    obtain ⟨k, f, m, rfl, rfl, rfl, hk, hf, hm, HW⟩ := hrel
    by_cases hle : k ≤ t.size
    · have hd : decide ((k : Int) ≤ (t.size : Int)) = true := by simpa using hle
      have hfu : t.size + 1 - k = (t.size - k) + 1 := by omega
      rw [hfu, wrd] at HW
      have hfu' : t.size + 1 - (k + 1) = t.size - k := by omega
      have same : ∀ (h : k = t.size ∨ bt t k = 32), (m = 0 → r = t.extract f k) ∧ (m ≠ 0 → r = wrd t (t.size + 1 - (k + 1)) (k + 1) (k + 1) (m - 1)) := by
        intro h
        have := HW.out
        rw [if_pos h] at this
        refine ⟨fun h0 => by rw [if_pos h0] at this; exact this, fun h0 => by rw [if_neg h0] at this; rw [hfu']; exact this⟩
      by_cases hks : k = t.size
      · have g1 : ((k : Int) == (t.size : Int)) = true := by simp [hks]
        obtain ⟨s1, s2⟩ := same (Or.inl hks)
        by_cases hm0 : m = 0
        · have S : Hid (r = t.extract f k) := s1 hm0
          subst hm0
          clear s1 s2 same HW hks
          go_wp2
          go_ret
          exact ⟨by rw [S.out]; simp, rfl⟩
        · have S : Hid (r = wrd t (t.size + 1 - (k + 1)) (k + 1) (k + 1) (m - 1)) := s2 hm0
          have g2 : ((m : Int) == 0) = false := by simp; omega
          clear s1 s2 same HW hks
          go_wp2
          go_round
          case rel => exact ⟨k + 1, k + 1, m - 1, by go_num, by go_num, by congr 1; omega, by omega, Nat.le_refl _, by omega, S⟩
          case measure => simp [intOf]; omega
      · have hlt : k < t.size := by omega
        have g1 : ((k : Int) == (t.size : Int)) = false := by simp; omega
        have hb := bt_get hlt
        have f32 : ((t[k].toNat : Int) == 32) = (bt t k == 32) := by rw [hb]; exact icast _ 32
        by_cases h32 : bt t k = 32
        · obtain ⟨s1, s2⟩ := same (Or.inr h32)
          rw [beq_iff_eq.2 h32] at f32
          by_cases hm0 : m = 0
          · have S : Hid (r = t.extract f k) := s1 hm0
            subst hm0
            clear s1 s2 same HW hb h32 hks
            go_wp2
            go_ret
            exact ⟨by rw [S.out]; simp, rfl⟩
          · have S : Hid (r = wrd t (t.size + 1 - (k + 1)) (k + 1) (k + 1) (m - 1)) := s2 hm0
            have g2 : ((m : Int) == 0) = false := by simp; omega
            clear s1 s2 same HW hb h32 hks
            go_wp2
            go_round
            case rel => exact ⟨k + 1, k + 1, m - 1, by go_num, by go_num, by congr 1; omega, by omega, Nat.le_refl _, by omega, S⟩
            case measure => simp [intOf]; omega
        · rw [beq_eq_false_iff_ne.2 h32] at f32
          have S : Hid (r = wrd t (t.size + 1 - (k + 1)) f (k + 1) m) := by
            have := HW.out
            rw [if_neg (by rintro (h | h); exact hks h; exact h32 h)] at this
            rw [hfu']
            exact this
          clear same HW hb h32 hks
          go_wp2
          go_round
          case rel => exact ⟨k + 1, f, m, by go_num, rfl, rfl, by omega, by omega, hm, S⟩
          case measure => simp [intOf]; omega
    · have hd : decide ((k : Int) ≤ (t.size : Int)) = false := by simp; omega
      have S : Hid (r = ⟨#[]⟩) := by
        have := HW.out
        rw [show t.size + 1 - k = 0 by omega, wrd] at this
        exact this
      clear HW
      go_wp2
      go_ret
      exact ⟨by rw [S.out]; simp, rfl⟩
end Go.Proofs.YtmcljnohdknpoaaDoor
