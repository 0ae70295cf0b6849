/-
  Plain mathematics: what is written as a number of 32 bits, or as a name, is read back between any bytes; letters that are encoded are UTF-8; nothing of the program.
-/
import Derived.Test.YtclamdpbdafmcaaJoinM
namespace Go.Proofs.Ytclamdpbdafmcaa
set_option linter.unusedVariables false

theorem addAt_is {A X : Int} {i : Nat} (hA0 : 0 ≤ A) (hi : i ≤ 4) (h0 : 0 ≤ X) (c : Int) (hc : c % 128 = X) : addAt A c i = A + X * 2 ^ (7 * i) := by
  unfold addAt
  rw [hc]
  have hX : X < 128 := by omega
  have h4 : i = 0 ∨ i = 1 ∨ i = 2 ∨ i = 3 ∨ i = 4 := by omega
  rcases h4 with rfl | rfl | rfl | rfl | rfl <;> simp <;> omega
theorem scan32 (d : Nat) : ∀ (i : Nat) (X A : Int) (r : List Int), i + d = 4 → 0 ≤ X → X < 2 ^ (32 - 7 * i) → 0 ≤ A →
    scan 4 (okB 4 false) false (putU (10 - i) X ++ r) i A = (A + X * 2 ^ (7 * i), ((i + (putU (10 - i) X).length : Nat) : Int), 0) := by
  induction d with
  | zero =>
    intro i X A r hi h0 hX hA
    obtain rfl : i = 4 := by omega
    have hX' : X < 16 := by simpa using hX
    rw [show 10 - 4 = 5 + 1 from rfl, putU, if_neg (by omega)]
    simp only [List.cons_append, List.nil_append, scan]
    have ho : okB 4 false X = true := by unfold okB; simp; omega
    rw [if_neg (by rw [ho]; simp), if_pos (by omega), addAt_is hA (by omega) h0 X (by omega)]
    simp [ws]
  | succ d ih =>
    intro i X A r hi h0 hX hA
    obtain ⟨g, hg⟩ : ∃ g, 10 - i = g + 1 := ⟨9 - i, by omega⟩
    have hg' : 10 - (i + 1) = g := by omega
    rw [hg, putU]
    by_cases h : 128 ≤ X
    · rw [if_pos h]
      simp only [List.cons_append, scan]
      rw [if_neg (by omega), if_neg (by omega), addAt_is hA (by omega) (X := X % 128) (by omega) _ (by omega)]
      have hp : (0 : Int) < 2 ^ (7 * i) := pow_pos7 i
      have hX2 : X / 128 < 2 ^ (32 - 7 * (i + 1)) := by
        have e : (2 : Int) ^ (32 - 7 * i) = 2 ^ (32 - 7 * (i + 1)) * 128 := by
          rw [show 32 - 7 * i = (32 - 7 * (i + 1)) + 7 from by omega, Int.pow_add]; rfl
        rw [e] at hX
        omega
      have hm : 0 ≤ X % 128 * 2 ^ (7 * i) := Int.mul_nonneg (by omega) (by omega)
      have := ih (i + 1) (X / 128) (A + X % 128 * 2 ^ (7 * i)) r (by omega) (by omega) hX2 (by omega)
      rw [hg'] at this
      rw [this]
      have e2 : X = X / 128 * 128 + X % 128 := by omega
      have e3 : X * 2 ^ (7 * i) = X / 128 * (2 ^ (7 * i) * 128) + X % 128 * 2 ^ (7 * i) := by
        conv => lhs; rw [e2]
        rw [Int.add_mul, Int.mul_assoc, Int.mul_comm 128 (2 ^ (7 * i))]
      rw [pow7 i, e3]
      simp only [List.length_cons, Prod.mk.injEq]
      refine ⟨by omega, by omega, trivial⟩
    · rw [if_neg h]
      simp only [List.cons_append, List.nil_append, scan]
      rw [if_neg (by omega), if_pos (by omega), addAt_is hA (by omega) h0 X (by omega)]
      simp [ws]
theorem seg_mid (f u r : List Int) : seg (f ++ u ++ r) f.length (f ++ u ++ r).length = u ++ r := by
  unfold seg; rw [List.take_length, List.append_assoc, List.drop_left' rfl]
theorem rd32_back {n : Int} (f r : List Int) (h0 : 0 ≤ n) (h1 : n ≤ 4294967295) :
    rd 32 false (f ++ PU n ++ r) (f.length : Nat) ((f ++ PU n ++ r).length : Nat) = (n, ((f.length + (PU n).length : Nat) : Int), 0) := by
  have hs := scan32 4 0 n 0 r rfl h0 (by simp; omega) (Int.le_refl 0)
  have h := rd_in (b := 32) (sg := false) (l := f ++ PU n ++ r) (a := f.length) (e := (f ++ PU n ++ r).length) (n := n) (p := (((PU n).length : Nat) : Int)) (q := 0) (by simp) (Nat.le_refl _) (by
    rw [seg_mid]
    have e : scan 4 (okB 4 false) false (PU n ++ r) 0 0 = (n, (((PU n).length : Nat) : Int), 0) := by
      have : scan 4 (okB 4 false) false (putU (10 - 0) n ++ r) 0 0 = _ := hs
      simpa [PU] using this
    exact e)
  rw [h]
  simp only [Prod.mk.injEq]
  exact ⟨trivial, by omega, trivial⟩
/- A name is read back between any bytes. -/
theorem nm_back (f s r : List Int) (h : nf s = 0) : nm (f ++ nb s ++ r) (f.length : Nat) = (s, ((f.length + (nb s).length : Nat) : Int), 0) := by
  have hl : s.length ≤ 65536 := by unfold nf at h; split at h <;> omega
  have hu : (U s).2 = true := by
    unfold nf at h
    rw [if_neg (by omega)] at h
    by_cases hu : (U s).2 = true
    · exact hu
    · rw [if_neg hu] at h; omega
  have hr := rd32_back (n := (s.length : Nat)) f (s ++ r) (by omega) (by omega)
  have e : f ++ nb s ++ r = f ++ PU (s.length : Nat) ++ (s ++ r) := by unfold nb; simp [List.append_assoc]
  rw [e]
  have hq : (f ++ PU (s.length : Nat)).length = f.length + (PU (s.length : Nat)).length := List.length_append
  have ht : ((f ++ PU (s.length : Nat) ++ (s ++ r)).take (f.length + (PU (s.length : Nat)).length + s.length)).drop (f.length + (PU (s.length : Nat)).length) = s := by
    rw [← hq, List.take_append, List.take_of_length_le (by omega), show (f ++ PU (s.length : Nat)).length + s.length - (f ++ PU (s.length : Nat)).length = s.length from by omega, List.take_left' rfl, List.drop_left' rfl]
  have := nm_good (l := f ++ PU (s.length : Nat) ++ (s ++ r)) (p := (f.length : Nat)) (n := (s.length : Nat)) (q := ((f.length + (PU (s.length : Nat)).length : Nat) : Int)) (i := (U s).1) (N := s.length) (Q := f.length + (PU (s.length : Nat)).length) hr (by omega) rfl hl (by simp; omega) (by rw [ht, ← hu])
  rw [this, ht]
  simp only [Prod.mk.injEq, true_and, and_true]
  unfold nb
  simp
  omega

/- A letter that is encoded, as bytes. -/
def encL (r : Int) : List Int := nums (Utf8.encode r)
theorem encL_is (r : Int) : ∃ c : Nat, (c < 55296 ∨ (57344 ≤ c ∧ c ≤ 1114111)) ∧
    encL r = if c < 128 then [(c : Int)] else if c < 2048 then [(192 + c / 64 : Nat), (128 + c % 64 : Nat)] else if c < 65536 then [((224 + c / 4096 : Nat) : Int), ((128 + c / 64 % 64 : Nat) : Int), ((128 + c % 64 : Nat) : Int)]
      else [((240 + c / 262144 : Nat) : Int), ((128 + c / 4096 % 64 : Nat) : Int), ((128 + c / 64 % 64 : Nat) : Int), ((128 + c % 64 : Nat) : Int)] := by
  obtain ⟨c, hc⟩ : ∃ c : Nat, c = if Utf8.valid r then r.toNat else Utf8.runeError := ⟨_, rfl⟩
  have hv : c < 55296 ∨ (57344 ≤ c ∧ c ≤ 1114111) := by
    rw [hc]
    split
    · rename_i h
      have h' := h
      unfold Utf8.valid at h'
      simp at h'
      omega
    · right; simp [Utf8.runeError]
  refine ⟨c, hv, ?_⟩
  unfold encL Utf8.encode
  rw [← hc]
  have q : ∀ n : Nat, n < 256 → ((UInt8.ofNat n).toNat : Int) = n := by intro n hn; rw [UInt8.toNat_ofNat']; omega
  simp only []
  split
  · simp only [nums, List.map_cons, List.map_nil, q c (by omega)]
  · split
    · simp only [nums, List.map_cons, List.map_nil, q _ (show 0xC0 + c / 64 < 256 by omega), q _ (show 0x80 + c % 64 < 256 by omega)]
    · split
      · simp only [nums, List.map_cons, List.map_nil, q _ (show 0xE0 + c / 4096 < 256 by omega), q _ (show 0x80 + c / 64 % 64 < 256 by omega), q _ (show 0x80 + c % 64 < 256 by omega)]
      · simp only [nums, List.map_cons, List.map_nil, q _ (show 0xF0 + c / 262144 < 256 by omega), q _ (show 0x80 + c / 4096 % 64 < 256 by omega), q _ (show 0x80 + c / 64 % 64 < 256 by omega), q _ (show 0x80 + c % 64 < 256 by omega)]
theorem getD_mid (p m r : List Int) (k : Nat) (h : k < m.length) : (p ++ (m ++ r)).getD (p.length + k) 0 = m.getD k 0 := by
  simp only [List.getD]
  rw [List.getElem?_append_right (by omega), Nat.add_sub_cancel_left, List.getElem?_append_left h]
theorem enc_whole (p r : List Int) (x : Int) : whole (p ++ (encL x ++ r)) p.length ∧ lt ((p ++ (encL x ++ r)).getD p.length 0) = (encL x).length ∧ 1 ≤ (encL x).length ∧ (encL x).length ≤ 4 := by
  obtain ⟨c, hv, he⟩ := encL_is x
  have g : ∀ k, k < (encL x).length → (p ++ (encL x ++ r)).getD (p.length + k) 0 = (encL x).getD k 0 := fun k hk => getD_mid p (encL x) r k hk
  have hlen : (p ++ (encL x ++ r)).length = p.length + (encL x).length + r.length := by simp; omega
  rw [whole_iff]
  generalize hG : p ++ (encL x ++ r) = G at g hlen ⊢
  clear hG
  generalize encL x = m at he g hlen ⊢
  by_cases h1 : c < 128
  · rw [if_pos h1] at he
    have hl : m.length = 1 := by rw [he]; rfl
    have g0 := g 0 (by omega)
    have m0 : m.getD 0 0 = (c : Int) := by rw [he]; rfl
    rw [Nat.add_zero] at g0
    rw [g0, m0, hl]
    have hlt := lt_cases (c : Int)
    exact ⟨Or.inl (by omega), by omega, by omega, by omega⟩
  · rw [if_neg h1] at he
    by_cases h2 : c < 2048
    · rw [if_pos h2] at he
      have hl : m.length = 2 := by rw [he]; rfl
      have g0 := g 0 (by omega)
      have g1 := g 1 (by omega)
      have m0 : m.getD 0 0 = ((192 + c / 64 : Nat) : Int) := by rw [he]; rfl
      have m1 : m.getD 1 0 = ((128 + c % 64 : Nat) : Int) := by rw [he]; rfl
      rw [Nat.add_zero] at g0
      rw [g0, g1, m0, m1, hl]
      have hlt := lt_cases ((192 + c / 64 : Nat) : Int)
      refine ⟨Or.inr (Or.inl ?_), by omega, by omega, by omega⟩
      omega
    · rw [if_neg h2] at he
      by_cases h3 : c < 65536
      · rw [if_pos h3] at he
        have hl : m.length = 3 := by rw [he]; rfl
        have g0 := g 0 (by omega)
        have g1 := g 1 (by omega)
        have g2 := g 2 (by omega)
        have m0 : m.getD 0 0 = ((224 + c / 4096 : Nat) : Int) := by rw [he]; rfl
        have m1 : m.getD 1 0 = ((128 + c / 64 % 64 : Nat) : Int) := by rw [he]; rfl
        have m2 : m.getD 2 0 = ((128 + c % 64 : Nat) : Int) := by rw [he]; rfl
        rw [Nat.add_zero] at g0
        rw [g0, g1, g2, m0, m1, m2, hl]
        have hlt := lt_cases ((224 + c / 4096 : Nat) : Int)
        have hlo := lo_is ((224 + c / 4096 : Nat) : Int)
        have hhi := hi_is ((224 + c / 4096 : Nat) : Int)
        refine ⟨Or.inr (Or.inr (Or.inl ?_)), by omega, by omega, by omega⟩
        omega
      · rw [if_neg h3] at he
        have hl : m.length = 4 := by rw [he]; rfl
        have g0 := g 0 (by omega)
        have g1 := g 1 (by omega)
        have g2 := g 2 (by omega)
        have g3 := g 3 (by omega)
        have m0 : m.getD 0 0 = ((240 + c / 262144 : Nat) : Int) := by rw [he]; rfl
        have m1 : m.getD 1 0 = ((128 + c / 4096 % 64 : Nat) : Int) := by rw [he]; rfl
        have m2 : m.getD 2 0 = ((128 + c / 64 % 64 : Nat) : Int) := by rw [he]; rfl
        have m3 : m.getD 3 0 = ((128 + c % 64 : Nat) : Int) := by rw [he]; rfl
        rw [Nat.add_zero] at g0
        rw [g0, g1, g2, g3, m0, m1, m2, m3, hl]
        have hlt := lt_cases ((240 + c / 262144 : Nat) : Int)
        have hlo := lo_is ((240 + c / 262144 : Nat) : Int)
        have hhi := hi_is ((240 + c / 262144 : Nat) : Int)
        refine ⟨Or.inr (Or.inr (Or.inr ?_)), by omega, by omega, by omega⟩
        omega
theorem enc_uat (xs : List Int) : ∀ p : List Int, uat (p ++ xs.flatMap encL) p.length = (0, true) := by
  induction xs with
  | nil => intro p; exact uat_end (by simp)
  | cons x xs ih =>
    intro p
    rw [List.flatMap_cons]
    obtain ⟨h1, h2, h3, h4⟩ := enc_whole p (xs.flatMap encL) x
    rw [uat_step (by simp; omega) h1, h2]
    have := ih (p ++ encL x)
    rw [List.length_append, List.append_assoc] at this
    exact this
theorem enc_U (xs : List Int) : U (xs.flatMap encL) = (0, true) := by
  have := enc_uat xs []
  simpa [U] using this
theorem encL_byt (x : Int) : Byt (encL x) := nums_byt _
theorem enc_byt (xs : List Int) : Byt (xs.flatMap encL) := Byt.of_mem (by
  intro y hy
  obtain ⟨x, _, h⟩ := List.mem_flatMap.1 hy
  exact (encL_byt x).mem y h)
theorem enc_len (xs : List Int) : (xs.flatMap encL).length ≤ 4 * xs.length := by
  induction xs with
  | nil => simp
  | cons x xs ih =>
    have := (enc_whole [] [] x).2.2.2
    simp only [List.flatMap_cons, List.length_append, List.length_cons]
    omega
end Go.Proofs.Ytclamdpbdafmcaa
