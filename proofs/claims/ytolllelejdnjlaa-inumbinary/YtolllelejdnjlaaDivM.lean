/-
  Plain facts on what Binary answers: sums, products, quotients, rests; no statement is proved here.
-/
import Derived.Test.YtolllelejdnjlaaBinA
namespace Go.Proofs.Ytolllelejdnjlaa
open Go.RowKit
set_option linter.unusedVariables false
set_option linter.unusedSimpArgs false

theorem bv_ar {op k t : Int} (a b : Int) (hk : kd op = k) (ht : tk op = t) (hg : gv op = t) (h0 : 15 ≤ k) (h1 : k ≤ 24)
    (hz : 18 ≤ k → k ≤ 21 → ct t b ≠ 0) (ho : k = 18 → ¬ (sg t (ct t a) = least t ∧ sg t (ct t b) = -1)) :
    bv op a b = (ct t (arx k (ct t a) (ct t b) (sg t (ct t a)) (sg t (ct t b))), 0) := by
  unfold bv
  rw [hk, ht, hg]
  have ha : ark k = 2 := by unfold ark; rw [if_neg (by omega), if_neg (by omega)]
  rw [ha, if_neg (by simp), if_neg (fun h => hz h.1.1 h.1.2 h.2), if_neg (fun h => ho h.1 h.2)]
  unfold bnx
  rw [if_neg (by omega), if_neg (by omega)]
theorem bv_zero {op k t : Int} (a b : Int) (hk : kd op = k) (ht : tk op = t) (h0 : 18 ≤ k) (h1 : k ≤ 21) (hz : ct t b = 0) : bv op a b = (0, 30) := by
  unfold bv
  rw [hk, ht]
  have ha : ark k = 2 := by unfold ark; rw [if_neg (by omega), if_neg (by omega)]
  rw [ha, if_neg (by simp), if_pos ⟨⟨h0, h1⟩, hz⟩]
theorem bv_over {op t : Int} (a b : Int) (hk : kd op = 18) (ht : tk op = t) (hz : ct t b ≠ 0) (ho : sg t (ct t a) = least t ∧ sg t (ct t b) = -1) : bv op a b = (0, 31) := by
  unfold bv
  rw [hk, ht]
  have ha : ark 18 = 2 := by decide
  rw [ha, if_neg (by simp), if_neg (fun h => hz h.2), if_pos ⟨rfl, ho⟩]
/- Modulo m. -/
theorem mod_div (m q r x y A B : Int) (hx : x = q * y + r) (h1 : x % m = A % m) (h2 : y % m = B % m) : ((q % m * B) % m + r % m) % m = A % m := by
  have e1 : (q % m * B) % m = (q * y) % m := by rw [Int.mul_emod, Int.emod_emod, ← h2, ← Int.mul_emod]
  rw [e1, ← Int.add_emod, ← hx, h1]
theorem two_div (m : Int) (hm : m ∣ 18446744073709551616) (q r x y A B : Int) (hx : x = q * y + r) (h1 : x % m = A % m) (h2 : y % m = B % m) :
    ((((q % 18446744073709551616) % m) % m * (B % m)) % 18446744073709551616 % m % m + (r % 18446744073709551616) % m % m) % 18446744073709551616 % m = A % m := by
  simp only [Int.emod_emod_of_dvd _ hm, Int.emod_emod]
  have := mod_div m q r x y A (B % m) hx h1 (by rw [Int.emod_emod]; exact h2)
  exact this
theorem sg_mod1 (a : Int) : sg 1 (ct 1 a) % 4294967296 = a % 4294967296 := by simp [sg, ct]
theorem sg_mod2 (a : Int) : sg 2 (ct 2 a) % 18446744073709551616 = a % 18446744073709551616 := by simp [sg, ct]
/- Where nothing traps: quotient times divisor and rest. -/
theorem back_ar {t : Int} (ht : t = 1 ∨ t = 2) (a b : Int) (h0 : 0 ≤ a) (h1 : a < 18446744073709551616) (h2 : 0 ≤ b) (h3 : b < 18446744073709551616) (q r x y : Int) (hx : x = q * y + r)
    (hxa : x = sg t (ct t a) ∨ x = ct t a) (hyb : y = sg t (ct t b) ∧ x = sg t (ct t a) ∨ y = ct t b ∧ x = ct t a) (Q M : Int) (hQ : Q = ct t (q % 18446744073709551616)) (hM : M = ct t (r % 18446744073709551616)) :
    ct t (arx 15 (ct t (ct t (arx 17 (ct t Q) (ct t b) (sg t (ct t Q)) (sg t (ct t b))))) (ct t M) (sg t (ct t (ct t (arx 17 (ct t Q) (ct t b) (sg t (ct t Q)) (sg t (ct t b)))))) (sg t (ct t M))) = ct t a := by
  have e15 : ∀ a b x y, arx 15 a b x y = (a + b) % 18446744073709551616 := fun _ _ _ _ => rfl
  have e17 : ∀ a b x y, arx 17 a b x y = a * b % 18446744073709551616 := fun _ _ _ _ => rfl
  rw [e15, e17, hQ, hM]
  rcases ht with rfl | rfl
  · have c : ∀ z, ct 1 z = z % 4294967296 := fun _ => rfl
    have m1 := sg_mod1 a
    have m2 := sg_mod1 b
    have k1 : x % 4294967296 = a % 4294967296 := by rcases hyb with ⟨_, h⟩ | ⟨_, h⟩ <;> rw [h]; exact m1; rw [c]; omega
    have k2 : y % 4294967296 = b % 4294967296 := by rcases hyb with ⟨h, _⟩ | ⟨h, _⟩ <;> rw [h]; exact m2; rw [c]; omega
    have := two_div 4294967296 ⟨4294967296, by decide⟩ q r x y a b hx k1 k2
    simp only [c]
    exact this
  · have c : ∀ z, ct 2 z = z := fun _ => rfl
    have m1 := sg_mod2 a
    have m2 := sg_mod2 b
    have k1 : x % 18446744073709551616 = a % 18446744073709551616 := by rcases hyb with ⟨_, h⟩ | ⟨_, h⟩ <;> rw [h]; exact m1; rfl
    have k2 : y % 18446744073709551616 = b % 18446744073709551616 := by rcases hyb with ⟨h, _⟩ | ⟨h, _⟩ <;> rw [h]; exact m2; rfl
    have := two_div 18446744073709551616 ⟨1, by decide⟩ q r x y a b hx k1 k2
    simp only [c]
    rw [Int.emod_eq_of_lt h0 h1] at this
    simp only [Int.emod_emod, Int.emod_eq_of_lt h2 h3] at this
    exact this
theorem arx_bd {k a b x y : Int} (hk : k = 15 ∨ k = 17 ∨ k = 18 ∨ k = 19 ∨ k = 20 ∨ k = 21) (h0 : 0 ≤ a) (h1 : a < 18446744073709551616) (h2 : 0 ≤ b) (h3 : b < 18446744073709551616) :
    0 ≤ arx k a b x y ∧ arx k a b x y < 18446744073709551616 := by
  have m : ∀ z : Int, 0 ≤ z % 18446744073709551616 ∧ z % 18446744073709551616 < 18446744073709551616 := fun z => by omega
  rcases hk with rfl | rfl | rfl | rfl | rfl | rfl
  · exact m _
  · exact m _
  · exact m _
  · exact ⟨Int.ediv_nonneg h0 h2, Int.lt_of_le_of_lt (Int.ediv_le_self _ h0) h1⟩
  · exact m _
  · show 0 ≤ a % b ∧ a % b < _
    by_cases hb : b = 0
    · subst hb; simp; omega
    · exact ⟨Int.emod_nonneg _ hb, Int.lt_trans (Int.emod_lt_of_pos _ (by omega)) h3⟩
theorem ct_bd' {t z : Int} (ht : t = 1 ∨ t = 2) (h : 0 ≤ z ∧ z < 18446744073709551616) : 0 ≤ ct t z ∧ ct t z < 18446744073709551616 := by
  rcases ht with rfl | rfl <;> simp [ct] <;> omega
/- The four answers, and the sum that is the number again. -/
def DivOk (t s a b E F M S : Int) : Prop :=
  (ct t b = 0 ∧ E = 30 ∧ F = 30) ∨ (ct t b ≠ 0 ∧ F = 0 ∧ E = 31 ∧ s = 0 ∧ M = 0) ∨ (ct t b ≠ 0 ∧ F = 0 ∧ E = 0 ∧ S = ct t a)
theorem div_signed {t d r m p : Int} (ht : t = 1 ∨ t = 2) (a b : Int) (h0 : 0 ≤ a) (h1 : a < 18446744073709551616) (h2 : 0 ≤ b) (h3 : b < 18446744073709551616)
    (hd : kd d = 18 ∧ tk d = t ∧ gv d = t) (hr : kd r = 20 ∧ tk r = t ∧ gv r = t) (hm : kd m = 17 ∧ tk m = t ∧ gv m = t) (hp : kd p = 15 ∧ tk p = t ∧ gv p = t) :
    DivOk t 0 a b (bv d a b).2 (bv r a b).2 (bv r a b).1 (bv p (bv m (bv d a b).1 b).1 (bv r a b).1).1 ∧
    (0 ≤ (bv d a b).1 ∧ (bv d a b).1 < 18446744073709551616) ∧ (0 ≤ (bv r a b).1 ∧ (bv r a b).1 < 18446744073709551616) ∧ (0 ≤ (bv m (bv d a b).1 b).1 ∧ (bv m (bv d a b).1 b).1 < 18446744073709551616) := by
  have ba := ct_bd' ht ⟨h0, h1⟩
  have bb := ct_bd' ht ⟨h2, h3⟩
  have em : ∀ Q : Int, bv m Q b = (ct t (arx 17 (ct t Q) (ct t b) (sg t (ct t Q)) (sg t (ct t b))), 0) := fun Q => bv_ar Q b hm.1 hm.2.1 hm.2.2 (by decide) (by decide) (by omega) (by omega)
  have ep : ∀ P M : Int, bv p P M = (ct t (arx 15 (ct t P) (ct t M) (sg t (ct t P)) (sg t (ct t M))), 0) := fun P M => bv_ar P M hp.1 hp.2.1 hp.2.2 (by decide) (by decide) (by omega) (by omega)
  have bm : ∀ Q, 0 ≤ Q ∧ Q < 18446744073709551616 → 0 ≤ (bv m Q b).1 ∧ (bv m Q b).1 < 18446744073709551616 := by
    intro Q hQ
    rw [em]
    have := ct_bd' ht hQ
    exact ct_bd' ht (arx_bd (by decide) this.1 this.2 bb.1 bb.2)
  by_cases hz : ct t b = 0
  · rw [bv_zero a b hd.1 hd.2.1 (by decide) (by decide) hz, bv_zero a b hr.1 hr.2.1 (by decide) (by decide) hz]
    exact ⟨Or.inl ⟨hz, rfl, rfl⟩, by simp, by simp, bm 0 (by simp)⟩
  · have er := bv_ar a b hr.1 hr.2.1 hr.2.2 (by decide) (by decide) (fun _ _ => hz) (by omega)
    have br : 0 ≤ (bv r a b).1 ∧ (bv r a b).1 < 18446744073709551616 := by rw [er]; exact ct_bd' ht (arx_bd (by decide) ba.1 ba.2 bb.1 bb.2)
    by_cases ho : sg t (ct t a) = least t ∧ sg t (ct t b) = -1
    · have ed := bv_over a b hd.1 hd.2.1 hz ho
      refine ⟨Or.inr (Or.inl ⟨hz, by rw [er], by rw [ed], rfl, ?_⟩), by rw [ed]; simp, br, by rw [ed]; exact bm 0 (by simp)⟩
      rw [er]
      show ct t ((sg t (ct t a)).tmod (sg t (ct t b)) % 18446744073709551616) = 0
      rw [ho.2, Int.tmod_neg, Int.tmod_one]
      rcases ht with rfl | rfl <;> rfl
    · have ed := bv_ar a b hd.1 hd.2.1 hd.2.2 (by decide) (by decide) (fun _ _ => hz) (fun _ => ho)
      have bd : 0 ≤ (bv d a b).1 ∧ (bv d a b).1 < 18446744073709551616 := by rw [ed]; exact ct_bd' ht (arx_bd (by decide) ba.1 ba.2 bb.1 bb.2)
      refine ⟨Or.inr (Or.inr ⟨hz, by rw [er], by rw [ed], ?_⟩), bd, br, bm _ bd⟩
      rw [ep, em]
      refine back_ar ht a b h0 h1 h2 h3 ((sg t (ct t a)).tdiv (sg t (ct t b))) ((sg t (ct t a)).tmod (sg t (ct t b))) (sg t (ct t a)) (sg t (ct t b)) ?_ (Or.inl rfl) (Or.inl ⟨rfl, rfl⟩) _ _ (by rw [ed]; rfl) (by rw [er]; rfl)
      rw [Int.mul_comm, Int.mul_tdiv_add_tmod]
theorem div_unsigned {t d r m p : Int} (ht : t = 1 ∨ t = 2) (a b : Int) (h0 : 0 ≤ a) (h1 : a < 18446744073709551616) (h2 : 0 ≤ b) (h3 : b < 18446744073709551616)
    (hd : kd d = 19 ∧ tk d = t ∧ gv d = t) (hr : kd r = 21 ∧ tk r = t ∧ gv r = t) (hm : kd m = 17 ∧ tk m = t ∧ gv m = t) (hp : kd p = 15 ∧ tk p = t ∧ gv p = t) :
    DivOk t 1 a b (bv d a b).2 (bv r a b).2 (bv r a b).1 (bv p (bv m (bv d a b).1 b).1 (bv r a b).1).1 ∧
    (0 ≤ (bv d a b).1 ∧ (bv d a b).1 < 18446744073709551616) ∧ (0 ≤ (bv r a b).1 ∧ (bv r a b).1 < 18446744073709551616) ∧ (0 ≤ (bv m (bv d a b).1 b).1 ∧ (bv m (bv d a b).1 b).1 < 18446744073709551616) := by
  have ba := ct_bd' ht ⟨h0, h1⟩
  have bb := ct_bd' ht ⟨h2, h3⟩
  have em : ∀ Q : Int, bv m Q b = (ct t (arx 17 (ct t Q) (ct t b) (sg t (ct t Q)) (sg t (ct t b))), 0) := fun Q => bv_ar Q b hm.1 hm.2.1 hm.2.2 (by decide) (by decide) (by omega) (by omega)
  have ep : ∀ P M : Int, bv p P M = (ct t (arx 15 (ct t P) (ct t M) (sg t (ct t P)) (sg t (ct t M))), 0) := fun P M => bv_ar P M hp.1 hp.2.1 hp.2.2 (by decide) (by decide) (by omega) (by omega)
  have bm : ∀ Q, 0 ≤ Q ∧ Q < 18446744073709551616 → 0 ≤ (bv m Q b).1 ∧ (bv m Q b).1 < 18446744073709551616 := by
    intro Q hQ
    rw [em]
    have := ct_bd' ht hQ
    exact ct_bd' ht (arx_bd (by decide) this.1 this.2 bb.1 bb.2)
  by_cases hz : ct t b = 0
  · rw [bv_zero a b hd.1 hd.2.1 (by decide) (by decide) hz, bv_zero a b hr.1 hr.2.1 (by decide) (by decide) hz]
    exact ⟨Or.inl ⟨hz, rfl, rfl⟩, by simp, by simp, bm 0 (by simp)⟩
  · have er := bv_ar a b hr.1 hr.2.1 hr.2.2 (by decide) (by decide) (fun _ _ => hz) (by omega)
    have xr := arx_bd (k := 21) (x := sg t (ct t a)) (y := sg t (ct t b)) (by decide) ba.1 ba.2 bb.1 bb.2
    have br : 0 ≤ (bv r a b).1 ∧ (bv r a b).1 < 18446744073709551616 := by rw [er]; exact ct_bd' ht xr
    have ed := bv_ar a b hd.1 hd.2.1 hd.2.2 (by decide) (by decide) (fun _ _ => hz) (by omega)
    have xd := arx_bd (k := 19) (x := sg t (ct t a)) (y := sg t (ct t b)) (by decide) ba.1 ba.2 bb.1 bb.2
    have bd : 0 ≤ (bv d a b).1 ∧ (bv d a b).1 < 18446744073709551616 := by rw [ed]; exact ct_bd' ht xd
    refine ⟨Or.inr (Or.inr ⟨hz, by rw [er], by rw [ed], ?_⟩), bd, br, bm _ bd⟩
    rw [ep, em]
    refine back_ar ht a b h0 h1 h2 h3 (ct t a / ct t b) (ct t a % ct t b) (ct t a) (ct t b) ?_ (Or.inr rfl) (Or.inr ⟨rfl, rfl⟩) _ _ ?_ ?_
    · rw [Int.mul_comm, Int.mul_ediv_add_emod]
    · rw [ed, show arx 19 (ct t a) (ct t b) (sg t (ct t a)) (sg t (ct t b)) = ct t a / ct t b from rfl] at *
      rw [Int.emod_eq_of_lt xd.1 xd.2]
    · rw [er, show arx 21 (ct t a) (ct t b) (sg t (ct t a)) (sg t (ct t b)) = ct t a % ct t b from rfl] at *
      rw [Int.emod_eq_of_lt xr.1 xr.2]
end Go.Proofs.Ytolllelejdnjlaa
