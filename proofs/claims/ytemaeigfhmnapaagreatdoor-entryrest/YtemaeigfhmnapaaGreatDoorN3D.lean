/-
  The walks of the document's named and Name; no statement is proved here.
-/
import Derived.Test.YtemaeigfhmnapaaGreatDoorN2F
import Derived.Test.YtemaeigfhmnapaaGreatDoorN3N
namespace Go.Proofs.YtemaeigfhmnapaaGreatDoor
open Go.RowKit
set_option linter.unusedVariables false
set_option linter.unusedSimpArgs false

theorem ret_place' {a a' : Int} {b b' : Bool} (h1 : a = a') (h2 : b = b') : Ending.returned (.tuple #[.int .i64 a, .bool b]) = .returned (.tuple #[.int .i64 a', .bool b']) := by rw [h1, h2]
theorem Grew.of_drewN (w : World) (n : Nat) : Grew w (w.drewN n) := (Grew.refl w).drewN n
theorem stop_run {l : List Int} {a n : Nat} {f : Int} (hf : f = l.getD a 0) (hn : n = lt f) (h0 : n ≠ 0) : stop l a = run l a n f 4 1 := by
  subst hn; subst hf; unfold stop; rw [if_neg h0]
theorem run_go {l : List Int} {a n : Nat} {f : Int} {g k : Nat} (h : k < n) (h1 : a + k < l.length) (h2 : fl f k (l.getD (a + k) 0) = true) : run l a n f (g + 1) k = run l a n f g (k + 1) := by
  simp only [run]; rw [if_pos h, if_pos ⟨h1, h2⟩]
theorem run_no {l : List Int} {a n : Nat} {f : Int} {g k : Nat} (h : k < n) (h1 : ¬ (a + k < l.length ∧ fl f k (l.getD (a + k) 0) = true)) : run l a n f (g + 1) k = k := by
  simp only [run]; rw [if_pos h, if_neg h1]
theorem run_end {l : List Int} {a n : Nat} {f : Int} {g k : Nat} (h : ¬ k < n) : run l a n f g k = k := by
  cases g with
  | zero => rfl
  | succ g => simp only [run]; rw [if_neg h]
set_option maxRecDepth 100000 in
theorem refU_none (ad : Option Addr) (cap : Nat) (w : World) :
    Calls Tryz.prog 88 #[.slice ad 0 cap] w fun e w' => e = .returned (.tuple #[.int .i64 0, .bool true]) ∧ Grew w w' := by
  go_enter Tryz.func88, Tryz.ntmps88
  go_wp2_with fail
  refine wp_loop_rounds 1 ?_
  rw [rounds_succ]
  go_wp2
  go_ret2
  exact ⟨rfl, Grew.refl w⟩
set_option maxRecDepth 100000 in
set_option maxHeartbeats 4000000 in
theorem refU_in (b off cap : Nat) (l : List Int) (w : World) (hlen : l.length ≤ 140737488351232) (hc : ∀ j, j < l.length → w.cell? ⟨b, off + j, none⟩ = some (.int .u8 (l.getD j 0))) (hb : Byt l) :
    Calls Tryz.prog 88 #[.slice (some ⟨b, off, none⟩) l.length cap] w fun e w' => e = .returned (.tuple #[.int .i64 (U l).1, .bool (U l).2]) ∧ Grew w w' := by
  obtain ⟨rU, hU⟩ : ∃ r, r = U l := ⟨_, rfl⟩
  rw [← hU]
  have HU : Hid (rU = uat l 0) := hU
  have HC : Hid (∀ j, j < l.length → w.cell? ⟨b, off + j, none⟩ = some (.int .u8 (l.getD j 0))) := hc
  have HB : Hid (Byt l) := hb
  clear hU hb hc
  go_enter Tryz.func88, Tryz.ntmps88
  go_wp2_with fail
  go_loopw [4, 5, 6] (fun at_ _ _ w' => ∃ (a d : Nat), at_ = .int .i64 a ∧ w' = w.drewN d ∧ a ≤ l.length ∧ rU = uat l a) (fun at_ _ _ _ => l.length - (intOf at_).toNat)
  case atStart => exact ⟨0, 0, rfl, rfl, by omega, HU.out⟩
  case round =>
    obtain ⟨a, d, rfl, rfl, ha, hu⟩ := hrel
    have HUP : Hid (rU = uat l a) := hu
    clear hu
    by_cases hp : a < l.length
    · obtain ⟨f, hf⟩ : ∃ f, f = l.getD a 0 := ⟨_, rfl⟩
      have hcell := HC.out a hp
      obtain ⟨hf0, hf1⟩ := HB.out a
      rw [← hf] at hcell hf0 hf1
      have cl := letter_any f
      obtain ⟨n, hn⟩ : ∃ n, n = lt f := ⟨_, rfl⟩
      have hn4 : n ≤ 4 := by have := lt_cases f; omega
      rw [← hn] at cl
      have HF : Hid (f = l.getD a 0) := hf
      have HN : Hid (n = lt f) := hn
      clear hf hn
      by_cases h0 : n = 0
      · have HW : Hid (rU = ((a : Int), false)) := by
          have hnw : ¬ whole l a := fun h => h.1 (by rw [← HF.out, ← HN.out]; exact h0)
          show rU = _
          rw [HUP.out, uat_bad hp hnw, stop, if_pos (by rw [← HF.out, ← HN.out]; exact h0)]; rfl
        subst h0
        go_wp2_with fail
        refine (cl _ hf0 hf1).mono ?_
        rintro e w1 ⟨rfl, rfl⟩
        go_wp2_with fail
        go_ret2
        exact ⟨ret_place' (by rw [HW.out]) (by rw [HW.out]), Grew.of_drewN _ _⟩
      · have HS : Hid (stop l a = run l a n f 4 1) := stop_run HF.out HN.out h0
        have h0' : ((n : Int) == 0) = false := beq_eq_false_iff_ne.2 (by omega)
        go_wp2_with fail
        refine (cl _ hf0 hf1).mono ?_
        rintro e w1 ⟨rfl, rfl⟩
        clear cl
        go_wp2_with fail
        go_loopw [6] (fun k_ w' => ∃ (k d : Nat), k_ = .int .i64 k ∧ w' = w.drewN d ∧ 1 ≤ k ∧ k ≤ n ∧ a + k ≤ l.length ∧ run l a n f 4 1 = run l a n f (5 - k) k) (fun k_ _ => n - (intOf k_).toNat)
        case atStart => exact ⟨1, d, rfl, rfl, by omega, by omega, by omega, rfl⟩
        case round =>
          obtain ⟨k, d', rfl, rfl, hk1, hkn, hak, hrun⟩ := hrel
          have HRN : Hid (run l a n f 4 1 = run l a n f (5 - k) k) := hrun
          clear hrun
          by_cases hlt : k < n
          · by_cases hin : a + k < l.length
            · obtain ⟨c, hcc⟩ : ∃ c, c = l.getD (a + k) 0 := ⟨_, rfl⟩
              have hcell2 := HC.out (a + k) hin
              rw [← hcc] at hcell2
              have cf := fun w => follows_any f c k w
              have HCC : Hid (c = l.getD (a + k) 0) := hcc
              clear hcc
              cases hfl : fl f k c with
              | false =>
                rw [hfl] at cf
                have HW : Hid (rU = (((a + k : Nat) : Int), false)) := by
                  have hs : stop l a = k := by
                    rw [HS.out, HRN.out, show 5 - k = (4 - k) + 1 from by omega, run_no hlt (by rw [← HCC.out, hfl]; simp)]
                  have hnw : ¬ whole l a := fun h => by
                    have := h.2; rw [← HF.out, ← HN.out, hs] at this; omega
                  show rU = _
                  rw [HUP.out, uat_bad hp hnw, hs]
                go_wp2_with fail
                go_quiet ((go_at_call 104; exact q_same (fun _ => cf _)))
                go_wp2_with fail
                go_ret2
                exact ⟨ret_place' (by rw [HW.out]; omega) (by rw [HW.out]), Grew.of_drewN _ _⟩
              | true =>
                rw [hfl] at cf
                go_wp2_with fail
                go_quiet ((go_at_call 104; exact q_same (fun _ => cf _)))
                go_wp2_with fail
                go_roundw
                case rel =>
                  refine ⟨k + 1, _, by go_num, rfl, by omega, by omega, by omega, ?_⟩
                  rw [HRN.out, show 5 - k = (5 - (k + 1)) + 1 from by omega, run_go hlt hin (by rw [← HCC.out]; exact hfl)]
                case measure => simp [intOf]; omega
            · have HW : Hid (rU = ((l.length : Int), false)) := by
                have hs : stop l a = k := by
                  rw [HS.out, HRN.out, show 5 - k = (4 - k) + 1 from by omega, run_no hlt (by rintro ⟨h, _⟩; omega)]
                have hnw : ¬ whole l a := fun h => by
                  have := h.2; rw [← HF.out, ← HN.out, hs] at this; omega
                show rU = _
                rw [HUP.out, uat_bad hp hnw, hs, show a + k = l.length from by omega]
              go_wp2_with fail
              go_ret2
              exact ⟨ret_place' (by rw [HW.out]) (by rw [HW.out]), Grew.of_drewN _ _⟩
          · have HW : Hid (rU = uat l (a + n)) := by
              have hs : stop l a = n := by
                rw [HS.out, HRN.out, run_end hlt]; omega
              have hw : whole l a := ⟨by rw [← HF.out, ← HN.out]; exact h0, by rw [hs, ← HF.out]; exact HN.out⟩
              show rU = _
              rw [HUP.out, uat_step hp hw, ← HF.out, ← HN.out]
            go_wp2_with fail
            go_roundw
            case rel => exact ⟨a + n, d', by go_num, rfl, by omega, HW.out⟩
            case measure => simp [intOf]; omega
    · go_wp2_with fail
      go_ret2
      have := HUP.out
      rw [uat_end (by omega)] at this
      exact ⟨ret_place' (by rw [this]) (by rw [this]), Grew.of_drewN _ _⟩
theorem refU_any (v : Value) (l : List Int) (w : World) (hR : Reads w v l) (hb : Byt l) (hlen : l.length ≤ 140737488351232) :
    Calls Tryz.prog 88 #[v] w fun e w' => e = .returned (.tuple #[.int .i64 (U l).1, .bool (U l).2]) ∧ Grew w w' := by
  obtain ⟨ad, cap, rfl, hlc, hm, _, h⟩ := hR
  rcases h with rfl | ⟨b, off, rfl, hc⟩
  · exact refU_none ad cap w
  · exact refU_in b off cap l w hlen hc hb
end Go.Proofs.YtemaeigfhmnapaaGreatDoor

namespace Go.Proofs.YtemaeigfhmnapaaGreatDoor
open Go.RowKit
set_option linter.unusedVariables false
set_option linter.unusedSimpArgs false

set_option maxRecDepth 100000 in
theorem refU32_any (v : Value) (l : List Int) (x y : Int) (w : World) (hR : Reads w v l) (hb : Byt l) (hlen : l.length ≤ 140737488351232) :
    Calls Tryz.prog 87 #[v, .int .i64 x, .int .i64 y] w fun en w' => en = .returned (.tuple #[.int .u32 ((rd 32 false l x y).1 % 4294967296), .int .i64 (rd 32 false l x y).2.1, .int .i64 (rd 32 false l x y).2.2]) ∧ w' = w := by
  have c1 := num32u_any v l x y w hR hb hlen
  obtain ⟨ad, cap, rfl⟩ := hR.len
  clear hR hb
  generalize rd 32 false l x y = r at *
  go_enter Tryz.func87, Tryz.ntmps87
  go_wp2_with fail
  refine c1.mono ?_
  rintro en w' ⟨rfl, rfl⟩
  clear c1
  go_wp2_with fail
  go_ret3
  exact ⟨rfl, rfl⟩
theorem ret_name {a a' : List Int} {p p' e e' : Int} (h1 : a = a') (h2 : p = p') (h3 : e = e') :
    Ending.returned (.tuple #[.string (strOfNums a), .int .i64 p, .int .i64 e]) = .returned (.tuple #[.string (strOfNums a'), .int .i64 p', .int .i64 e']) := by rw [h1, h2, h3]
theorem str_nil : strOfNums [] = ⟨#[]⟩ := rfl
set_option maxRecDepth 100000 in
set_option maxHeartbeats 1000000 in
theorem named_any (v : Value) (l : List Int) (p : Int) (E : Nat) (w : World) (hR : Reads w v l) (hb : Byt l) (hlen : l.length ≤ 140737488351232) (hE : E ≤ l.length) :
    Calls Tryz.prog 75 #[v, .int .i64 p, .int .i64 E] w fun en w' => en = .returned (.tuple #[.string (strOfNums (nm (l.take E) p).1), .int .i64 (nm (l.take E) p).2.1, .int .i64 (nm (l.take E) p).2.2]) ∧ Grew w w' := by
  have hl : (l.take E).length = E := by simp; omega
  have c := refU32_any v l p E w hR hb hlen
  obtain ⟨a, cap, rfl⟩ := hR.len
  have hrt := rd_take 32 false l p E hE
  have hcs := nm_cases (l.take E) p
  rw [hl] at hcs
  rw [← hrt] at c
  rcases hcs with ⟨n, q, e, h1, he, h2⟩ | ⟨n, N, Q, h1, hN, hp0, hp, hQ, ⟨hN1, hN2, h2⟩ | ⟨hN', hs, h2⟩ | ⟨hN', hs, i, ⟨hu, h2⟩ | ⟨hu, h2⟩⟩⟩ <;> rw [h1] at c <;> rw [h2] <;> simp only at c ⊢
  · have he' : (e != 0) = true := by simpa using he
    rw [str_nil]
    clear hR hb hrt h1 h2 he
    generalize n % 4294967296 = n' at *
    go_enter Tryz.func75, Tryz.ntmps75
    go_wp2_with fail
    refine c.mono ?_
    rintro en w1 ⟨rfl, rfl⟩
    clear c
    go_wp2_with fail
    go_ret3
    exact ⟨rfl, Grew.refl _⟩
  · rw [hN] at c
    rw [str_nil]
    clear hR hb hrt h1 h2 hN
    go_enter Tryz.func75, Tryz.ntmps75
    go_wp2_with fail
    refine c.mono ?_
    rintro en w1 ⟨rfl, rfl⟩
    clear c
    go_wp2_with fail
    go_ret3
    exact ⟨rfl, Grew.refl _⟩
  · rw [hN] at c
    rw [str_nil]
    have hd : decide ((E : Int) - Q < N) = true := by simp; omega
    clear hR hb hrt h1 h2 hN
    go_enter Tryz.func75, Tryz.ntmps75
    go_wp2_with fail
    refine c.mono ?_
    rintro en w1 ⟨rfl, rfl⟩
    clear c
    go_wp2_with fail
    go_ret3
    exact ⟨rfl, Grew.refl _⟩
  · rw [hN] at c
    rw [str_nil]
    have hd : decide ((E : Int) - Q < N) = false := by simp; omega
    have htt : (l.take E).take (Q + N) = l.take (Q + N) := by rw [List.take_take, Nat.min_eq_left hs]
    rw [htt] at hu
    obtain ⟨a', c', hsl, hr'⟩ := hR.mid_ Q (Q + N) (by omega) (by omega)
    rw [Nat.add_sub_cancel_left] at hsl hr'
    have hsl' : ∀ (w' : World), (Instr.slice 22 (.slice a l.length cap) (some (.int .i64 Q)) (some (.int .i64 ((Q : Int) + N))) none).run Tryz.prog w' = .ok (.slice a' N c') w' := by
      intro w'; have := hsl w'; rwa [show ((Q + N : Nat) : Int) = (Q : Int) + N from by omega] at this
    have c2 := refU_any _ _ w hr' ((hb.take _).drop _) (by simp; omega)
    have hbd := U_bd ((l.take (Q + N)).drop Q)
    rw [hu] at c2 hbd
    have hi : 0 ≤ i ∧ i ≤ N + 4 := by simp at hbd; omega
    clear hR hb hrt h1 h2 hN hsl hr' hu htt hbd
    go_enter Tryz.func75, Tryz.ntmps75
    go_wp2_with fail
    refine c.mono ?_
    rintro en w1 ⟨rfl, rfl⟩
    clear c
    go_wp2_with fail
    refine c2.mono ?_
    rintro en w2 ⟨rfl, hg⟩
    clear c2
    go_wp2_with fail
    go_ret3
    exact ⟨rfl, hg⟩
  · rw [hN] at c
    have hd : decide ((E : Int) - Q < N) = false := by simp; omega
    have htt : (l.take E).take (Q + N) = l.take (Q + N) := by rw [List.take_take, Nat.min_eq_left hs]
    rw [htt] at hu ⊢
    obtain ⟨a', c', hsl, hr'⟩ := hR.mid_ Q (Q + N) (by omega) (by omega)
    rw [Nat.add_sub_cancel_left] at hsl hr'
    have hsl' : ∀ (w' : World), (Instr.slice 22 (.slice a l.length cap) (some (.int .i64 Q)) (some (.int .i64 ((Q : Int) + N))) none).run Tryz.prog w' = .ok (.slice a' N c') w' := by
      intro w'; have := hsl w'; rwa [show ((Q + N : Nat) : Int) = (Q : Int) + N from by omega] at this
    have c2 := refU_any _ _ w hr' ((hb.take _).drop _) (by simp; omega)
    rw [hu] at c2
    have HR : Hid (Reads w (.slice a' N c') ((l.take (Q + N)).drop Q)) := hr'
    clear hR hb hrt h1 h2 hN hsl hr' hu htt
    go_enter Tryz.func75, Tryz.ntmps75
    go_wp2_with fail
    refine c.mono ?_
    rintro en w1 ⟨rfl, rfl⟩
    clear c
    go_wp2_with fail
    refine c2.mono ?_
    rintro en w2 ⟨rfl, hg⟩
    clear c2
    have hstr := (hg.reads HR.out).str
    go_wp2_with fail
    go_ret3
    exact ⟨rfl, hg⟩
theorem nm_arg {l : List Int} {p : Int} (h : ¬ (0 ≤ p ∧ p ≤ l.length)) : nm l p = ([], 0, 1) := nm_rd (rd_out (by omega)) (by decide)
set_option maxRecDepth 100000 in
theorem refName_any (v : Value) (l : List Int) (p : Int) (w : World) (hR : Reads w v l) (hb : Byt l) (hlen : l.length ≤ 140737488351232) :
    Calls Tryz.prog 59 #[v, .int .i64 p] w fun en w' => en = .returned (.tuple #[.string (strOfNums (nm l p).1), .int .i64 (nm l p).2.1, .int .i64 (nm l p).2.2]) ∧ Grew w w' := by
  obtain ⟨a, cap, rfl⟩ := hR.len
  have c := fun p => named_any _ l p l.length w hR hb hlen (Nat.le_refl _)
  rw [List.take_length] at c
  by_cases h0 : 0 ≤ p
  · by_cases h1 : p ≤ l.length
    · have cp := c p
      have d0 : decide (p < 0) = false := by simp; omega
      have d1 : decide ((l.length : Int) < p) = false := by simp; omega
      clear hR hb c h0 h1
      generalize nm l p = r at *
      generalize strOfNums r.1 = s at *
      go_enter Tryz.func59, Tryz.ntmps59
      go_wp2_with fail
      refine cp.mono ?_
      rintro en w1 ⟨rfl, hg⟩
      clear cp
      go_wp2_with fail
      go_ret3
      exact ⟨rfl, hg⟩
    · rw [nm_arg (by omega)]
      have d0 : decide (p < 0) = false := by simp; omega
      have d1 : decide ((l.length : Int) < p) = true := by simp; omega
      clear hR hb c
      simp only [str_nil]
      go_enter Tryz.func59, Tryz.ntmps59
      go_wp2_with fail
      go_ret3
      exact ⟨rfl, Grew.refl _⟩
  · rw [nm_arg (by omega)]
    have d0 : decide (p < 0) = true := by simp; omega
    clear hR hb c
    simp only [str_nil]
    go_enter Tryz.func59, Tryz.ntmps59
    go_wp2_with fail
    go_ret3
    exact ⟨rfl, Grew.refl _⟩
end Go.Proofs.YtemaeigfhmnapaaGreatDoor
