/-
  Proved: for every row of bytes and every row of sections FrameBack returns true, and the arguments read as before: what is joined is split into the same sections; what is split and joined is no longer, and split into the same. No conditions.
-/
import Derived.Test.YtclamdpbdafmcaaOpenS
import Derived.Test.YtclamdpbdafmcaaJoinW
import Derived.Test.YtclamdpbdafmcaaLeastM
import Derived.Test.YtclamdpbdafmcaaAliveR
namespace Go.Proofs.Ytclamdpbdafmcaa
open Go.RowKit Go.ChangeShapes Go.WideShapes Go.ChangeAt
set_option linter.unusedVariables false

theorem sgo_fit (l : List Int) (hb : Byt l) (hl : l.length ≤ 140737488351232) : ∀ (g a : Nat) (last : Int) (acc : List Sec), ∀ s ∈ (sgo l g a last acc).1, s ∈ acc ∨ Fit s := by
  intro g
  induction g with
  | zero => intro a last acc s hs; exact Or.inl hs
  | succ g ih =>
    intro a last acc t ht
    rw [sgo] at ht
    split at ht
    · rename_i ha
      cases hs : secAt l a last with
      | error x => rw [hs] at ht; obtain ⟨p, e⟩ := x; simp at ht
      | ok x =>
        obtain ⟨s, a', last'⟩ := x
        rw [hs] at ht
        simp only at ht
        rcases ih a' last' (acc ++ [s]) t ht with h | h
        · rcases List.mem_append.1 h with h | h
          · exact Or.inl h
          · simp at h
            subst h
            right
            rcases sec_cases l a last ha hb with ⟨_, e⟩ | ⟨_, ⟨n, q, e', _, _, e⟩ | ⟨n, N, Q, _, _, _, _, _, ⟨_, e⟩ | ⟨_, ⟨_, _, e⟩ | ⟨_, _, _, e⟩ | ⟨_, _, ⟨s', p', e', _, _, e⟩ | ⟨s', P, hn, _, _, e⟩⟩⟩⟩⟩ <;> rw [e] at hs
            all_goals first
              | (exfalso; cases hs; done)
              | skip
            all_goals
              simp only [Except.ok.injEq, Prod.mk.injEq] at hs
              obtain ⟨rfl, _, _⟩ := hs
            · exact ⟨Byt.of_mem (by simp), by simp, (hb.take _).drop _, by simp; omega⟩
            · obtain ⟨Q2, N2, _, _, _, _, _, hte, _⟩ := nm_ok hn
              refine ⟨?_, ?_, (hb.take _).drop _, by simp; omega⟩
              · simp only; rw [hte]; exact ((hb.take _).take _).drop _
              · simp only; rw [hte]; simp; omega
        · exact Or.inr h
    · exact Or.inl ht
theorem split_fit (l : List Int) (hb : Byt l) (hl : l.length ≤ 140737488351232) : ∀ s ∈ (split l).1, Fit s := by
  intro s hs
  unfold split at hs
  split at hs
  · simp at hs
  · split at hs
    · simp at hs
    · rcases sgo_fit l hb hl _ _ _ _ s hs with h | h
      · simp at h
      · exact h
theorem split_cnt (l : List Int) (hb : Byt l) : (split l).1.length ≤ 1048576 := by
  have key : ∀ (g a : Nat) (last : Int) (acc : List Sec), (sgo l g a last acc).1.length ≤ acc.length + g := by
    intro g
    induction g with
    | zero => intro a last acc; simp [sgo]
    | succ g ih =>
      intro a last acc
      rw [sgo]
      split
      · cases hs : secAt l a last with
        | error x => obtain ⟨p, e⟩ := x; simp
        | ok x =>
          obtain ⟨s, a', last'⟩ := x
          have := ih a' last' (acc ++ [s])
          simp at this
          simp only; omega
      · simp only; omega
  unfold split
  split
  · simp
  · split
    · simp
    · have := key (l.length - 8) 8 0 []
      unfold sat
      simp at this
      omega
theorem split_none (l : List Int) (hb : Byt l) (h : (split l).2.2 ≠ 0) : (split l).1 = [] := by
  have key : ∀ (g a : Nat) (last : Int) (acc : List Sec), (sgo l g a last acc).2.2 ≠ 0 → (sgo l g a last acc).1 = [] := by
    intro g
    induction g with
    | zero => intro a last acc h; simp [sgo] at h
    | succ g ih =>
      intro a last acc h
      rw [sgo] at h ⊢
      split at h
      · rename_i ha
        rw [if_pos ha]
        cases hs : secAt l a last with
        | error x => obtain ⟨p, e⟩ := x; rfl
        | ok x =>
          obtain ⟨s, a', last'⟩ := x
          rw [hs] at h
          exact ih _ _ _ h
      · simp at h
  unfold split at h ⊢
  split at h
  · rename_i hl; rw [if_pos hl]
  · rename_i hl
    rw [if_neg hl]
    cases hp : pr l 0 hd with
    | some x => obtain ⟨p, e⟩ := x; rfl
    | none =>
      rw [hp] at h
      exact key _ _ _ _ h
theorem join_ok {L : List Sec} (h : (join L).2 = 0) : jf L 0 = 0 ∧ (jb L).length ≤ 1048576 ∧ (join L).1 = jb L := by
  unfold join at h ⊢
  split at h
  · rename_i h1; exact absurd h h1
  · rename_i h1
    split at h
    · simp at h
    · rename_i h2
      rw [if_neg h1, if_neg h2]
      exact ⟨by simpa using h1, by omega, rfl⟩
theorem join_is {L : List Sec} (h : jf L 0 = 0) (hl : (jb L).length ≤ 1048576) : join L = (jb L, 0) := by
  unfold join
  rw [if_neg (by simpa using h), if_neg (by omega)]
theorem byt_jb {L : List Sec} (hF : ∀ s ∈ L, Fit s) (hj : jf L 0 = 0) : Byt (jb L) := by
  refine Byt.of_mem (fun x hx => ?_)
  unfold jb at hx
  rcases List.mem_append.1 hx with hx | hx
  · have : ∀ x ∈ hd, 0 ≤ x ∧ x ≤ 255 := by decide
    exact this x hx
  · obtain ⟨s, hs, hx⟩ := List.mem_flatMap.1 hx
    obtain ⟨f1, f2, f3, f4⟩ := hF s hs
    obtain ⟨y, hy⟩ := jf_mem L 0 hj s hs
    obtain ⟨i0, i13, hnl⟩ := ff_ok hy
    have hbd : Byt (bdy s) ∧ (bdy s).length ≤ 65547 := by
      unfold bdy
      split
      · unfold nb
        have := PU_len s.name.length
        exact ⟨Byt.append (byt_PU _ (by omega) (by omega)) f1, by rw [List.length_append]; omega⟩
      · exact ⟨Byt.of_mem (by simp), by simp⟩
    unfold sb hdS at hx
    rcases List.mem_append.1 hx with hx | hx
    · rcases List.mem_cons.1 hx with rfl | hx
      · omega
      · rcases List.mem_append.1 hx with hx | hx
        · exact (byt_PU _ (by omega) (by omega)).mem x hx
        · exact hbd.1.mem x hx
    · exact f3.mem x hx
theorem like_alike {L M : List Sec} (h : likes L M) : ∀ (i : Nat) (s t : Sec), L[i]? = some s → M[i]? = some t → s.id = t.id ∧ s.name = t.name ∧ s.data = t.data ∧ (false = true → s.at_ = t.at_) :=
  fun i s t h1 h2 => have k := likes_at L M h i s t h1 h2; ⟨k.1, k.2.1, k.2.2, fun h => by cases h⟩

set_option maxRecDepth 100000 in
set_option maxHeartbeats 8000000 in
theorem back_walk (v vl : Value) (l : List Int) (L : List Sec) (w : World) (hR : Reads w v l) (hb : Byt l) (hlen : l.length ≤ 140737488351232) (hS : RdS w vl L) (hF : ∀ s ∈ L, Fit s) (hLl : L.length ≤ 4000000000000) :
    Calls Try.prog 6 #[v, vl] w fun e w' => e = .returned (.bool true) ∧ Below w.heap.size w w' := by
  obtain ⟨M, p, e, hE⟩ : ∃ S p e, split l = (S, p, e) := ⟨_, _, _, rfl⟩
  have cs := fun w hR => split_any v l w hR hb hlen
  rw [hE] at cs
  have CS : Hid (∀ w, Reads w v l → Calls Try.prog 18 #[v] w fun en w' => ∃ vs L, en = .returned (.tuple #[vs, .int .i64 p, .int .i64 e]) ∧ L.map Prod.fst = M ∧ OwnS w.heap.size w' vs L ∧ Grew w w') := cs
  have HR : Hid (Reads w v l) := hR
  have HB : Hid (Byt l) := hb
  have ES : Hid (split l = (M, p, e)) := hE
  have HF : Hid (∀ s ∈ L, Fit s) := hF
  have HS : Hid (RdS w vl L) := hS
  obtain ⟨je, hje⟩ : ∃ x, x = (join L).2 := ⟨_, rfl⟩
  obtain ⟨ja, hja⟩ : ∃ x, x = (join L).1 := ⟨_, rfl⟩
  have cj := fun w hS => join_any vl L w hS (fun s hs => ⟨(hF s hs).1, (hF s hs).2.1, (hF s hs).2.2.2⟩) hLl
  rw [← hje, ← hja] at cj
  have CJ : Hid (∀ w, RdS w vl L → Calls Try.prog 22 #[vl] w fun en w' => ∃ v', en = .returned (.tuple #[v', .int .i64 je]) ∧ Reads w' v' ja ∧ Grew w w') := cj
  have HJE : Hid (je = (join L).2) := hje
  have HJA : Hid (ja = (join L).1) := hja
  obtain ⟨a, cap, rfl⟩ := hR.len
  obtain ⟨al, capl, rfl, _⟩ := hS
  clear hR hb hE cs hF cj hje hja
  go_enter Try.func6, Try.ntmps6
  go_wp2_with fail
  refine (alive_any _).mono ?_
  rintro en w1 ⟨rfl, g1⟩
  have G1 : Hid (Grew w w1) := g1
  clear g1
  go_wp2_with fail
  refine (CJ.out _ (HS.out.grew G1.out)).mono ?_
  rintro en w2 ⟨va, rfl, r2, g2⟩
  have G2 : Hid (Grew w w2) := G1.out.trans g2
  have R2 : Hid (Reads w2 va ja) := r2
  obtain ⟨aa, ca, hva⟩ := r2.len
  subst hva
  clear r2 g2
  by_cases hj : je = 0
  · subst hj
    obtain ⟨k1, k2, k3⟩ := join_ok HJE.out.symm
    rw [← HJA.out] at k3
    subst k3
    have hbj := byt_jb HF.out k1
    obtain ⟨M1, hM1, hs1⟩ := split_join k1 k2 hbj
    have cs1 := split_any _ (jb L) w2 R2.out hbj (by omega)
    rw [hs1] at cs1
    simp only at cs1
    have HM1 : Hid (likes L M1) := hM1
    have HL1 : Hid (L.length = M1.length) := likes_len _ _ hM1
    clear hbj hM1 hs1 k1
    generalize jb L = X at *
    go_wp2_with fail
    refine cs1.mono ?_
    rintro en w3 ⟨v3, K1, rfl, hK1, hO1, g3⟩
    have G3 : Hid (Grew w2 w3) := g3
    have R3 : Hid (RdS w3 v3 M1) := by
      have := hO1.rds g3.2
      rw [hK1] at this
      exact this
    obtain ⟨a3, c3, hv3⟩ := hO1.form
    subst hv3
    have CA1 : Hid (Calls Try.prog 20 #[.slice al L.length capl, .slice a3 K1.length c3, .bool false] w3 fun e w' => e = .returned (.bool true) ∧ ∃ n, w' = w3.drewN n) :=
      alike_true _ _ L M1 false w3 (HS.out.grew (G2.out.trans G3.out)) R3.out HL1.out hLl (like_alike HM1.out)
    clear cs1 hK1 hO1 g3
    go_wp2_with fail
    refine CA1.out.mono ?_
    rintro en w4 ⟨rfl, n4, hw4⟩
    have G4 : Hid (Grew w w4) := by
      show Grew w w4
      rw [hw4]; exact (G2.out.trans G3.out).drewN n4
    clear hw4
    go_wp2_with fail
    refine (CS.out _ (G4.out.reads HR.out)).mono ?_
    rintro en wa ⟨vm, K2, rfl, hK2, hO2, ga⟩
    have GA : Hid (Grew w wa) := G4.out.trans ga
    have OA : Hid (OwnS w4.heap.size wa vm K2) := hO2
    have KA : Hid (K2.map Prod.fst = M) := hK2
    have hKl : Hid (K2.length = M.length) := by show _ = _; rw [← hK2, List.length_map]
    have RA : Hid (RdS wa vm M) := by
      have := hO2.rds ga.2
      rw [hK2] at this
      exact this
    obtain ⟨am, cm, hvm⟩ := hO2.form
    subst hvm
    clear hK2 hO2 ga
    by_cases he : e = 0
    · subst he
      obtain ⟨j1, j2, j3, j4⟩ := split_least HB.out ES.out
      have FM : Hid (∀ s ∈ M, Fit s) := by
        have := split_fit l HB.out hlen
        rw [ES.out] at this
        exact this
      have hMc : M.length ≤ 1048576 := by
        have := split_cnt l HB.out
        rw [ES.out] at this
        exact this
      have cj := join_any _ M wa RA.out (fun s hs => ⟨(FM.out s hs).1, (FM.out s hs).2.1, (FM.out s hs).2.2.2⟩) (by omega)
      rw [join_is j1 (by omega)] at cj
      have hbj := byt_jb FM.out j1
      obtain ⟨M3, hM3, hs3⟩ := split_join j1 (by omega) hbj
      have hl3 := likes_len _ _ hM3
      have HBJ : Hid (Byt (jb M)) := hbj
      have HM3 : Hid (likes M M3) := hM3
      have HS3 : Hid (split (jb M) = (M3, 0, 0)) := hs3
      have HL3 : Hid (M.length = M3.length) := hl3
      have J4 : Hid ((jb M).length = l.length → jb M = l) := j4
      obtain ⟨X, hX⟩ : ∃ X, X = jb M := ⟨_, rfl⟩
      rw [← hX] at cj HBJ HS3 J4 j2
      clear hbj hM3 hs3 hl3 j1 j4 hX
      simp only at cj
      go_wp2_with fail
      refine cj.mono ?_
      rintro en wb ⟨vb, rfl, rb, gb⟩
      have GB : Hid (Grew wa wb) := gb
      have RB : Hid (Reads wb vb X) := rb
      obtain ⟨ab, cb, hvb⟩ := rb.len
      subst hvb
      clear cj rb gb
      have dl : decide ((l.length : Int) < (X.length : Int)) = false := by simp; omega
      have cs3 := split_any _ X wb RB.out HBJ.out (by omega)
      rw [HS3.out] at cs3
      simp only at cs3
      go_wp2_with fail
      refine cs3.mono ?_
      rintro en wc ⟨vc, K3, rfl, hK3, hO3, gc⟩
      have GC : Hid (Grew wb wc) := gc
      have RC : Hid (RdS wc vc M3) := by
        have := hO3.rds gc.2
        rw [hK3] at this
        exact this
      obtain ⟨ac, cc, hvc⟩ := hO3.form
      subst hvc
      clear cs3 hK3 hO3 gc
      have CA : Hid (Calls Try.prog 20 #[.slice am K2.length cm, .slice ac K3.length cc, .bool false] wc fun e w' => e = .returned (.bool true) ∧ ∃ n, w' = wc.drewN n) :=
        alike_true _ _ M M3 false wc (RA.out.grew (GB.out.trans GC.out)) RC.out HL3.out (by omega) (like_alike HM3.out)
      by_cases hlt : X.length < l.length
      · have d2 : decide ((X.length : Int) < (l.length : Int)) = true := by simp; omega
        go_wp2_with fail
        refine CA.out.mono ?_
        rintro en wd ⟨rfl, nd, rfl⟩
        go_wp2_with fail
        go_ret
        exact ⟨by simp, (((GA.out.trans GB.out).trans GC.out).drewN nd).1⟩
      · have d2 : decide ((X.length : Int) < (l.length : Int)) = false := by simp; omega
        have hXl := J4.out (by omega)
        subst hXl
        go_wp2_with fail
        refine CA.out.mono ?_
        rintro en wd ⟨rfl, nd, rfl⟩
        go_wp2_with fail
        refine (same_true _ _ X _ ((GC.out.drewN nd).reads RB.out) ((((GA.out.trans GB.out).trans GC.out).drewN nd).reads HR.out)).mono ?_
        rintro en we ⟨rfl, hwe⟩
        obtain rfl := hwe
        go_wp2_with fail
        go_ret
        exact ⟨by simp, (((GA.out.trans GB.out).trans GC.out).drewN nd).1⟩
    · have he' : (e != 0) = true := by simpa using he
      have hM0 : M = [] := by
        have := split_none l HB.out (by rw [ES.out]; exact he)
        rw [ES.out] at this
        exact this
      have hK0 : K2.length = 0 := by rw [hKl.out, hM0]; rfl
      rw [hK0]
      clear he
      go_wp2_with fail
      go_ret
      exact ⟨by simp, GA.out.1⟩
  · have hj' : (je == 0) = false := beq_eq_false_iff_ne.2 hj
    clear hj
    go_wp2_with fail
    refine (CS.out _ (G2.out.reads HR.out)).mono ?_
    rintro en wa ⟨vm, K2, rfl, hK2, hO2, ga⟩
    have GA : Hid (Grew w wa) := G2.out.trans ga
    have OA : Hid (OwnS w2.heap.size wa vm K2) := hO2
    have KA : Hid (K2.map Prod.fst = M) := hK2
    have hKl : Hid (K2.length = M.length) := by show _ = _; rw [← hK2, List.length_map]
    have RA : Hid (RdS wa vm M) := by
      have := hO2.rds ga.2
      rw [hK2] at this
      exact this
    obtain ⟨am, cm, hvm⟩ := hO2.form
    subst hvm
    clear hK2 hO2 ga
    by_cases he : e = 0
    · subst he
      obtain ⟨j1, j2, j3, j4⟩ := split_least HB.out ES.out
      have FM : Hid (∀ s ∈ M, Fit s) := by
        have := split_fit l HB.out hlen
        rw [ES.out] at this
        exact this
      have hMc : M.length ≤ 1048576 := by
        have := split_cnt l HB.out
        rw [ES.out] at this
        exact this
      have cj := join_any _ M wa RA.out (fun s hs => ⟨(FM.out s hs).1, (FM.out s hs).2.1, (FM.out s hs).2.2.2⟩) (by omega)
      rw [join_is j1 (by omega)] at cj
      have hbj := byt_jb FM.out j1
      obtain ⟨M3, hM3, hs3⟩ := split_join j1 (by omega) hbj
      have hl3 := likes_len _ _ hM3
      have HBJ : Hid (Byt (jb M)) := hbj
      have HM3 : Hid (likes M M3) := hM3
      have HS3 : Hid (split (jb M) = (M3, 0, 0)) := hs3
      have HL3 : Hid (M.length = M3.length) := hl3
      have J4 : Hid ((jb M).length = l.length → jb M = l) := j4
      obtain ⟨X, hX⟩ : ∃ X, X = jb M := ⟨_, rfl⟩
      rw [← hX] at cj HBJ HS3 J4 j2
      clear hbj hM3 hs3 hl3 j1 j4 hX
      simp only at cj
      go_wp2_with fail
      refine cj.mono ?_
      rintro en wb ⟨vb, rfl, rb, gb⟩
      have GB : Hid (Grew wa wb) := gb
      have RB : Hid (Reads wb vb X) := rb
      obtain ⟨ab, cb, hvb⟩ := rb.len
      subst hvb
      clear cj rb gb
      have dl : decide ((l.length : Int) < (X.length : Int)) = false := by simp; omega
      have cs3 := split_any _ X wb RB.out HBJ.out (by omega)
      rw [HS3.out] at cs3
      simp only at cs3
      go_wp2_with fail
      refine cs3.mono ?_
      rintro en wc ⟨vc, K3, rfl, hK3, hO3, gc⟩
      have GC : Hid (Grew wb wc) := gc
      have RC : Hid (RdS wc vc M3) := by
        have := hO3.rds gc.2
        rw [hK3] at this
        exact this
      obtain ⟨ac, cc, hvc⟩ := hO3.form
      subst hvc
      clear cs3 hK3 hO3 gc
      have CA : Hid (Calls Try.prog 20 #[.slice am K2.length cm, .slice ac K3.length cc, .bool false] wc fun e w' => e = .returned (.bool true) ∧ ∃ n, w' = wc.drewN n) :=
        alike_true _ _ M M3 false wc (RA.out.grew (GB.out.trans GC.out)) RC.out HL3.out (by omega) (like_alike HM3.out)
      by_cases hlt : X.length < l.length
      · have d2 : decide ((X.length : Int) < (l.length : Int)) = true := by simp; omega
        go_wp2_with fail
        refine CA.out.mono ?_
        rintro en wd ⟨rfl, nd, rfl⟩
        go_wp2_with fail
        go_ret
        exact ⟨by simp, (((GA.out.trans GB.out).trans GC.out).drewN nd).1⟩
      · have d2 : decide ((X.length : Int) < (l.length : Int)) = false := by simp; omega
        have hXl := J4.out (by omega)
        subst hXl
        go_wp2_with fail
        refine CA.out.mono ?_
        rintro en wd ⟨rfl, nd, rfl⟩
        go_wp2_with fail
        refine (same_true _ _ X _ ((GC.out.drewN nd).reads RB.out) ((((GA.out.trans GB.out).trans GC.out).drewN nd).reads HR.out)).mono ?_
        rintro en we ⟨rfl, hwe⟩
        obtain rfl := hwe
        go_wp2_with fail
        go_ret
        exact ⟨by simp, (((GA.out.trans GB.out).trans GC.out).drewN nd).1⟩
    · have he' : (e != 0) = true := by simpa using he
      have hM0 : M = [] := by
        have := split_none l HB.out (by rw [ES.out]; exact he)
        rw [ES.out] at this
        exact this
      have hK0 : K2.length = 0 := by rw [hKl.out, hM0]; rfl
      rw [hK0]
      clear he
      go_wp2_with fail
      go_ret
      exact ⟨by simp, GA.out.1⟩
end Go.Proofs.Ytclamdpbdafmcaa
namespace Go.Proofs.Ytclamdpbdafmcaa.frameBack
open Go.ChangeShapes Go.WideShapes Go.ChangeAt Go.RowKit
set_option linter.unusedVariables false

set_option maxRecDepth 100000 in
theorem lifted (os : Os) (started : os.Started) (H : Type) (enc : TypeId × Value → H) :
    ReturnsInHanded {} Try.checked os 6 .any (Rows.frameBackSpec.pre6 enc Try.prog Try.f6 Rows.frameBackRow.domain false) (Rows.frameBackSpec.post enc Try.prog Try.f6 false true false false) := by
  refine returnsInHanded_of_change_sized (C := Try.checked) own started (by kernel_rfl) Try.func6
    (ChangeSpec.witness6 (enc := enc) (C := Try.checked) false ⟨#[], #[.slice none 0 0, .slice none 0 0], []⟩ 8 (by kernel_rfl) (by kernel_rfl) (by kernel_rfl) (by kernel_rfl)) ?_
  intro W base args ds gs before hval0 hW hcnd hsz0 _
  have hsz : (DataW.weightsEach Try.prog (Try.f6.params.toList ++ Rows.frameBackSpec.plain.varTypes Try.prog) (ds ++ gs)).all (· ≤ reachBytes) = true := hsz0
  clear hsz0
  have hval : ∀ (j : Nat) t v, Try.f6.params[j]? = some t → args[j]? = some v → Value.okWide Try.prog W .any base t v := hval0
  have hW' := hW
  obtain ⟨p, q, hA0, hV, rfl, hfz, hnd⟩ := hW
  have hA : DataW.TrodAll enc Try.prog W 0 (fun _ => true) true Try.f6.params.toList args.toList ds p := hA0
  rw [Try.params6] at hA hval hsz
  obtain ⟨v0, vs0, d0, ds0, p0, q0, hargs, rfl, rfl, h0, r0⟩ := trodAll_cons hA
  obtain ⟨v1, vs1, d1, ds1, p1, q1, rfl, rfl, rfl, h1, r1⟩ := trodAll_cons r0
  obtain ⟨rfl, rfl, rfl⟩ := trodAll_nil r1
  obtain rfl : args = #[v0, v1] := by cases args; simp_all
  obtain ⟨rfl, rfl⟩ := trodVars_none hV
  obtain ⟨a0, len0, cap0, rfl⟩ := okWide_slice Try.underlying22 (hval 0 22 v0 rfl rfl)
  have k0 := h0
  have lt0 : ∀ x ∈ p0, x.block < W.heap.size := by obtain ⟨m, hm⟩ := k0; exact DataW.trod_lt m _ _ _ hm
  obtain ⟨l0, hl0, hR0, hB0, hd0⟩ := open_bytes h0
  obtain ⟨a1, len1, cap1, rfl⟩ := okWide_slice Try.underlying37 (hval 1 37 v1 rfl rfl)
  have k1 := h1
  have lt1 : ∀ x ∈ p1, x.block < W.heap.size := by obtain ⟨m, hm⟩ := k1; exact DataW.trod_lt m _ _ _ hm
  obtain ⟨l1, hl1, hR1, hF1, hc1⟩ := open_secs h1 (fun m hm => by
    have := List.all_eq_true.1 hsz _ (DataW.weights_mem_each (j := 1) rfl rfl m hm)
    simpa using this)
  subst hl1
  have hs0 : l0.length ≤ 140737488351232 := by
    rcases hd0 with ⟨_, h⟩ | ⟨zs, hz, hle⟩
    · omega
    · rw [hl0]; exact reach_bytes (j := 0) hsz rfl (by rw [hz]; rfl) hle
  clear hA0 hval0
  refine (back_walk _ _ l0 l1 W hR0 hB0 hs0 hR1 hF1 hc1).mono fun e W' ⟨he, bel⟩ => ?_
  subst he
  exact ⟨_, rfl, _, _, _, [], _, [], hW', trodAll_mk1 (shut_bool Try.underlying4 _), (trodAll_cons_mk (Below.trod laidOut (by kernel_rfl) (of_decide_eq_true (by kernel_rfl)) k0 bel lt0) (trodAll_cons_mk (Below.trod laidOut (by kernel_rfl) (of_decide_eq_true (by kernel_rfl)) k1 bel lt1) trodAll_mk0)), rfl, bel.frame _, fun h => by cases h⟩

theorem over : Rows.frameBackRow.holds Try.pinned (OpenSpec.ofChange Rows.frameBackSpec) :=
  OpenClaim.holds_of_wide 6 Try.f6 rfl rfl rfl rfl rfl rfl rfl ⟨rfl, rfl, rfl, rfl, rfl⟩ rfl rfl rfl rfl rfl (by kernel_rfl) Try.func6 (by kernel_rfl)
    (of_decide_eq_true (by kernel_rfl)) (by unfold Func.isWrapper; first | (rw [if_pos (by decide +kernel)]; kernel_rfl) | (rw [if_neg (by decide +kernel)]; exact ⟨rfl, rfl⟩))
    (fun os started H enc _ => lifted os started H enc)

end Go.Proofs.Ytclamdpbdafmcaa.frameBack
namespace Go.Proofs.Ytclamdpbdafmcaa
theorem frameBack_holds : Rows.FrameBackSaid := frameBack.over
#print axioms frameBack_holds
end Go.Proofs.Ytclamdpbdafmcaa
