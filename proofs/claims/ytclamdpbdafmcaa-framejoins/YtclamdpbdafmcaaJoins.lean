/-
  Proved: for every row of sections, every id and every name FrameJoins returns true, and the arguments read as before: sections are laid down as the document tells, or refused with its first fault; ranks, the first section of an id, the custom ones of a name are as it tells. No conditions.
-/
import Derived.Test.YtclamdpbdafmcaaJoinR
import Derived.Test.YtclamdpbdafmcaaJoinW
import Derived.Test.YtclamdpbdafmcaaCustomR
import Derived.Test.YtclamdpbdafmcaaFindR
namespace Go.Proofs.Ytclamdpbdafmcaa
open Go.RowKit Go.ChangeShapes Go.WideShapes Go.ChangeAt
set_option linter.unusedVariables false

theorem fnd_mem {L : List Sec} {id : Int} {s : Sec} (h : fnd L id = some s) : s ∈ L := by
  induction L with
  | nil => simp [fnd] at h
  | cons t r ih =>
    rw [fnd] at h
    split at h
    · injection h with h; subst h; simp
    · exact List.mem_cons_of_mem _ (ih h)
theorem secs_len {H : Type} {enc : TypeId × Value → H} {W : World} {a : Option Addr} {len cap : Nat} {d : DataW H} {p : List MemPlace}
    (hf : DataW.Trod enc Try.prog W 0 (fun _ => true) true 37 (.slice a len cap) d p) (hw : ∀ m ∈ d.weights Try.prog 37, m ≤ reachBytes) : len ≤ 2513169434900 := by
  obtain ⟨fuel, hf⟩ := hf
  rcases Go.Deep.open_slice Try.underlying37 hf with ⟨hcs, _⟩ | ⟨x, l, c, m, n, D, Pl, hcs, _, hl, hm, hmm, hxx, hx⟩
  · simp [Value.cells] at hcs
    obtain ⟨rfl, rfl, rfl⟩ := hcs
    omega
  · simp [Value.cells] at hcs
    obtain ⟨rfl, rfl, rfl⟩ := hcs
    simp only [if_true] at hmm
    subst hmm
    simp only [Prod.mk.injEq] at hxx
    have hd := hxx.1
    have hw37 : d.weights Try.prog 37 = (len + (m - len)) * 56 :: (DataW.weightsAll Try.prog 45 ((List.range len).map D) ++ DataW.weightsAll Try.prog 45 ((List.range (m - len)).map fun j => D (len + j))) := by
      rw [hd]
      simp [DataW.weights, Try.underlying37, bytesO45]
    have := hw ((len + (m - len)) * 56) (by rw [hw37]; simp)
    unfold reachBytes at this
    omega
set_option maxRecDepth 100000 in
set_option maxHeartbeats 4000000 in
theorem joins_walk (vl : Value) (L : List Sec) (id : Int) (m : List Int) (w : World) (hS : RdS w vl L) (hF : ∀ s ∈ L, Fit s) (hLl : L.length ≤ 2513169434900) (hm : Byt m) :
    Calls Try.prog 5 #[vl, .int .i64 id, .string (strOfNums m)] w fun e w' => e = .returned (.bool true) ∧ Below w.heap.size w w' := by
  have HF : Hid (∀ s ∈ L, Fit s) := hF
  have HS : Hid (RdS w vl L) := hS
  have HM : Hid (Byt m) := hm
  obtain ⟨je, hje⟩ : ∃ x, x = (join L).2 := ⟨_, rfl⟩
  obtain ⟨ja, hja⟩ : ∃ x, x = (join L).1 := ⟨_, rfl⟩
  have hLe : L.length ≤ 4000000000000 := by omega
  have cj := fun w hS => join_any vl L w hS (fun s hs => ⟨(hF s hs).1, (hF s hs).2.1, (hF s hs).2.2.2⟩) hLe
  have cr := fun w hS => refJoin_any vl L w hS (fun s hs => ⟨(hF s hs).1, (hF s hs).2.1, (hF s hs).2.2.2⟩) hLe
  rw [← hje, ← hja] at cj cr
  have CJ : Hid (∀ w, RdS w vl L → Calls Try.prog 22 #[vl] w fun en w' => ∃ v', en = .returned (.tuple #[v', .int .i64 je]) ∧ Reads w' v' ja ∧ Grew w w') := cj
  have CR : Hid (∀ w, RdS w vl L → Calls Try.prog 23 #[vl] w fun en w' => ∃ v', en = .returned (.tuple #[v', .int .i64 je]) ∧ Reads w' v' ja ∧ Grew w w') := cr
  have CK : Hid (∀ w, RdS w vl L → Calls Try.prog 28 #[vl, .string (strOfNums m)] w fun en w' => ∃ v' K, en = .returned v' ∧ K.map Prod.fst = cst L m ∧ OwnS w.heap.size w' v' K ∧ Grew w w') := fun w h => customs_any vl L m w h HF.out hLl HM.out
  have CL : Hid (∀ w, RdS w vl L → Calls Try.prog 29 #[vl, .string (strOfNums m)] w fun en w' => ∃ v', en = .returned v' ∧ RdS w' v' (cst L m) ∧ Grew w w') := fun w h => refCustoms_any vl L m w h HF.out hLl HM.out
  have CF : Hid (∀ w, RdS w vl L → Calls Try.prog 26 #[vl, .int .i64 id] w fun en w' => Grew w w' ∧ Found w w' (fnd L id) en) := fun w h => find_any vl L id w h HF.out hLe
  have CG : Hid (∀ w, RdS w vl L → Calls Try.prog 27 #[vl, .int .i64 id] w fun en w' => Grew w w' ∧ Found w w' (fnd L id) en) := fun w h => refFind_any vl L id w h HF.out hLe
  obtain ⟨al, capl, rfl, _⟩ := hS
  clear hF cj cr hje hja hm hLe
  have RA : Hid (∀ w : World, Calls Try.prog 24 #[.int .i64 id] w fun e w' => e = .returned (.int .i64 (rank id)) ∧ Grew w w') := fun w => rank_any id w
  have RB : Hid (∀ w : World, Calls Try.prog 25 #[.int .i64 id] w fun e w' => e = .returned (.int .i64 (rank id)) ∧ w' = w) := fun w => refRank_any id w
  generalize strOfNums m = nm at *
  generalize rank id = rk at *
  obtain ⟨o, ho⟩ : ∃ o, o = fnd L id := ⟨_, rfl⟩
  rw [← ho] at CF CG
  have HFO : Hid (∀ s, o = some s → Fit s) := fun s h => HF.out s (fnd_mem (ho.symm.trans h))
  clear ho
  have hjj : (je != je) = false := by simp
  go_enter Try.func5, Try.ntmps5
  go_wp2_with fail
  refine (CJ.out _ HS.out).mono ?_
  rintro en w1 ⟨va, rfl, r1, g1⟩
  have G1 : Hid (Grew w w1) := g1
  have R1 : Hid (Reads w1 va ja) := r1
  obtain ⟨aa, ca, hva⟩ := r1.len
  subst hva
  clear r1 g1
  go_wp2_with fail
  refine (CR.out _ (HS.out.grew G1.out)).mono ?_
  rintro en w2 ⟨vb, rfl, r2, g2⟩
  have G2 : Hid (Grew w w2) := G1.out.trans g2
  have R2 : Hid (Reads w2 vb ja) := r2
  have R1b : Hid (Reads w2 (.slice aa ja.length ca) ja) := g2.reads R1.out
  obtain ⟨ab, cb, hvb⟩ := r2.len
  subst hvb
  clear r2 g2
  go_wp2_with fail
  refine (same_true _ _ ja _ R1b.out R2.out).mono ?_
  rintro en w3 ⟨rfl, hw⟩
  obtain rfl := hw.symm
  clear hw
  go_wp2_with fail
  refine (RA.out _).mono ?_
  rintro en w4 ⟨rfl, g4⟩
  have G4 : Hid (Grew w w4) := G2.out.trans g4
  clear g4
  go_wp2_with fail
  refine (RB.out _).mono ?_
  rintro en w5 ⟨rfl, hw⟩
  obtain rfl := hw.symm
  clear hw R1 R2 R1b
  have hrr : (rk != rk) = false := by simp
  go_wp2_with fail
  cases o with
  | none =>
    refine (CF.out _ (HS.out.grew G4.out)).mono ?_
    rintro en w6 ⟨g6, rfl⟩
    have G6 : Hid (Grew w w6) := G4.out.trans g6
    clear g6
    unfold secV
    go_wp2_with fail
    refine (CG.out _ (HS.out.grew (G6.out.alloc _))).mono ?_
    rintro en w7 ⟨g7, rfl⟩
    have G7 : Hid (Grew w w7) := (G6.out.alloc _).trans g7
    have SB : Hid (w7.heap[w6.heap.size]? = some (Obj.cells #[.int .i64 0, .string ⟨#[]⟩, .slice none 0 0, .int .i64 0] 45 (0, 0))) := (g7.turn []).other (heap_alloc_last _ _) (by simp)
    have e0 := cell_of (heap_alloc SB.out (.cells #[.int .i64 0, .string ⟨#[]⟩, .slice none 0 0, .int .i64 0] 45)) 0
    have e1 := cell_of (heap_alloc SB.out (.cells #[.int .i64 0, .string ⟨#[]⟩, .slice none 0 0, .int .i64 0] 45)) 1
    have e2 := cell_of (heap_alloc SB.out (.cells #[.int .i64 0, .string ⟨#[]⟩, .slice none 0 0, .int .i64 0] 45)) 2
    have e3 := cell_of (heap_alloc SB.out (.cells #[.int .i64 0, .string ⟨#[]⟩, .slice none 0 0, .int .i64 0] 45)) 3
    simp at e0 e1 e2 e3
    clear g7
    unfold secV
    go_wp2_with fail
    refine (same_true _ _ [] _ (reads_nil _) (reads_nil _)).mono ?_
    rintro en w8 ⟨rfl, hw⟩
    obtain rfl := hw.symm
    clear hw
    have G8 : Hid (Grew w (w7.alloc (.cells #[.int .i64 0, .string ⟨#[]⟩, .slice none 0 0, .int .i64 0] 45))) := G7.out.alloc _
    go_wp2_with fail
    refine (CK.out _ (HS.out.grew G8.out)).mono ?_
    rintro en w9 ⟨v9, K, rfl, hK, hO, g9⟩
    have G9 : Hid (Grew w w9) := G8.out.trans g9
    have R9 : Hid (RdS w9 v9 (cst L m)) := by
      have := hO.rds g9.2
      rw [hK] at this
      exact this
    have hv9 : ∃ a c, v9 = .slice a (cst L m).length c := by
      obtain ⟨a, c, h, _⟩ := R9.out
      exact ⟨a, c, h⟩
    obtain ⟨a9, c9, hv9⟩ := hv9
    subst hv9
    have HCL : Hid ((cst L m).length ≤ L.length) := List.length_filter_le _ _
    clear hK hO g9
    go_wp2_with fail
    refine (CL.out _ (HS.out.grew G9.out)).mono ?_
    rintro en w10 ⟨v10, rfl, r10, g10⟩
    have G10 : Hid (Grew w w10) := G9.out.trans g10
    have R10 : Hid (RdS w10 v10 (cst L m)) := r10
    have R9b : Hid (RdS w10 (.slice a9 (cst L m).length c9) (cst L m)) := R9.out.grew g10
    have hv10 : ∃ a c, v10 = .slice a (cst L m).length c := by
      obtain ⟨a, c, h, _⟩ := r10
      exact ⟨a, c, h⟩
    obtain ⟨a10, c10, hv10⟩ := hv10
    subst hv10
    have CA : Hid (∀ w' : World, w' = w10 → Calls Try.prog 20 #[.slice a9 (cst L m).length c9, .slice a10 (cst L m).length c10, .bool true] w' fun e w'' => e = .returned (.bool true) ∧ ∃ n, w'' = w'.drewN n) := fun w' h => by
      subst h
      exact alike_true _ _ (cst L m) (cst L m) true _ R9b.out R10.out rfl (by have := HCL.out; omega) (fun i s t hs ht => by rw [hs] at ht; injection ht with ht; subst ht; exact ⟨rfl, rfl, rfl, fun _ => rfl⟩)
    clear r10 g10
    generalize (cst L m).length = cl at *
    go_wp2_with fail
    refine (CA.out _ rfl).mono ?_
    rintro en w11 ⟨rfl, n11, hw11⟩
    have G11 : Hid (Grew w w11) := by
      show Grew w w11
      rw [hw11]; exact G10.out.drewN n11
    clear hw11
    go_wp2_with fail
    go_ret
    exact ⟨rfl, G11.out.1⟩
  | some s =>
    refine (CF.out _ (HS.out.grew G4.out)).mono ?_
    rintro en w6 ⟨g6, v6, rfl, r6⟩
    have G6 : Hid (Grew w w6) := G4.out.trans g6
    have R6 : Hid (Reads w6 v6 s.data) := r6
    obtain ⟨a6, c6, hv6⟩ := r6.len
    subst hv6
    clear g6 r6
    unfold secV
    go_wp2_with fail
    refine (CG.out _ (HS.out.grew (G6.out.alloc _))).mono ?_
    rintro en w7 ⟨g7, v7, rfl, r7⟩
    have G7 : Hid (Grew w w7) := (G6.out.alloc _).trans g7
    have SB : Hid (w7.heap[w6.heap.size]? = some (Obj.cells #[.int .i64 s.id, .string (strOfNums s.name), .slice a6 s.data.length c6, .int .i64 s.at_] 45 (0, 0))) := (g7.turn []).other (heap_alloc_last _ _) (by simp)
    have R7 : Hid (Reads w7 v7 s.data) := r7
    have R67 : Hid (Reads w7 (.slice a6 s.data.length c6) s.data) := (((Grew.refl w6).alloc _).trans g7).reads R6.out
    obtain ⟨a7, c7, hv7⟩ := r7.len
    subst hv7
    have e0 := cell_of (heap_alloc SB.out (.cells #[.int .i64 s.id, .string (strOfNums s.name), .slice a7 s.data.length c7, .int .i64 s.at_] 45)) 0
    have e1 := cell_of (heap_alloc SB.out (.cells #[.int .i64 s.id, .string (strOfNums s.name), .slice a7 s.data.length c7, .int .i64 s.at_] 45)) 1
    have e2 := cell_of (heap_alloc SB.out (.cells #[.int .i64 s.id, .string (strOfNums s.name), .slice a7 s.data.length c7, .int .i64 s.at_] 45)) 2
    have e3 := cell_of (heap_alloc SB.out (.cells #[.int .i64 s.id, .string (strOfNums s.name), .slice a7 s.data.length c7, .int .i64 s.at_] 45)) 3
    simp at e0 e1 e2 e3
    clear g7 r7
    generalize s.data = D at *
    generalize s.id = id1 at *
    generalize s.at_ = at1 at *
    generalize strOfNums s.name = nm1 at *
    unfold secV
    go_wp2_with fail
    refine (same_true _ _ D _ (((Grew.refl w7).alloc _).reads R67.out) (((Grew.refl w7).alloc _).reads R7.out)).mono ?_
    rintro en w8 ⟨rfl, hw⟩
    obtain rfl := hw.symm
    clear hw
    have G8 : Hid (Grew w (w7.alloc (.cells #[.int .i64 id1, .string nm1, .slice a7 D.length c7, .int .i64 at1] 45))) := G7.out.alloc _
    go_wp2_with fail
    refine (CK.out _ (HS.out.grew G8.out)).mono ?_
    rintro en w9 ⟨v9, K, rfl, hK, hO, g9⟩
    have G9 : Hid (Grew w w9) := G8.out.trans g9
    have R9 : Hid (RdS w9 v9 (cst L m)) := by
      have := hO.rds g9.2
      rw [hK] at this
      exact this
    have hv9 : ∃ a c, v9 = .slice a (cst L m).length c := by
      obtain ⟨a, c, h, _⟩ := R9.out
      exact ⟨a, c, h⟩
    obtain ⟨a9, c9, hv9⟩ := hv9
    subst hv9
    have HCL : Hid ((cst L m).length ≤ L.length) := List.length_filter_le _ _
    clear hK hO g9
    go_wp2_with fail
    refine (CL.out _ (HS.out.grew G9.out)).mono ?_
    rintro en w10 ⟨v10, rfl, r10, g10⟩
    have G10 : Hid (Grew w w10) := G9.out.trans g10
    have R10 : Hid (RdS w10 v10 (cst L m)) := r10
    have R9b : Hid (RdS w10 (.slice a9 (cst L m).length c9) (cst L m)) := R9.out.grew g10
    have hv10 : ∃ a c, v10 = .slice a (cst L m).length c := by
      obtain ⟨a, c, h, _⟩ := r10
      exact ⟨a, c, h⟩
    obtain ⟨a10, c10, hv10⟩ := hv10
    subst hv10
    have CA : Hid (∀ w' : World, w' = w10 → Calls Try.prog 20 #[.slice a9 (cst L m).length c9, .slice a10 (cst L m).length c10, .bool true] w' fun e w'' => e = .returned (.bool true) ∧ ∃ n, w'' = w'.drewN n) := fun w' h => by
      subst h
      exact alike_true _ _ (cst L m) (cst L m) true _ R9b.out R10.out rfl (by have := HCL.out; omega) (fun i s t hs ht => by rw [hs] at ht; injection ht with ht; subst ht; exact ⟨rfl, rfl, rfl, fun _ => rfl⟩)
    clear r10 g10
    generalize (cst L m).length = cl at *
    go_wp2_with fail
    refine (CA.out _ rfl).mono ?_
    rintro en w11 ⟨rfl, n11, hw11⟩
    have G11 : Hid (Grew w w11) := by
      show Grew w w11
      rw [hw11]; exact G10.out.drewN n11
    clear hw11
    go_wp2_with fail
    go_ret
    exact ⟨rfl, G11.out.1⟩
end Go.Proofs.Ytclamdpbdafmcaa
namespace Go.Proofs.Ytclamdpbdafmcaa.frameJoins
open Go.ChangeShapes Go.WideShapes Go.ChangeAt Go.RowKit
set_option linter.unusedVariables false

set_option maxRecDepth 100000 in
theorem lifted (os : Os) (started : os.Started) (H : Type) (enc : TypeId × Value → H) :
    ReturnsInHanded {} Try.checked os 5 .any (Rows.frameJoinsSpec.pre6 enc Try.prog Try.f5 Rows.frameJoinsRow.domain false) (Rows.frameJoinsSpec.post enc Try.prog Try.f5 false true false false) := by
  refine returnsInHanded_of_change_sized (C := Try.checked) own started (by kernel_rfl) Try.func5
    (ChangeSpec.witness6 (enc := enc) (C := Try.checked) false ⟨#[], #[.slice none 0 0, .int .i64 0, .string ⟨#[]⟩], []⟩ 8 (by kernel_rfl) (by kernel_rfl) (by kernel_rfl) (by kernel_rfl)) ?_
  intro W base args ds gs before hval0 hW hcnd hsz0 _
  have hsz : (DataW.weightsEach Try.prog (Try.f5.params.toList ++ Rows.frameJoinsSpec.plain.varTypes Try.prog) (ds ++ gs)).all (· ≤ reachBytes) = true := hsz0
  clear hsz0
  have hval : ∀ (j : Nat) t v, Try.f5.params[j]? = some t → args[j]? = some v → Value.okWide Try.prog W .any base t v := hval0
  have hW' := hW
  obtain ⟨p, q, hA0, hV, rfl, hfz, hnd⟩ := hW
  have hA : DataW.TrodAll enc Try.prog W 0 (fun _ => true) true Try.f5.params.toList args.toList ds p := hA0
  rw [Try.params5] at hA hval hsz
  obtain ⟨v0, vs0, d0, ds0, p0, q0, hargs, rfl, rfl, h0, r0⟩ := trodAll_cons hA
  obtain ⟨v1, vs1, d1, ds1, p1, q1, rfl, rfl, rfl, h1, r1⟩ := trodAll_cons r0
  obtain ⟨v2, vs2, d2, ds2, p2, q2, rfl, rfl, rfl, h2, r2⟩ := trodAll_cons r1
  obtain ⟨rfl, rfl, rfl⟩ := trodAll_nil r2
  obtain rfl : args = #[v0, v1, v2] := by cases args; simp_all
  obtain ⟨rfl, rfl⟩ := trodVars_none hV
  obtain ⟨a0, len0, cap0, rfl⟩ := okWide_slice Try.underlying37 (hval 0 37 v0 rfl rfl)
  have k0 := h0
  have lt0 : ∀ x ∈ p0, x.block < W.heap.size := by obtain ⟨m, hm⟩ := k0; exact DataW.trod_lt m _ _ _ hm
  have hwt : ∀ m ∈ d0.weights Try.prog 37, m ≤ reachBytes := fun m hm => by
    have := List.all_eq_true.1 hsz _ (DataW.weights_mem_each (j := 0) rfl rfl m hm)
    simpa using this
  obtain ⟨l0, hl0, hR0, hF0, _⟩ := open_secs h0 hwt
  have hc0 : l0.length ≤ 2513169434900 := by rw [hl0]; exact secs_len h0 hwt
  subst hl0
  obtain ⟨a1, rfl, rfl, rfl, w1⟩ := open_int Try.underlying3 (hval 1 3 v1 rfl rfl) h1
  obtain ⟨s2, rfl, rfl, rfl, ws2⟩ := Go.ChangeMaps.open_string Try.underlying9 (hval 2 9 v2 rfl rfl) h2
  have hs2 : s2.size ≤ 140737488351232 := reach_str (j := 2) hsz rfl rfl
  obtain ⟨m2, rfl, hB2, hm2⟩ := str_is s2
  clear hA0 hval0
  refine (joins_walk _ l0 a1 m2 W hR0 hF0 hc0 hB2).mono fun e W' ⟨he, bel⟩ => ?_
  subst he
  exact ⟨_, rfl, _, _, _, [], _, [], hW', trodAll_mk1 (shut_bool Try.underlying4 _), (trodAll_cons_mk (Below.trod laidOut (by kernel_rfl) (of_decide_eq_true (by kernel_rfl)) k0 bel lt0) (trodAll_cons_mk (shut_int Try.underlying3 w1) (trodAll_cons_mk (Go.ChangeMaps.shut_string Try.underlying9 ws2) trodAll_mk0))), rfl, bel.frame _, fun h => by cases h⟩

theorem over : Rows.frameJoinsRow.holds Try.pinned (OpenSpec.ofChange Rows.frameJoinsSpec) :=
  OpenClaim.holds_of_wide 5 Try.f5 rfl rfl rfl rfl rfl rfl rfl ⟨rfl, rfl, rfl, rfl, rfl⟩ rfl rfl rfl rfl rfl (by kernel_rfl) Try.func5 (by kernel_rfl)
    (of_decide_eq_true (by kernel_rfl)) (by unfold Func.isWrapper; first | (rw [if_pos (by decide +kernel)]; kernel_rfl) | (rw [if_neg (by decide +kernel)]; exact ⟨rfl, rfl⟩))
    (fun os started H enc _ => lifted os started H enc)

end Go.Proofs.Ytclamdpbdafmcaa.frameJoins
namespace Go.Proofs.Ytclamdpbdafmcaa
theorem frameJoins_holds : Rows.FrameJoinsSaid := frameJoins.over
#print axioms frameJoins_holds
end Go.Proofs.Ytclamdpbdafmcaa
