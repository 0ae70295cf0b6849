/-
  The law's awake: an expression of nothing written; no statement is proved here.
-/
import Derived.Test.YtfedijclhlchbaaGreatDoorRgN
namespace Go.Proofs.YtfedijclhlchbaaGreatDoor
open Go.RowKit Go.Shelf
set_option linter.unusedVariables false
set_option linter.unusedSimpArgs false
attribute [local go_sem] Oper.semAt_some

theorem Turn.put {S : List Nat} {w w' : World} (h : Turn S w w') {D : Nat} (hD : D ∈ S ∨ w.heap.size ≤ D) (o : Obj) : Turn S w (w'.putObj D o) :=
  ⟨h.os, h.tape, h.output, by simpa using h.size, fun k hk hn => by
    rw [World.putObj_heap_other (by rintro rfl; exact hD.elim hn (fun h => by omega))]
    exact h.block k hk hn⟩
theorem Grew.put {w w' : World} (h : Grew w w') {D : Nat} (hD : w.heap.size ≤ D) (o : Obj) : Grew w (w'.putObj D o) := ((h.turn []).put (Or.inr hD) o).grew (Grew.refl w) (by simp)
theorem cell_obj {W : World} {b : Nat} {v : Value} {t : TypeId} (h : W.heap[b]? = some (.cells #[v] t (0, 0))) : W.cell? ⟨b, 0, none⟩ = some v := by
  rw [cell_of h]; rfl
set_option maxRecDepth 100000 in
theorem walk_any (a : Option Addr) (n c : Nat) (k : FuncId) (cp : Array Value) (w : World) : Calls Tryz.prog 51 #[.slice a n c, .func (.func k) #[] cp] w fun en w' => en = .returned (.func (.func 59) #[] #[.pointer (some ⟨w.heap.size, 0, none⟩), .pointer (some ⟨w.heap.size + 1, 0, none⟩)]) ∧
    w'.heap[w.heap.size]? = some (.cells #[.slice a n c] 66 (0, 0)) ∧ w'.heap[w.heap.size + 1]? = some (.cells #[.func (.func k) #[] cp] 121 (0, 0)) ∧ Grew w w' := by
  have hmf : ∀ (fn : Fn) (first cap : Array Value) (w : World), (Instr.makeFunc fn first cap).run Tryz.prog w = .ok (.func fn first cap) w := fun _ _ _ _ => rfl
  go_enter Tryz.func51, Tryz.ntmps51
  go_wp2_with fail
  go_ret
  refine ⟨rfl, heap_alloc (heap_alloc_last _ _) _, ?_, ((Grew.refl w).alloc _).alloc _⟩
  have := heap_alloc_last (w.alloc (.cells #[.slice a n c] 66)) (.cells #[.func (.func k) #[] cp] 121)
  rwa [alloc_size] at this
set_option maxRecDepth 100000 in
set_option maxHeartbeats 1000000 in
theorem walk1_nil {w : World} {bx by_ l : Nat} (hx : w.cell? ⟨bx, 0, none⟩ = some (.slice none 0 0)) :
    Calls Tryz.prog 59 (#[.func (.yield l) #[] #[]] ++ #[.pointer (some ⟨bx, 0, none⟩), .pointer (some ⟨by_, 0, none⟩)]) w fun e B => (∃ v, e = .returned v) ∧ Grew w B := by
  go_enter Tryz.func59, Tryz.ntmps59
  go_wp2_with fail
  have o1 := heap_alloc_last w (.cells #[.slice none 0 0, .int .i64 0, .bool false] 99)
  have G1 : Hid (Grew w (w.alloc (.cells #[.slice none 0 0, .int .i64 0, .bool false] 99))) := (Grew.refl w).alloc _
  generalize (w.alloc (.cells #[.slice none 0 0, .int .i64 0, .bool false] 99)) = w1 at *
  have O1 : Hid (w1.heap[w.heap.size]? = some (.cells #[.slice none 0 0, .int .i64 0, .bool false] 99 (0, 0))) := o1
  clear o1
  go_loopw [4] (fun v_ w' => ∃ n : Nat, v_ = .slice (some ⟨w.heap.size, 0, none⟩) n 1 ∧ n ≤ 1 ∧ Hid (w'.heap[w.heap.size]? = some (.cells #[.slice none 0 0, .int .i64 0, .bool false] 99 (0, 0))) ∧ Hid (Grew w w')) (fun v_ _ => match v_ with | .slice _ n _ => n | _ => 0)
  case atStart => exact ⟨1, rfl, by omega, O1, G1⟩
  case round =>
    clear O1 G1
    obtain ⟨n, rfl, hn, HO, HG⟩ := hrel
    have hs := lt_of_obj HO.out
    have c0 := cell_of HO.out 0
    have c1 := cell_of HO.out 1
    have c2 := cell_of HO.out 2
    simp at c0 c1 c2
    rcases Nat.lt_or_ge 0 n with h | h
    · obtain rfl : n = 1 := by omega
      go_wp2_with fail
      go_roundw
      case rel => exact ⟨0, rfl, by omega, heap_alloc HO.out _, HG.out.alloc _⟩
      case measure => exact Nat.zero_lt_one
    · obtain rfl : n = 0 := by omega
      go_wp2_with fail
      go_end0
      exact ⟨⟨_, rfl⟩, HG.out⟩
set_option maxRecDepth 100000 in
theorem everyOne_nil (w : World) : Calls Tryz.prog 35 #[.slice none 0 0] w fun en w' => ∃ bx by_ : Nat, en = .returned (.func (.func 59) #[] #[.pointer (some ⟨bx, 0, none⟩), .pointer (some ⟨by_, 0, none⟩)]) ∧ w'.cell? ⟨bx, 0, none⟩ = some (.slice none 0 0) ∧ Grew w w' := by
  have C := walk_any none 0 0 52 #[] w
  go_enter Tryz.func35, Tryz.ntmps35
  go_wp2_with fail
  refine C.mono ?_
  rintro en w1 ⟨rfl, o1, _, g1⟩
  have F1 : Hid (w1.cell? ⟨w.heap.size, 0, none⟩ = some (.slice none 0 0) ∧ Grew w w1) := ⟨cell_obj o1, g1⟩
  clear C o1 g1
  go_wp2_with fail
  go_ret
  exact ⟨_, _, rfl, F1.out⟩
set_option maxRecDepth 100000 in
theorem asWritten_nil (w : World) : Calls Tryz.prog 38 #[.slice none 0 0] w fun en w' => ∃ bx by_ : Nat, en = .returned (.func (.func 59) #[] #[.pointer (some ⟨bx, 0, none⟩), .pointer (some ⟨by_, 0, none⟩)]) ∧ w'.cell? ⟨bx, 0, none⟩ = some (.slice none 0 0) ∧ Grew w w' := by
  have hmf : ∀ (fn : Fn) (first cap : Array Value) (w : World), (Instr.makeFunc fn first cap).run Tryz.prog w = .ok (.func fn first cap) w := fun _ _ _ _ => rfl
  go_enter Tryz.func38, Tryz.ntmps38
  go_wp2_with fail
  refine (walk_any none 0 0 _ _ _).mono ?_
  rintro en w1 ⟨rfl, o1, _, g1⟩
  have F1 : Hid (w1.cell? ⟨w.heap.size + 1 + 1 + 1 + 1, 0, none⟩ = some (.slice none 0 0) ∧ Grew w w1) := by
    have h := cell_obj o1
    simp only [alloc_size] at h
    exact ⟨h, (((((Grew.refl w).alloc _).alloc _).alloc _).alloc _).trans g1⟩
  clear o1 g1
  go_wp2_with fail
  go_ret
  exact ⟨_, _, rfl, F1.out⟩
set_option maxRecDepth 100000 in
set_option maxHeartbeats 1000000 in
theorem overLimits_nil (w : World) : Calls Tryz.prog 24 #[.slice none 0 0] w fun en w' => en = .returned (.bool false) ∧ Grew w w' := by
  have CE : Hid (∀ X, Calls Tryz.prog 35 #[.slice none 0 0] X fun en w' => ∃ bx by_ : Nat, en = .returned (.func (.func 59) #[] #[.pointer (some ⟨bx, 0, none⟩), .pointer (some ⟨by_, 0, none⟩)]) ∧ w'.cell? ⟨bx, 0, none⟩ = some (.slice none 0 0) ∧ Grew X w') := everyOne_nil
  refine (callsIn_wide (n := 0)).1 ?_
  refine callsIn_of_wp_marks Tryz.func24 rfl trivial ?_ rfl
  simp only [Tryz.ntmps24, List.size_toArray, List.length_cons, List.length_nil, Nat.reduceAdd, Nat.reduceSub, Array.replicate_succ, Array.replicate_zero, List.push_toArray, List.append_toArray, List.nil_append, List.cons_append]
  gi_wp2
  refine ⟨trivial, rfl, (callsIn_wide.2 (CE.out _)).mono ?_⟩
  rintro e w1 ⟨bx, by_, rfl, hc, g1⟩
  have G1 : Hid (Grew w w1) := (((Grew.refl w).alloc _).alloc _).trans g1
  have o1 := (g1.turn []).other (heap_alloc (heap_alloc_last w (.cells #[.bool false] 4)) (.cells #[.int .i64 0, .int .i64 0] 86)) (by simp)
  have O1 : Hid (w1.heap[w.heap.size]? = some (.cells #[.bool false] 4 (0, 0))) := o1
  have HC : Hid (w1.cell? ⟨bx, 0, none⟩ = some (.slice none 0 0)) := hc
  clear g1 o1 hc CE
  gi_wp2
  refine wp_rangeN rfl (enters_of Tryz.func59 (by kernel_rfl) rfl) (fun W l g => walk1_nil (cell_grew HC.out g)) ?hdone
  case hdone =>
    rintro D X hD gX hK
    have OX := (gX.turn []).other O1.out (by simp)
    have GX : Hid (Grew w X) := G1.out.trans gX
    have c6 := cell_obj OX
    have z6 := free_of OX 0
    have l6 := lt_of_obj OX
    have hDn : D ≠ w.heap.size := by
      have := lt_of_obj O1.out
      omega
    have HK : Hid (X.heap[D]? = some (.deferred (some []))) := hK
    have HO : Hid (X.heap[w.heap.size]? = some (.cells #[.bool false] 4 (0, 0))) := OX
    clear gX hK OX
    gi_wp2
    have k3 := heap_other HK.out (p := ⟨w.heap.size, 0, none⟩) hDn (.bool false)
    have k4 : (X.setCell ⟨w.heap.size, 0, none⟩ (.bool false)).heap[w.heap.size]? = some (.cells #[.bool false] 4 (0, 0)) := heap_set HO.out 0 _
    have G3 : Grew w (X.setCell ⟨w.heap.size, 0, none⟩ (.bool false)) := GX.out.set (p := ⟨w.heap.size, 0, none⟩) (Nat.le_refl _) _
    generalize (X.setCell ⟨w.heap.size, 0, none⟩ (.bool false)) = Z at *
    refine ⟨by simp, .inl ⟨_, _, rfl, run_takeDeferred k3, ?_⟩⟩
    have c7 := cell_obj ((World.putObj_heap_other (r := D) (o := .deferred none) (by omega)).trans k4)
    refine ⟨.bool false, (by simp [results, Tryz.results24, go_sem, c7]), rfl, G3.put (by have := G1.out.2; omega) _⟩
set_option maxRecDepth 100000 in
set_option maxHeartbeats 1000000 in
theorem putExpression_nil (w : World) : Calls Tryz.prog 25 #[.slice none 0 0] w fun en w' => ∃ rv, en = .returned (.tuple #[rv, .int .i64 0]) ∧ Reads w' rv [11] ∧ Grew w w' := by
  have CE : Hid (∀ X, Calls Tryz.prog 38 #[.slice none 0 0] X fun en w' => ∃ bx by_ : Nat, en = .returned (.func (.func 59) #[] #[.pointer (some ⟨bx, 0, none⟩), .pointer (some ⟨by_, 0, none⟩)]) ∧ w'.cell? ⟨bx, 0, none⟩ = some (.slice none 0 0) ∧ Grew X w') := asWritten_nil
  refine (callsIn_wide (n := 0)).1 ?_
  refine callsIn_of_wp_marks Tryz.func25 rfl trivial ?_ rfl
  simp only [Tryz.ntmps25, List.size_toArray, List.length_cons, List.length_nil, Nat.reduceAdd, Nat.reduceSub, Array.replicate_succ, Array.replicate_zero, List.push_toArray, List.append_toArray, List.nil_append, List.cons_append]
  gi_wp2
  refine ⟨trivial, rfl, (callsIn_wide.2 (CE.out _)).mono ?_⟩
  rintro e w1 ⟨bx, by_, rfl, hc, g1⟩
  have G1 : Hid (Grew w w1) := ((((Grew.refl w).alloc _).alloc _).alloc _).trans g1
  obtain ⟨a1, a2, a3⟩ := heap_three w (.cells #[.slice none 0 0] 22) (.cells #[.int .i64 0] 24) (.cells #[.slice none 0 0] 22)
  have O1 : Hid (w1.heap[w.heap.size]? = some (.cells #[.slice none 0 0] 22 (0, 0))) := (g1.turn []).other a1 (by simp)
  have O2 : Hid (w1.heap[w.heap.size + 1]? = some (.cells #[.int .i64 0] 24 (0, 0))) := (g1.turn []).other a2 (by simp)
  have O3 : Hid (w1.heap[w.heap.size + 1 + 1]? = some (.cells #[.slice none 0 0] 22 (0, 0))) := (g1.turn []).other a3 (by simp)
  have HC : Hid (w1.cell? ⟨bx, 0, none⟩ = some (.slice none 0 0)) := hc
  clear g1 hc CE a1 a2 a3
  gi_wp2
  refine wp_rangeN rfl (enters_of Tryz.func59 (by kernel_rfl) rfl) (fun W l g => walk1_nil (cell_grew HC.out g)) ?hdone
  case hdone =>
    rintro D X hD gX hK
    have OX1 : Hid (X.heap[w.heap.size]? = some (.cells #[.slice none 0 0] 22 (0, 0))) := (gX.turn []).other O1.out (by simp)
    have OX2 : Hid (X.heap[w.heap.size + 1]? = some (.cells #[.int .i64 0] 24 (0, 0))) := (gX.turn []).other O2.out (by simp)
    have OX3 := (gX.turn []).other O3.out (by simp)
    have GX : Hid (Grew w X) := G1.out.trans gX
    have c3 := cell_obj OX3
    have l3 := lt_of_obj OX3
    have hDn : w.heap.size + 1 + 1 < D := by
      have := lt_of_obj O3.out
      omega
    have HK : Hid (X.heap[D]? = some (.deferred (some []))) := hK
    obtain ⟨i0, hi, hz0, hz1, hz2⟩ := info_parts infoB
    clear gX hK OX3
    gi_wp2_with (gi_at_builtin; refine wpListIn_append_own _ rfl _ _ 22 rfl X.heap.size 5 i0 (.int .u8 0) 1 1 Tryz.underlying22 hi hz0 hz1 hz2 rfl (by decide) (.slice none 0 0) 0 [] rfl (World.ownsRow_nil _ _ _ _) ⟨X.heap.size, 0, none⟩ 1 1 [.int .u8 11] rfl rfl (cell_one_new _ _ _) (by simp [Value.oneCell']) (by unfold maxLen; omega) (by omega) (by simp) ?_; intro v4 w4 hO4 hg4 _; have g4 := grown_grew hg4 ((Grew.refl X).alloc _); have y1 := free_of ((g4.turn []).other OX1.out (by simp)) 0; have y2 := free_of ((g4.turn []).other OX2.out (by simp)) 0; have e1 := cell_obj ((g4.turn []).other OX1.out (by simp)); have e2 := cell_obj ((g4.turn []).other OX2.out (by simp)); obtain ⟨aa, cc, hv⟩ := row_one hO4; subst hv; have G4 : Hid (Grew X w4) := g4; have R4 : Hid (w4.ownsRow X.heap.size 5 1 (.slice aa (0 + 1) cc) (0 + 1) ([] ++ [.int .u8 11])) := hO4; clear hO4 hg4 g4)
    have P1 : w4.heap[w.heap.size]? = some (.cells #[.slice none 0 0] 22 (0, 0)) := (G4.out.turn []).other OX1.out (by simp)
    have P2 : w4.heap[w.heap.size + 1]? = some (.cells #[.int .i64 0] 24 (0, 0)) := (G4.out.turn []).other OX2.out (by simp)
    have P3 : w4.heap[D]? = some (.deferred (some [])) := (G4.out.turn []).other HK.out (by simp)
    have T4 : Turn [w.heap.size, w.heap.size + 1, D] w4 ((w4.setCell ⟨w.heap.size, 0, none⟩ (.slice aa 1 cc)).setCell ⟨w.heap.size + 1, 0, none⟩ (.int .i64 0)) := ((Turn.refl _ w4).set (p := ⟨w.heap.size, 0, none⟩) (Or.inl (by simp)) _).set (p := ⟨w.heap.size + 1, 0, none⟩) (Or.inl (by simp)) _
    have q1 : ((w4.setCell ⟨w.heap.size, 0, none⟩ (.slice aa 1 cc)).setCell ⟨w.heap.size + 1, 0, none⟩ (.int .i64 0)).heap[w.heap.size]? = some (.cells #[.slice aa 1 cc] 22 (0, 0)) := heap_other (heap_set P1 0 _) (by simp) _
    have q2 : ((w4.setCell ⟨w.heap.size, 0, none⟩ (.slice aa 1 cc)).setCell ⟨w.heap.size + 1, 0, none⟩ (.int .i64 0)).heap[w.heap.size + 1]? = some (.cells #[.int .i64 0] 24 (0, 0)) := heap_set (heap_other P2 (by simp) _) 0 _
    have k3 : ((w4.setCell ⟨w.heap.size, 0, none⟩ (.slice aa 1 cc)).setCell ⟨w.heap.size + 1, 0, none⟩ (.int .i64 0)).heap[D]? = some (.deferred (some [])) := heap_other (heap_other P3 (show D ≠ w.heap.size by omega) _) (show D ≠ w.heap.size + 1 by omega) _
    generalize ((w4.setCell ⟨w.heap.size, 0, none⟩ (.slice aa 1 cc)).setCell ⟨w.heap.size + 1, 0, none⟩ (.int .i64 0)) = Z at *
    refine ⟨by simp, .inl ⟨_, _, rfl, run_takeDeferred k3, ?_⟩⟩
    have c7 := cell_obj ((World.putObj_heap_other (r := D) (o := .deferred none) (show w.heap.size ≠ D by omega)).trans q1)
    have c8 := cell_obj ((World.putObj_heap_other (r := D) (o := .deferred none) (show w.heap.size + 1 ≠ D by omega)).trans q2)
    have T5 := T4.put (D := D) (Or.inl (by simp)) (.deferred none)
    have HR : Has X.heap.size X w4 (.slice aa 1 cc) [11] := ⟨R4.out, G4.out.1, G4.out.2⟩
    refine ⟨.tuple #[.slice aa 1 cc, .int .i64 0], (by simp [results, Tryz.results25, go_sem, c7, c8]), _, rfl, HR.reads.turn T5 ?_, T5.grew (GX.out.trans G4.out) ?_⟩
    · intro b hb
      simp at hb
      rcases hb with rfl | rfl | rfl
      · intro j m
        rw [cell_of P1]
        rcases j with _ | j <;> simp
      · intro j m
        rw [cell_of P2]
        rcases j with _ | j <;> simp
      · intro j m
        unfold World.cell?
        rw [P3]
        simp
    · intro y hy
      simp at hy
      omega
set_option maxRecDepth 100000 in
theorem putExpr_nil (w : World) : Calls Tryz.prog 15 #[.slice none 0 0] w fun en w' => ∃ rv, en = .returned (.tuple #[rv, .int .i64 0]) ∧ Reads w' rv [11] ∧ Grew w w' := by
  have C := overLimits_nil w
  go_enter Tryz.func15, Tryz.ntmps15
  go_wp2_with fail
  refine C.mono ?_
  rintro en w1 ⟨rfl, g1⟩
  have G1 : Hid (Grew w w1) := g1
  have C2 := putExpression_nil w1
  clear C g1
  go_wp2_with fail
  refine C2.mono ?_
  rintro en w2 ⟨rv, rfl, r2, g2⟩
  obtain ⟨aa, cc, hv⟩ := r2.len
  subst hv
  have F2 : Hid (Reads w2 (.slice aa ([11] : List Int).length cc) [11] ∧ Grew w w2) := ⟨r2, G1.out.trans g2⟩
  clear C2 r2 g2
  go_wp2_with fail
  refine bodyPost_ret (v := .tuple #[.slice aa ([11] : List Int).length cc, .int .i64 0]) (by simp [results, Tryz.results15, go_sem]) rfl ?_
  exact ⟨_, rfl, F2.out⟩
theorem str11 : strOfNums [11] = { data := #[11] } := by decide
set_option maxRecDepth 100000 in
theorem awakeC_any (w : World) : Calls Tryz.prog 9 #[] w fun en w' => en = .returned (.bool true) ∧ Grew w w' := by
  have C := putExpr_nil w
  go_enter Tryz.func9, Tryz.ntmps9
  go_wp2_with fail
  refine C.mono ?_
  rintro en w1 ⟨rv, rfl, r1, g1⟩
  have hstr := r1.str
  rw [str11] at hstr
  obtain ⟨aa, cc, hv⟩ : ∃ a c, rv = .slice a 1 c := r1.len
  subst hv
  have G1 : Hid (Grew w w1) := g1
  clear C r1 g1
  go_wp2_with fail
  go_ret
  exact ⟨rfl, G1.out⟩
end Go.Proofs.YtfedijclhlchbaaGreatDoor
