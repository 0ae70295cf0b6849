/-
  The writer's block; the walks of need, put, putCode, plain; no statement is proved here.
-/
import Derived.Test.YtemaeigfhmnapaaGreatDoorTopV
import Derived.Laws.StructEq
namespace Go.Proofs.YtemaeigfhmnapaaGreatDoor
open Go.RowKit
set_option linter.unusedVariables false
set_option linter.unusedSimpArgs false
set_option linter.constructorNameAsVariable false

/- The writer's block. -/
def wob (o : Value) : Obj := .cells #[o] 134 (0, 0)
/- The writer at b has written l, in a row of the call's own, in blocks from B on. -/
structure WS (b B : Nat) (w : World) (l : List Int) : Prop where
  ex : ∃ o, w.heap[b]? = some (wob o) ∧ w.ownsRow B 5 1 o l.length (U8 l)
  lt : b < B
  le : B ≤ w.heap.size
  tab : Tab w
  ne : 0 ≠ b
  gl : 0 < B
def WAns (b B : Nat) (w : World) (l : List Int) (r : Except Nat (List Int)) (en : Ending) (w' : World) : Prop := match r with
  | .ok m => en = .returned (.tuple #[]) ∧ TB b B w w' ∧ WS b B w' (l ++ m)
  | .error e => (∃ p : Int, en = .panicked (flt p e)) ∧ TB b B w w'
theorem WS.grew {b B : Nat} {w w' : World} {l : List Int} (h : WS b B w l) (g : Grew w w') : WS b B w' l := by
  obtain ⟨o, h1, h2⟩ := h.ex
  exact ⟨⟨o, (g.turn []).other h1 (by simp), row_turn h2 (g.turn []) (by simp)⟩, h.lt, Nat.le_trans h.le g.2, h.tab.grew g, h.ne, h.gl⟩
theorem WS.blt {b B : Nat} {w : World} {l : List Int} (h : WS b B w l) : b < w.heap.size := Nat.lt_of_lt_of_le h.lt h.le
theorem reads_new (w : World) (c : Int) (t : TypeId) : Reads (w.alloc (.cells #[.int .u8 c] t)) (.slice (some ⟨w.heap.size, 0, none⟩) 1 1) [c] := by
  refine ⟨_, 1, rfl, Nat.le_refl _, by unfold maxLen; omega, fun h => (by cases h), Or.inr ⟨w.heap.size, 0, rfl, fun j hj => ?_⟩⟩
  have : j = 0 := by simpa using hj
  subst this
  rw [Nat.zero_add, cell_of (heap_alloc_last _ _)]
  rfl
theorem TB.of_grew {b B : Nat} {w w' : World} (g : Grew w w') : TB b B w w' := TB.of_turn (g.turn []) (by simp)
theorem TB.of_below {b B : Nat} {w w' : World} (h : Below B w w') (hs : w.heap.size ≤ w'.heap.size) : TB b B w w' := ⟨h.os, h.tape, h.output, hs, fun k hk _ hB => h.block k hB⟩
theorem TB.set {b B : Nat} {w w' : World} (h : TB b B w w') (j : Nat) (u : Value) : TB b B w (w'.setCell ⟨b, j, none⟩ u) :=
  h.trans (TB.of_turn ((Turn.refl [b] w').set (p := ⟨b, j, none⟩) (Or.inl (by simp)) u) (by simp))
set_option maxRecDepth 100000 in
theorem need_yes {b B : Nat} {w : World} {l : List Int} (h : WS b B w l) :
    Calls Tryz.prog 92 #[.pointer (some ⟨b, 0, none⟩), .bool true] w fun en w' => en = .returned (.tuple #[]) ∧ w' = w := by
  clear h
  go_enter Tryz.func92, Tryz.ntmps92
  go_wp2_with fail
  go_end0
  exact ⟨rfl, rfl⟩
set_option maxRecDepth 100000 in
theorem need_no {b B : Nat} {w : World} {l : List Int} (h : WS b B w l) :
    Calls Tryz.prog 92 #[.pointer (some ⟨b, 0, none⟩), .bool false] w fun en w' => (∃ p : Int, en = .panicked (flt p 4)) ∧ w' = w := by
  obtain ⟨o, h1, h2⟩ := h.ex
  obtain ⟨a, c, rfl⟩ := row_one h2
  have c0 := cell_of h1 0
  simp at c0
  clear h h1 h2
  go_enter Tryz.func92, Tryz.ntmps92
  go_wp2_with fail
  refine (giveUp_any _ 4 _).mono ?_
  rintro en w1 ⟨rfl, h1⟩
  obtain rfl := h1.symm
  go_wp2_with fail
  exact ⟨rfl, ⟨_, rfl⟩, rfl⟩
set_option maxRecDepth 100000 in
set_option maxHeartbeats 1000000 in
theorem put_any {b B : Nat} {w : World} {l r : List Int} {u : Value} (h : WS b B w l) (hu : Reads w u r) (hl : l.length + r.length ≤ 140737488355328) :
    Calls Tryz.prog 106 #[.pointer (some ⟨b, 0, none⟩), u] w (WAns b B w l (.ok r)) := by
  have H : Hid (WS b B w l) := h
  obtain ⟨o, h1, h2⟩ := h.ex
  obtain ⟨a, c, rfl⟩ := row_one h2
  obtain ⟨ua, uc, rfl⟩ := hu.len
  have c0 := cell_of h1 0
  simp at c0
  have HH : Hid (Has B w w (.slice a l.length c) l) := ⟨h2, Below.refl _ _, h.le⟩
  have HU : Hid (Reads w (.slice ua r.length uc) r) := hu
  have HO : Hid (w.heap[b]? = some (wob (.slice a l.length c))) := h1
  have hlt := h.lt
  clear h h1 h2 hu
  go_enter Tryz.func106, Tryz.ntmps106
  go_wp2_with (
    at_builtin
    refine wp_appS (v := .slice a l.length c) (u := .slice ua r.length uc) rfl _ _ rfl rfl rfl HH.out HU.out hl ?_
    intro v1 w1 hA1
    obtain ⟨ho1, hb1, hs1⟩ := hA1
    have o1 : w1.heap[b]? = some (wob (.slice a l.length c)) := (hb1.block b hlt).trans HO.out
    have hs : w.heap.size ≤ w1.heap.size := hb1.size
    have e0 := cell_of o1 0
    have z0 := free_of o1 0
    simp at e0
    have T1 : Hid (TB b B w w1) := TB.of_below hb1 hs
    have O1 : Hid (w1.heap[b]? = some (wob (.slice a l.length c))) := o1
    have W1 : Hid (w1.ownsRow B 5 1 v1 (l ++ r).length (U8 (l ++ r))) := ho1
    have L1 : Hid (B ≤ w1.heap.size) := hs1
    obtain ⟨a1, cc1, hv1⟩ := row_one ho1
    subst hv1
    clear ho1 hb1 hs1 o1)
  go_end0
  have t : TB b B w (w1.setCell ⟨b, 0, none⟩ (.slice a1 (l.length + r.length) cc1)) := T1.out.set 0 _
  have hw := W1.out
  rw [List.length_append] at hw
  refine ⟨rfl, t, ⟨.slice a1 (l.length + r.length) cc1, by rw [heap_set O1.out]; rfl, ?_⟩, hlt, by simpa using L1.out, H.out.tab.tb t H.out.ne H.out.gl, H.out.ne, H.out.gl⟩
  rw [List.length_append]
  exact row_set hw (NoT.of O1.out (by decide)) _
def codeR (kd n : Int) : Except Nat (List Int) := match codeW kd n with
  | some c => .ok [c]
  | none => .error 4
theorem codeR_some {kd n c : Int} (h : codeW kd n = some c) : codeR kd n = .ok [c] := by unfold codeR; rw [h]
theorem codeR_none {kd n : Int} (h : codeW kd n = none) : codeR kd n = .error 4 := by unfold codeR; rw [h]
set_option maxRecDepth 100000 in
set_option maxHeartbeats 1000000 in
theorem putCode_any {b B : Nat} {w : World} {l : List Int} (h : WS b B w l) (kd n : Int) (hl : l.length ≤ 70368744177664) :
    Calls Tryz.prog 93 #[.pointer (some ⟨b, 0, none⟩), .int .i64 kd, .int .i64 n] w (WAns b B w l (codeR kd n)) := by
  have H : Hid (WS b B w l) := h
  have C := codeOf_any kd n w h.tab
  clear h
  cases hx : codeW kd n with
  | none =>
    rw [hx] at C
    rw [codeR_none hx]
    go_enter Tryz.func93, Tryz.ntmps93
    go_wp2_with fail
    refine C.mono ?_
    rintro en w1 ⟨rfl, g1⟩
    have G1 : Hid (Grew w w1) := g1
    clear C g1
    go_wp2_with fail
    refine (need_no (H.out.grew G1.out)).mono ?_
    rintro en w2 ⟨⟨p, rfl⟩, h2⟩
    obtain rfl := h2.symm
    go_wp2_with fail
    exact ⟨rfl, ⟨p, rfl⟩, TB.of_grew G1.out⟩
  | some c =>
    rw [hx] at C
    rw [codeR_some hx]
    go_enter Tryz.func93, Tryz.ntmps93
    go_wp2_with fail
    refine C.mono ?_
    rintro en w1 ⟨rfl, g1⟩
    have G1 : Hid (Grew w w1) := g1
    clear C g1
    go_wp2_with fail
    refine (need_yes (H.out.grew G1.out)).mono ?_
    rintro en w2 ⟨rfl, h2⟩
    obtain rfl := h2.symm
    go_wp2_with fail
    refine (put_any (r := [c]) (H.out.grew (G1.out.alloc _)) (reads_new _ c _) (by simp; omega)).mono ?_
    rintro en w3 ⟨rfl, t3, s3⟩
    have F3 : Hid (TB b B w w3 ∧ WS b B w3 (l ++ [c])) := ⟨(TB.of_grew (G1.out.alloc _)).trans t3, s3⟩
    clear t3 s3
    go_wp2_with fail
    go_end0
    exact ⟨rfl, F3.out⟩
theorem eqV (an bn ah bh : Int) (au bu : Bool) (W : World) : (binOp .eql 32 (.agg #[.int .i64 an, .bool au, .int .i64 ah]) (.agg #[.int .i64 bn, .bool bu, .int .i64 bh])).run Tryz.prog W = .ok (.bool (an == bn && (au == bu && ah == bh))) W := by
  cases h1 : (an == bn) <;> cases h2 : (au == bu) <;> cases h3 : (ah == bh) <;> simp [go_sem, h1, h2, h3]
def plainW (kd : Int) (t : VT) : Except Nat (List Int) := if t.null = false ∧ t.heap = 0 then codeR kd t.num else .error 4
set_option maxRecDepth 100000 in
set_option maxHeartbeats 1000000 in
theorem plain_any {b B : Nat} {w : World} {l : List Int} (h : WS b B w l) (kd : Int) (t : VT) (hl : l.length ≤ 70368744177664) :
    Calls Tryz.prog 81 #[.pointer (some ⟨b, 0, none⟩), .int .i64 kd, t.v] w (WAns b B w l (plainW kd t)) := by
  have H : Hid (WS b B w l) := h
  have hB := h.le
  clear h
  obtain ⟨n, nul, hp⟩ := t
  unfold plainW VT.v vt
  simp only
  have G0 : Hid (Grew w (w.alloc (.cells #[.int .i64 n, .bool nul, .int .i64 hp] 32))) := (Grew.refl w).alloc _
  by_cases hc : nul = false ∧ hp = 0
  · rw [if_pos hc]
    obtain ⟨rfl, rfl⟩ := hc
    have E : ∀ W, (binOp .eql 32 (.agg #[.int .i64 n, .bool false, .int .i64 0]) (.agg #[.int .i64 n, .bool false, .int .i64 0])).run Tryz.prog W = .ok (.bool true) W := fun W => by rw [eqV]; simp
    have P := putCode_any (H.out.grew G0.out) kd n hl
    obtain ⟨R, hR⟩ : ∃ R, R = codeR kd n := ⟨_, rfl⟩
    rw [← hR] at P ⊢
    clear hR
    go_enter Tryz.func81, Tryz.ntmps81
    go_wp2_with fail
    refine (need_yes (H.out.grew G0.out)).mono ?_
    rintro en w1 ⟨rfl, h1⟩
    obtain rfl := h1.symm
    go_wp2_with fail
    refine P.mono ?_
    intro en w2 ha
    clear P
    cases R with
    | error e =>
      obtain ⟨⟨p, rfl⟩, t2⟩ := ha
      have T2 : Hid (TB b B w w2) := (TB.of_grew G0.out).trans t2
      clear t2
      go_wp2_with fail
      exact ⟨rfl, ⟨p, rfl⟩, T2.out⟩
    | ok m =>
      obtain ⟨rfl, t2, s2⟩ := ha
      have F2 : Hid (TB b B w w2 ∧ WS b B w2 (l ++ m)) := ⟨(TB.of_grew G0.out).trans t2, s2⟩
      clear t2 s2
      go_wp2_with fail
      go_end0
      exact ⟨rfl, F2.out⟩
  · rw [if_neg hc]
    have E : ∀ W, (binOp .eql 32 (.agg #[.int .i64 n, .bool nul, .int .i64 hp]) (.agg #[.int .i64 n, .bool false, .int .i64 0])).run Tryz.prog W = .ok (.bool false) W := fun W => by
      rw [eqV]
      have : (n == n && (nul == false && hp == 0)) = false := by
        cases nul with
        | true => simp
        | false =>
          have : hp ≠ 0 := fun h => hc ⟨rfl, h⟩
          simpa using this
      rw [this]
    clear hc
    go_enter Tryz.func81, Tryz.ntmps81
    go_wp2_with fail
    refine (need_no (H.out.grew G0.out)).mono ?_
    rintro en w1 ⟨⟨p, rfl⟩, h1⟩
    obtain rfl := h1.symm
    go_wp2_with fail
    exact ⟨rfl, ⟨p, rfl⟩, TB.of_grew G0.out⟩
end Go.Proofs.YtemaeigfhmnapaaGreatDoor
