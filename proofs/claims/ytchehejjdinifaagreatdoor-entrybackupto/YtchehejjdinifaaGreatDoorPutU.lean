/-
  The walks of leb.PutU, leb.PutS and of the document's PutU, PutS: each gives a slice of its own that holds the shortest bytes; no statement is proved here.
-/
import Derived.Test.YtchehejjdinifaaGreatDoorTopV
import Derived.Laws.StructEq
import Derived.Test.YtchehejjdinifaaGreatDoorKit
namespace Go.Proofs.YtchehejjdinifaaGreatDoor
open Go.RowKit
set_option linter.unusedVariables false
set_option linter.unusedSimpArgs false
set_option linter.constructorNameAsVariable false

/- The writer's block. -/
def wob (o : Value) : Obj := .cells #[o] 76 (0, 0)
/- The writer at b has written l, in a row of the call's own, in blocks from B on. -/
structure WS (b B : Nat) (w : World) (l : List Int) : Prop where
  ex : ∃ o, w.heap[b]? = some (wob o) ∧ w.ownsRow B 5 1 o l.length (U8 l)
  lt : b < B
  le : B ≤ w.heap.size
  tab : Tab w
  ne : 0 ≠ b
  gl : 0 < B
def WAns (b B : Nat) (w : World) (l : List Int) (r : Except Nat (List Int)) (en : Ending) (w' : World) : Prop := match r with
  | .ok m => en = .returned (.tuple #[]) ∧ TB b B w w' ∧ WS b B w' (l ++ m)
  | .error e => (∃ p : Int, en = .panicked (flt p e)) ∧ TB b B w w'
theorem WS.grew {b B : Nat} {w w' : World} {l : List Int} (h : WS b B w l) (g : Grew w w') : WS b B w' l := by
  obtain ⟨o, h1, h2⟩ := h.ex
  exact ⟨⟨o, (g.turn []).other h1 (by simp), row_turn h2 (g.turn []) (by simp)⟩, h.lt, Nat.le_trans h.le g.2, h.tab.grew g, h.ne, h.gl⟩
theorem WS.blt {b B : Nat} {w : World} {l : List Int} (h : WS b B w l) : b < w.heap.size := Nat.lt_of_lt_of_le h.lt h.le
theorem reads_new (w : World) (c : Int) (t : TypeId) : Reads (w.alloc (.cells #[.int .u8 c] t)) (.slice (some ⟨w.heap.size, 0, none⟩) 1 1) [c] := by
  refine ⟨_, 1, rfl, Nat.le_refl _, by unfold maxLen; omega, fun h => (by cases h), Or.inr ⟨w.heap.size, 0, rfl, fun j hj => ?_⟩⟩
  have : j = 0 := by simpa using hj
  subst this
  rw [Nat.zero_add, cell_of (heap_alloc_last _ _)]
  rfl
theorem TB.of_grew {b B : Nat} {w w' : World} (g : Grew w w') : TB b B w w' := TB.of_turn (g.turn []) (by simp)
theorem TB.of_below {b B : Nat} {w w' : World} (h : Below B w w') (hs : w.heap.size ≤ w'.heap.size) : TB b B w w' := ⟨h.os, h.tape, h.output, hs, fun k hk _ hB => h.block k hB⟩
theorem TB.set {b B : Nat} {w w' : World} (h : TB b B w w') (j : Nat) (u : Value) : TB b B w (w'.setCell ⟨b, j, none⟩ u) :=
  h.trans (TB.of_turn ((Turn.refl [b] w').set (p := ⟨b, j, none⟩) (Or.inl (by simp)) u) (by simp))
set_option maxRecDepth 100000 in
theorem need_yes {b B : Nat} {w : World} {l : List Int} (h : WS b B w l) :
    Calls Tryz.prog 50 #[.pointer (some ⟨b, 0, none⟩), .bool true] w fun en w' => en = .returned (.tuple #[]) ∧ w' = w := by
  clear h
  go_enter Tryz.func50, Tryz.ntmps50
  go_wp2_with fail
  go_end0
  exact ⟨rfl, rfl⟩
set_option maxRecDepth 100000 in
theorem need_no {b B : Nat} {w : World} {l : List Int} (h : WS b B w l) :
    Calls Tryz.prog 50 #[.pointer (some ⟨b, 0, none⟩), .bool false] w fun en w' => (∃ p : Int, en = .panicked (flt p 4)) ∧ w' = w := by
  obtain ⟨o, h1, h2⟩ := h.ex
  obtain ⟨a, c, rfl⟩ := row_one h2
  have c0 := cell_of h1 0
  simp at c0
  clear h h1 h2
  go_enter Tryz.func50, Tryz.ntmps50
  go_wp2_with fail
  refine (giveUp_any _ 4 _).mono ?_
  rintro en w1 ⟨rfl, h1⟩
  obtain rfl := h1.symm
  go_wp2_with fail
  exact ⟨rfl, ⟨_, rfl⟩, rfl⟩
set_option maxRecDepth 100000 in
set_option maxHeartbeats 1000000 in
theorem put_any {b B : Nat} {w : World} {l r : List Int} {u : Value} (h : WS b B w l) (hu : Reads w u r) (hl : l.length + r.length ≤ 140737488355328) :
    Calls Tryz.prog 22 #[.pointer (some ⟨b, 0, none⟩), u] w (WAns b B w l (.ok r)) := by
  have H : Hid (WS b B w l) := h
  obtain ⟨o, h1, h2⟩ := h.ex
  obtain ⟨a, c, rfl⟩ := row_one h2
  obtain ⟨ua, uc, rfl⟩ := hu.len
  have c0 := cell_of h1 0
  simp at c0
  have HH : Hid (Has B w w (.slice a l.length c) l) := ⟨h2, Below.refl _ _, h.le⟩
  have HU : Hid (Reads w (.slice ua r.length uc) r) := hu
  have HO : Hid (w.heap[b]? = some (wob (.slice a l.length c))) := h1
  have hlt := h.lt
  clear h h1 h2 hu
  go_enter Tryz.func22, Tryz.ntmps22
  go_wp2_with (
    at_builtin
    refine wp_appS (v := .slice a l.length c) (u := .slice ua r.length uc) rfl _ _ rfl rfl rfl HH.out HU.out hl ?_
    intro v1 w1 hA1
    obtain ⟨ho1, hb1, hs1⟩ := hA1
    have o1 : w1.heap[b]? = some (wob (.slice a l.length c)) := (hb1.block b hlt).trans HO.out
    have hs : w.heap.size ≤ w1.heap.size := hb1.size
    have e0 := cell_of o1 0
    have z0 := free_of o1 0
    simp at e0
    have T1 : Hid (TB b B w w1) := TB.of_below hb1 hs
    have O1 : Hid (w1.heap[b]? = some (wob (.slice a l.length c))) := o1
    have W1 : Hid (w1.ownsRow B 5 1 v1 (l ++ r).length (U8 (l ++ r))) := ho1
    have L1 : Hid (B ≤ w1.heap.size) := hs1
    obtain ⟨a1, cc1, hv1⟩ := row_one ho1
    subst hv1
    clear ho1 hb1 hs1 o1)
  go_end0
  have t : TB b B w (w1.setCell ⟨b, 0, none⟩ (.slice a1 (l.length + r.length) cc1)) := T1.out.set 0 _
  have hw := W1.out
  rw [List.length_append] at hw
  refine ⟨rfl, t, ⟨.slice a1 (l.length + r.length) cc1, by rw [heap_set O1.out]; rfl, ?_⟩, hlt, by simpa using L1.out, H.out.tab.tb t H.out.ne H.out.gl, H.out.ne, H.out.gl⟩
  rw [List.length_append]
  exact row_set hw (NoT.of O1.out (by decide)) _
def codeR (kd n : Int) : Except Nat (List Int) := match codeW kd n with
  | some c => .ok [c]
  | none => .error 4
theorem codeR_some {kd n c : Int} (h : codeW kd n = some c) : codeR kd n = .ok [c] := by unfold codeR; rw [h]
theorem codeR_none {kd n : Int} (h : codeW kd n = none) : codeR kd n = .error 4 := by unfold codeR; rw [h]
set_option maxRecDepth 100000 in
set_option maxHeartbeats 1000000 in
theorem putCode_any {b B : Nat} {w : World} {l : List Int} (h : WS b B w l) (kd n : Int) (hl : l.length ≤ 70368744177664) :
    Calls Tryz.prog 68 #[.pointer (some ⟨b, 0, none⟩), .int .i64 kd, .int .i64 n] w (WAns b B w l (codeR kd n)) := by
  have H : Hid (WS b B w l) := h
  have C := codeOf_any kd n w h.tab
  clear h
  cases hx : codeW kd n with
  | none =>
    rw [hx] at C
    rw [codeR_none hx]
    go_enter Tryz.func68, Tryz.ntmps68
    go_wp2_with fail
    refine C.mono ?_
    rintro en w1 ⟨rfl, g1⟩
    have G1 : Hid (Grew w w1) := g1
    clear C g1
    go_wp2_with fail
    refine (need_no (H.out.grew G1.out)).mono ?_
    rintro en w2 ⟨⟨p, rfl⟩, h2⟩
    obtain rfl := h2.symm
    go_wp2_with fail
    exact ⟨rfl, ⟨p, rfl⟩, TB.of_grew G1.out⟩
  | some c =>
    rw [hx] at C
    rw [codeR_some hx]
    go_enter Tryz.func68, Tryz.ntmps68
    go_wp2_with fail
    refine C.mono ?_
    rintro en w1 ⟨rfl, g1⟩
    have G1 : Hid (Grew w w1) := g1
    clear C g1
    go_wp2_with fail
    refine (need_yes (H.out.grew G1.out)).mono ?_
    rintro en w2 ⟨rfl, h2⟩
    obtain rfl := h2.symm
    go_wp2_with fail
    refine (put_any (r := [c]) (H.out.grew (G1.out.alloc _)) (reads_new _ c _) (by simp; omega)).mono ?_
    rintro en w3 ⟨rfl, t3, s3⟩
    have F3 : Hid (TB b B w w3 ∧ WS b B w3 (l ++ [c])) := ⟨(TB.of_grew (G1.out.alloc _)).trans t3, s3⟩
    clear t3 s3
    go_wp2_with fail
    go_end0
    exact ⟨rfl, F3.out⟩
theorem eqV (an bn ah bh : Int) (au bu : Bool) (W : World) : (binOp .eql 26 (.agg #[.int .i64 an, .bool au, .int .i64 ah]) (.agg #[.int .i64 bn, .bool bu, .int .i64 bh])).run Tryz.prog W = .ok (.bool (an == bn && (au == bu && ah == bh))) W := by
  cases h1 : (an == bn) <;> cases h2 : (au == bu) <;> cases h3 : (ah == bh) <;> simp [go_sem, h1, h2, h3]
def plainW (kd : Int) (t : VT) : Except Nat (List Int) := if t.null = false ∧ t.heap = 0 then codeR kd t.num else .error 4
set_option maxRecDepth 100000 in
set_option maxHeartbeats 1000000 in
theorem plain_any {b B : Nat} {w : World} {l : List Int} (h : WS b B w l) (kd : Int) (t : VT) (hl : l.length ≤ 70368744177664) :
    Calls Tryz.prog 65 #[.pointer (some ⟨b, 0, none⟩), .int .i64 kd, t.v] w (WAns b B w l (plainW kd t)) := by
  have H : Hid (WS b B w l) := h
  have hB := h.le
  clear h
  obtain ⟨n, nul, hp⟩ := t
  unfold plainW VT.v vt
  simp only
  have G0 : Hid (Grew w (w.alloc (.cells #[.int .i64 n, .bool nul, .int .i64 hp] 26))) := (Grew.refl w).alloc _
  by_cases hc : nul = false ∧ hp = 0
  · rw [if_pos hc]
    obtain ⟨rfl, rfl⟩ := hc
    have E : ∀ W, (binOp .eql 26 (.agg #[.int .i64 n, .bool false, .int .i64 0]) (.agg #[.int .i64 n, .bool false, .int .i64 0])).run Tryz.prog W = .ok (.bool true) W := fun W => by rw [eqV]; simp
    have P := putCode_any (H.out.grew G0.out) kd n hl
    obtain ⟨R, hR⟩ : ∃ R, R = codeR kd n := ⟨_, rfl⟩
    rw [← hR] at P ⊢
    clear hR
    go_enter Tryz.func65, Tryz.ntmps65
    go_wp2_with fail
    refine (need_yes (H.out.grew G0.out)).mono ?_
    rintro en w1 ⟨rfl, h1⟩
    obtain rfl := h1.symm
    go_wp2_with fail
    refine P.mono ?_
    intro en w2 ha
    clear P
    cases R with
    | error e =>
      obtain ⟨⟨p, rfl⟩, t2⟩ := ha
      have T2 : Hid (TB b B w w2) := (TB.of_grew G0.out).trans t2
      clear t2
      go_wp2_with fail
      exact ⟨rfl, ⟨p, rfl⟩, T2.out⟩
    | ok m =>
      obtain ⟨rfl, t2, s2⟩ := ha
      have F2 : Hid (TB b B w w2 ∧ WS b B w2 (l ++ m)) := ⟨(TB.of_grew G0.out).trans t2, s2⟩
      clear t2 s2
      go_wp2_with fail
      go_end0
      exact ⟨rfl, F2.out⟩
  · rw [if_neg hc]
    have E : ∀ W, (binOp .eql 26 (.agg #[.int .i64 n, .bool nul, .int .i64 hp]) (.agg #[.int .i64 n, .bool false, .int .i64 0])).run Tryz.prog W = .ok (.bool false) W := fun W => by
      rw [eqV]
      have : (n == n && (nul == false && hp == 0)) = false := by
        cases nul with
        | true => simp
        | false =>
          have : hp ≠ 0 := fun h => hc ⟨rfl, h⟩
          simpa using this
      rw [this]
    clear hc
    go_enter Tryz.func65, Tryz.ntmps65
    go_wp2_with fail
    refine (need_no (H.out.grew G0.out)).mono ?_
    rintro en w1 ⟨⟨p, rfl⟩, h1⟩
    obtain rfl := h1.symm
    go_wp2_with fail
    exact ⟨rfl, ⟨p, rfl⟩, TB.of_grew G0.out⟩
end Go.Proofs.YtchehejjdinifaaGreatDoor

namespace Go.Proofs.YtchehejjdinifaaGreatDoor

def putU : Nat → Int → List Int
  | 0, n => [n]
  | f + 1, n => if 128 ≤ n then (n % 128 + 128) :: putU f (n / 128) else [n]
def PU (n : Int) : List Int := putU 10 n
/- Behind k rounds of writing n: X is left, acc is written. -/
def StU (n : Int) (k : Nat) (X : Int) (acc : List Int) : Prop := k ≤ 9 ∧ X < 2 ^ (64 - 7 * k) ∧ acc.length = k ∧ acc ++ putU (10 - k) X = PU n
theorem StU.start (n : Int) (h : n ≤ 18446744073709551615) : StU n 0 n [] := ⟨by omega, by simp; omega, rfl, rfl⟩
theorem StU.step {n : Int} {k : Nat} {X : Int} {acc : List Int} (h : StU n k X acc) (hX : 128 ≤ X) : StU n (k + 1) (X / 128) (acc ++ [X % 128 + 128]) := by
  obtain ⟨hk, hb, hl, ha⟩ := h
  have hk8 : k ≤ 8 := by
    by_cases e : k = 9
    · subst e; simp at hb; omega
    · omega
  refine ⟨by omega, ?_, by simp [hl], ?_⟩
  · have e : (2 : Int) ^ (64 - 7 * k) = 2 ^ (64 - 7 * (k + 1)) * 128 := by
      rw [show 64 - 7 * k = (64 - 7 * (k + 1)) + 7 from by omega, Int.pow_add]; rfl
    rw [e] at hb
    omega
  · rw [← ha, show 10 - k = (10 - (k + 1)) + 1 from by omega]
    simp [putU, hX]
theorem StU.stop {n : Int} {k : Nat} {X : Int} {acc : List Int} (h : StU n k X acc) (hX : X < 128) : acc ++ [X] = PU n := by
  obtain ⟨hk, hb, hl, ha⟩ := h
  rw [← ha, show 10 - k = (9 - k) + 1 from by omega, putU, if_neg (by omega)]
theorem StU.len {n : Int} {k : Nat} {X : Int} {acc : List Int} (h : StU n k X acc) : acc.length ≤ 9 := by
  obtain ⟨hk, hb, hl, ha⟩ := h; omega

def putS : Nat → Int → List Int
  | 0, n => [n % 128]
  | f + 1, n => if n < -64 ∨ 64 ≤ n then (n % 128 + 128) :: putS f (n / 128) else [n % 128]
def PS (n : Int) : List Int := putS 10 n
def StS (n : Int) (k : Nat) (X : Int) (acc : List Int) : Prop := k ≤ 9 ∧ -(2 ^ (63 - 7 * k)) ≤ X ∧ X < 2 ^ (63 - 7 * k) ∧ acc.length = k ∧ acc ++ putS (10 - k) X = PS n
theorem StS.start (n : Int) (h0 : -9223372036854775808 ≤ n) (h : n ≤ 9223372036854775807) : StS n 0 n [] := ⟨by omega, by simp; omega, by simp; omega, rfl, rfl⟩
theorem StS.step {n : Int} {k : Nat} {X : Int} {acc : List Int} (h : StS n k X acc) (hX : X < -64 ∨ 64 ≤ X) : StS n (k + 1) (X / 128) (acc ++ [X % 128 + 128]) := by
  obtain ⟨hk, hc, hb, hl, ha⟩ := h
  have hk8 : k ≤ 8 := by
    by_cases e : k = 9
    · subst e; simp at hb hc; omega
    · omega
  have e : (2 : Int) ^ (63 - 7 * k) = 2 ^ (63 - 7 * (k + 1)) * 128 := by
    rw [show 63 - 7 * k = (63 - 7 * (k + 1)) + 7 from by omega, Int.pow_add]; rfl
  rw [e] at hb hc
  refine ⟨by omega, by omega, by omega, by simp [hl], ?_⟩
  rw [← ha, show 10 - k = (10 - (k + 1)) + 1 from by omega]
  simp [putS, hX]
theorem StS.stop {n : Int} {k : Nat} {X : Int} {acc : List Int} (h : StS n k X acc) (h0 : -64 ≤ X) (hX : X < 64) : acc ++ [X % 128] = PS n := by
  obtain ⟨hk, hc, hb, hl, ha⟩ := h
  rw [← ha, show 10 - k = (9 - k) + 1 from by omega, putS, if_neg (by omega)]
theorem StS.len {n : Int} {k : Nat} {X : Int} {acc : List Int} (h : StS n k X acc) : acc.length ≤ 9 := by
  obtain ⟨hk, hc, hb, hl, ha⟩ := h; omega

/- A float's bytes, the lowest first. -/
def fixB : Nat → Int → List Int
  | 0, _ => []
  | s + 1, n => (n % 256) :: fixB s (n / 256)
theorem fixB_len (s : Nat) (n : Int) : (fixB s n).length = s := by
  induction s generalizing n with
  | zero => rfl
  | succ s ih => simp [fixB, ih]
theorem fixB_get (s : Nat) (n : Int) (i : Nat) (h : i < s) : (fixB s n)[i]? = some (n / 256 ^ i % 256) := by
  induction s generalizing n i with
  | zero => omega
  | succ s ih =>
    cases i with
    | zero => simp [fixB]
    | succ i =>
      simp only [fixB, List.getElem?_cons_succ]
      rw [ih (n / 256) i (by omega), Int.ediv_ediv_of_nonneg (by omega)]
      rw [show (256 : Int) ^ (i + 1) = 256 * 256 ^ i from by rw [Int.pow_succ, Int.mul_comm]]
theorem fixB_snoc (s : Nat) (n : Int) : fixB (s + 1) n = fixB s n ++ [n / 256 ^ s % 256] := by
  apply List.ext_getElem?
  intro i
  by_cases h : i < s
  · rw [fixB_get _ _ _ (by omega), List.getElem?_append_left (by rw [fixB_len]; exact h), fixB_get _ _ _ h]
  · by_cases e : i = s
    · subst e
      rw [fixB_get _ _ _ (by omega), List.getElem?_append_right (by rw [fixB_len]; omega), fixB_len]
      simp
    · rw [List.getElem?_eq_none (by rw [fixB_len]; omega), List.getElem?_eq_none (by simp [fixB_len]; omega)]
end Go.Proofs.YtchehejjdinifaaGreatDoor

namespace Go.Proofs.YtchehejjdinifaaGreatDoor
open Go.RowKit
set_option linter.unusedVariables false

set_option maxRecDepth 100000 in
set_option maxHeartbeats 400000 in
theorem putU_any (n : Int) (w : World) (h0 : 0 ≤ n) (h1 : n ≤ 18446744073709551615) :
    Calls Tryz.prog 72 #[.int .u64 n] w fun e w' => ∃ v, e = .returned v ∧ Has w.heap.size w w' v (PU n) := by
  have hst := StU.start n h1
  have hha := Has.nil w
  go_enter Tryz.func72, Tryz.ntmps72
  go_wp2
  go_loopw [0, 3] (fun x v wr => ∃ (k : Nat) (X : Int) (acc : List Int), x = .int .u64 X ∧ 0 ≤ X ∧ X ≤ 18446744073709551615 ∧ StU n k X acc ∧ Has w.heap.size w wr v acc)
    (fun x _ _ => (intOf x).toNat)
  case atStart => exact ⟨0, n, [], rfl, h0, h1, hst, hha⟩
  case round =>
    obtain ⟨k, X, acc, rfl, hX0, hX1, hS, hh⟩ := hrel
    have hlen := hS.len
    clear h0 h1 hst hha
    by_cases hlt : 128 ≤ X
    · have hor := or128 (X % 256) (by omega) (by omega)
      go_wp2_with (at_builtin; refine wp_appB rfl _ _ rfl rfl rfl hh (by omega) ?_; intro v' w1 hh1)
      go_roundw
      case rel => exact ⟨k + 1, X / 128, _, rfl, by omega, by omega, hS.step hlt, hh1⟩
      case measure => simp [intOf]; omega
    · go_wp2_with (at_builtin; refine wp_appB rfl _ _ rfl rfl rfl hh (by omega) ?_; intro v' w1 hh1)
      go_ret
      exact ⟨v', rfl, by rw [← hS.stop (by omega)]; exact hh1⟩

set_option maxRecDepth 100000 in
set_option maxHeartbeats 400000 in
theorem putS_any (n : Int) (w : World) (h0 : -9223372036854775808 ≤ n) (h1 : n ≤ 9223372036854775807) :
    Calls Tryz.prog 114 #[.int .i64 n] w fun e w' => ∃ v, e = .returned v ∧ Has w.heap.size w w' v (PS n) := by
  have hst := StS.start n h0 h1
  have hha := Has.nil w
  go_enter Tryz.func114, Tryz.ntmps114
  go_wp2
  go_loopw [0, 3] (fun x v wr => ∃ (k : Nat) (X : Int) (acc : List Int), x = .int .i64 X ∧ -9223372036854775808 ≤ X ∧ X ≤ 9223372036854775807 ∧ StS n k X acc ∧ Has w.heap.size w wr v acc)
    (fun x _ _ => (intOf x).natAbs)
  case atStart => exact ⟨0, n, [], rfl, h0, h1, hst, hha⟩
  case round =>
    obtain ⟨k, X, acc, rfl, hX0, hX1, hS, hh⟩ := hrel
    have hlen := hS.len
    clear h0 h1 hst hha
    have hor := or128 (X % 256) (by omega) (by omega)
    have hand := and127 (X % 256) (by omega) (by omega)
    by_cases hlt : X < -64
    · go_wp2_with (at_builtin; refine wp_appB rfl _ _ rfl rfl rfl hh (by omega) ?_; intro v' w1 hh1)
      go_roundw
      case rel => exact ⟨k + 1, X / 128, _, rfl, by omega, by omega, hS.step (Or.inl hlt), hh1⟩
      case measure => simp [intOf]; omega
    · by_cases hge : 64 ≤ X
      · go_wp2_with (at_builtin; refine wp_appB rfl _ _ rfl rfl rfl hh (by omega) ?_; intro v' w1 hh1)
        go_roundw
        case rel => exact ⟨k + 1, X / 128, _, rfl, by omega, by omega, hS.step (Or.inr hge), hh1⟩
        case measure => simp [intOf]; omega
      · go_wp2_with (at_builtin; refine wp_appB rfl _ _ rfl rfl rfl hh (by omega) ?_; intro v' w1 hh1)
        go_ret
        exact ⟨v', rfl, by rw [← hS.stop (by omega) (by omega)]; exact hh1⟩

end Go.Proofs.YtchehejjdinifaaGreatDoor
