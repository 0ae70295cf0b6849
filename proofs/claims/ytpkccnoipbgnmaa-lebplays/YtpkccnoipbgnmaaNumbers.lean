/-
  The walk of the statements' numbers: a call that reads a number tells the same of both cursors; no statement is proved here.
-/
import Derived.Test.YtpkccnoipbgnmaaTwo
namespace Go.Proofs.Ytpkccnoipbgnmaa
open Go.RowKit
set_option linter.unusedVariables false

theorem fx_bd4' (l : List Int) (hr : Byt l) (x y : Int) : 0 ≤ (fx 4 l x y).1 ∧ (fx 4 l x y).1 ≤ 4294967295 := by
  unfold fx
  by_cases h : 0 ≤ x ∧ x ≤ y ∧ y ≤ l.length
  · rw [if_pos h]
    by_cases h2 : y - x < (4 : Nat)
    · rw [if_pos h2]; simp
    · rw [if_neg h2]
      have := gv_bd l hr x.toNat 4
      simp at this ⊢
      omega
  · rw [if_neg h]; simp
theorem fx_bd1' (l : List Int) (hr : Byt l) (F T : Nat) (h1 : F ≤ T) (h2 : T ≤ l.length) : 0 ≤ (fx 1 l F T).1 ∧ (fx 1 l F T).1 ≤ 255 := by
  by_cases h : F < T
  · rw [fx1_in h h2]; exact hr F
  · rw [fx1_end h1 h2 h]; simp
set_option maxRecDepth 100000 in
set_option maxHeartbeats 1000000 in
theorem numb_0 (B : Nat) (w0 : World) (bc bd : Nat) (vb vB : Value) (l : List Int) (F T : Nat) (pl wy : Int) (n at_ e : Int) (into : Bool) (w : World) (hT : Two B w0 w bc bd vb vB l F T pl wy) (hB : Byt l) (hlen : l.length ≤ 140737488351232) :
    Calls Try.prog 27 #[.pointer (some ⟨bc, 0, none⟩), .pointer (some ⟨bd, 0, none⟩), .agg #[.int .i64 0, .int .u32 n, .int .i64 at_, .int .i64 e, .bool into]] w fun en w' => en = .returned (.bool true) ∧ ∃ (F' : Nat) (pl' wy' : Int), Two B w0 w' bc bd vb vB l F' T pl' wy' ∧ Keep bc bd w w' := by
  obtain ⟨ab, cb, rfl⟩ := hT.own.form
  obtain ⟨aB, cB, rfl⟩ := hT.reads.len
  obtain ⟨s, hs⟩ : ∃ s, s = stepN (fx 1 l F T) F pl wy := ⟨_, rfl⟩
  obtain ⟨F', hF1, hF2⟩ := stepN_place pl wy hT.ft (fx_place hT.ft hT.tl)
  rw [← hs] at hF1
  have b1 : 0 ≤ s.1 ∧ s.1 ≤ 255 := by
    rw [hs]; unfold stepN
    have := fx_bd1' l hB F T hT.ft hT.tl
    split
    · split
      · exact this
      · simp
    · simp
  obtain ⟨b10, b11⟩ := b1
  have C1 : Hid (∀ W, Two B w0 W bc bd (.slice ab l.length cb) (.slice aB l.length cB) l F T pl wy → Calls Try.prog 51 #[.pointer (some ⟨bc, 0, none⟩)] W fun en w' => en = .returned (.int .u8 (s.1)) ∧ Put bc (ccur (.slice ab l.length cb) s.2.1 T s.2.2.1 s.2.2.2) W w') := by
    intro W hW; rw [hs]; exact byte_step bc l F T pl wy _ W hW.c hW.own hW.ft hW.tl hlen
  have C2 : Hid (∀ W, Half B w0 W bc bd (.slice ab l.length cb) (.slice aB l.length cB) l F T pl wy s.2.1 s.2.2.1 s.2.2.2 → Calls Try.prog 52 #[.pointer (some ⟨bd, 0, none⟩), .int .i64 0, .bool false, .int .i64 1] W fun en w' => en = .returned (.int .u64 s.1) ∧ Put bd (dcur (.slice aB l.length cB) s.2.1 T s.2.2.1 s.2.2.2) W w') := by
    intro W hW; rw [hs]; exact tkF1_step bd l F T pl wy aB cB W hW.d hW.reads hB hlen
  have HT : Hid (Two B w0 w bc bd (.slice ab l.length cb) (.slice aB l.length cB) l F T pl wy) := hT
  have HF1 : Hid (s.2.1 = (F' : Int)) := hF1
  clear hT hs hF1
  go_enter Try.func27, Try.ntmps27
  go_wp2_with fail
  refine (C1.out _ (by exact HT.out.grow ((Below.refl _ _).alloc (Nat.le_refl _) _))).mono ?_
  rintro en w1 ⟨rfl, q1⟩
  have HH : Hid (Half B w0 w1 bc bd (.slice ab l.length cb) (.slice aB l.length cB) l F T pl wy s.2.1 s.2.2.1 s.2.2.2) := (HT.out.grow ((Below.refl _ _).alloc (Nat.le_refl _) _)).first q1
  have K1 : Hid (Keep bc bd w w1) := (Keep.of_below ((Below.refl _ _).alloc (Nat.le_refl _) _)).trans (Keep.of_c q1)
  clear q1
  go_wp2_with fail
  refine (C2.out _ HH.out).mono ?_
  rintro en w2 ⟨rfl, q2⟩
  have HE : Hid (Two B w0 w2 bc bd (.slice ab l.length cb) (.slice aB l.length cB) l F' T s.2.2.1 s.2.2.2) := HH.out.second q2 HF1.out hF2
  have K2 : Hid (Keep bc bd w w2) := K1.out.trans (Keep.of_d q2)
  clear q2
  go_wp2_with fail
  go_ret
  exact ⟨by simp, _, _, _, HE.out, K2.out⟩
set_option maxRecDepth 100000 in
set_option maxHeartbeats 1000000 in
theorem numb_3 (B : Nat) (w0 : World) (bc bd : Nat) (vb vB : Value) (l : List Int) (F T : Nat) (pl wy : Int) (n at_ e : Int) (into : Bool) (w : World) (hT : Two B w0 w bc bd vb vB l F T pl wy) (hB : Byt l) (hlen : l.length ≤ 140737488351232) :
    Calls Try.prog 27 #[.pointer (some ⟨bc, 0, none⟩), .pointer (some ⟨bd, 0, none⟩), .agg #[.int .i64 3, .int .u32 n, .int .i64 at_, .int .i64 e, .bool into]] w fun en w' => en = .returned (.bool true) ∧ ∃ (F' : Nat) (pl' wy' : Int), Two B w0 w' bc bd vb vB l F' T pl' wy' ∧ Keep bc bd w w' := by
  obtain ⟨ab, cb, rfl⟩ := hT.own.form
  obtain ⟨aB, cB, rfl⟩ := hT.reads.len
  obtain ⟨s, hs⟩ : ∃ s, s = stepN (rd 32 false l F T) F pl wy := ⟨_, rfl⟩
  obtain ⟨F', hF1, hF2⟩ := stepN_place pl wy hT.ft (rd_place hT.ft hT.tl)
  rw [← hs] at hF1
  have C1 : Hid (∀ W, Two B w0 W bc bd (.slice ab l.length cb) (.slice aB l.length cB) l F T pl wy → Calls Try.prog 53 #[.pointer (some ⟨bc, 0, none⟩)] W fun en w' => en = .returned (.int .u32 (s.1 % 4294967296)) ∧ Put bc (ccur (.slice ab l.length cb) s.2.1 T s.2.2.1 s.2.2.2) W w') := by
    intro W hW; rw [hs]; exact mU32_step bc l F T pl wy ab cb W hW.c hW.own.1 hB hlen
  have C2 : Hid (∀ W, Half B w0 W bc bd (.slice ab l.length cb) (.slice aB l.length cB) l F T pl wy s.2.1 s.2.2.1 s.2.2.2 → Calls Try.prog 52 #[.pointer (some ⟨bd, 0, none⟩), .int .i64 32, .bool false, .int .i64 0] W fun en w' => en = .returned (.int .u64 s.1) ∧ Put bd (dcur (.slice aB l.length cB) s.2.1 T s.2.2.1 s.2.2.2) W w') := by
    intro W hW; rw [hs]; exact tk32u_step bd l F T pl wy aB cB W hW.d hW.reads hB hlen
  have HT : Hid (Two B w0 w bc bd (.slice ab l.length cb) (.slice aB l.length cB) l F T pl wy) := hT
  have HF1 : Hid (s.2.1 = (F' : Int)) := hF1
  clear hT hs hF1
  go_enter Try.func27, Try.ntmps27
  go_wp2_with fail
  refine (C1.out _ (by exact HT.out.grow ((Below.refl _ _).alloc (Nat.le_refl _) _))).mono ?_
  rintro en w1 ⟨rfl, q1⟩
  have HH : Hid (Half B w0 w1 bc bd (.slice ab l.length cb) (.slice aB l.length cB) l F T pl wy s.2.1 s.2.2.1 s.2.2.2) := (HT.out.grow ((Below.refl _ _).alloc (Nat.le_refl _) _)).first q1
  have K1 : Hid (Keep bc bd w w1) := (Keep.of_below ((Below.refl _ _).alloc (Nat.le_refl _) _)).trans (Keep.of_c q1)
  clear q1
  go_wp2_with fail
  refine (C2.out _ HH.out).mono ?_
  rintro en w2 ⟨rfl, q2⟩
  have HE : Hid (Two B w0 w2 bc bd (.slice ab l.length cb) (.slice aB l.length cB) l F' T s.2.2.1 s.2.2.2) := HH.out.second q2 HF1.out hF2
  have K2 : Hid (Keep bc bd w w2) := K1.out.trans (Keep.of_d q2)
  clear q2
  go_wp2_with fail
  go_ret
  exact ⟨by simp, _, _, _, HE.out, K2.out⟩
set_option maxRecDepth 100000 in
set_option maxHeartbeats 1000000 in
theorem numb_4 (B : Nat) (w0 : World) (bc bd : Nat) (vb vB : Value) (l : List Int) (F T : Nat) (pl wy : Int) (n at_ e : Int) (into : Bool) (w : World) (hT : Two B w0 w bc bd vb vB l F T pl wy) (hB : Byt l) (hlen : l.length ≤ 140737488351232) :
    Calls Try.prog 27 #[.pointer (some ⟨bc, 0, none⟩), .pointer (some ⟨bd, 0, none⟩), .agg #[.int .i64 4, .int .u32 n, .int .i64 at_, .int .i64 e, .bool into]] w fun en w' => en = .returned (.bool true) ∧ ∃ (F' : Nat) (pl' wy' : Int), Two B w0 w' bc bd vb vB l F' T pl' wy' ∧ Keep bc bd w w' := by
  obtain ⟨ab, cb, rfl⟩ := hT.own.form
  obtain ⟨aB, cB, rfl⟩ := hT.reads.len
  obtain ⟨s, hs⟩ : ∃ s, s = stepN (rd 64 false l F T) F pl wy := ⟨_, rfl⟩
  obtain ⟨F', hF1, hF2⟩ := stepN_place pl wy hT.ft (rd_place hT.ft hT.tl)
  rw [← hs] at hF1
  have C1 : Hid (∀ W, Two B w0 W bc bd (.slice ab l.length cb) (.slice aB l.length cB) l F T pl wy → Calls Try.prog 54 #[.pointer (some ⟨bc, 0, none⟩)] W fun en w' => en = .returned (.int .u64 (s.1)) ∧ Put bc (ccur (.slice ab l.length cb) s.2.1 T s.2.2.1 s.2.2.2) W w') := by
    intro W hW; rw [hs]; exact mU64_step bc l F T pl wy ab cb W hW.c hW.own.1 hB hlen
  have C2 : Hid (∀ W, Half B w0 W bc bd (.slice ab l.length cb) (.slice aB l.length cB) l F T pl wy s.2.1 s.2.2.1 s.2.2.2 → Calls Try.prog 52 #[.pointer (some ⟨bd, 0, none⟩), .int .i64 64, .bool false, .int .i64 0] W fun en w' => en = .returned (.int .u64 s.1) ∧ Put bd (dcur (.slice aB l.length cB) s.2.1 T s.2.2.1 s.2.2.2) W w') := by
    intro W hW; rw [hs]; exact tk64u_step bd l F T pl wy aB cB W hW.d hW.reads hB hlen
  have HT : Hid (Two B w0 w bc bd (.slice ab l.length cb) (.slice aB l.length cB) l F T pl wy) := hT
  have HF1 : Hid (s.2.1 = (F' : Int)) := hF1
  clear hT hs hF1
  go_enter Try.func27, Try.ntmps27
  go_wp2_with fail
  refine (C1.out _ (by exact HT.out.grow ((Below.refl _ _).alloc (Nat.le_refl _) _))).mono ?_
  rintro en w1 ⟨rfl, q1⟩
  have HH : Hid (Half B w0 w1 bc bd (.slice ab l.length cb) (.slice aB l.length cB) l F T pl wy s.2.1 s.2.2.1 s.2.2.2) := (HT.out.grow ((Below.refl _ _).alloc (Nat.le_refl _) _)).first q1
  have K1 : Hid (Keep bc bd w w1) := (Keep.of_below ((Below.refl _ _).alloc (Nat.le_refl _) _)).trans (Keep.of_c q1)
  clear q1
  go_wp2_with fail
  refine (C2.out _ HH.out).mono ?_
  rintro en w2 ⟨rfl, q2⟩
  have HE : Hid (Two B w0 w2 bc bd (.slice ab l.length cb) (.slice aB l.length cB) l F' T s.2.2.1 s.2.2.2) := HH.out.second q2 HF1.out hF2
  have K2 : Hid (Keep bc bd w w2) := K1.out.trans (Keep.of_d q2)
  clear q2
  go_wp2_with fail
  go_ret
  exact ⟨by simp, _, _, _, HE.out, K2.out⟩
set_option maxRecDepth 100000 in
set_option maxHeartbeats 1000000 in
theorem numb_5 (B : Nat) (w0 : World) (bc bd : Nat) (vb vB : Value) (l : List Int) (F T : Nat) (pl wy : Int) (n at_ e : Int) (into : Bool) (w : World) (hT : Two B w0 w bc bd vb vB l F T pl wy) (hB : Byt l) (hlen : l.length ≤ 140737488351232) :
    Calls Try.prog 27 #[.pointer (some ⟨bc, 0, none⟩), .pointer (some ⟨bd, 0, none⟩), .agg #[.int .i64 5, .int .u32 n, .int .i64 at_, .int .i64 e, .bool into]] w fun en w' => en = .returned (.bool true) ∧ ∃ (F' : Nat) (pl' wy' : Int), Two B w0 w' bc bd vb vB l F' T pl' wy' ∧ Keep bc bd w w' := by
  obtain ⟨ab, cb, rfl⟩ := hT.own.form
  obtain ⟨aB, cB, rfl⟩ := hT.reads.len
  obtain ⟨s, hs⟩ : ∃ s, s = stepN (rd 32 true l F T) F pl wy := ⟨_, rfl⟩
  obtain ⟨F', hF1, hF2⟩ := stepN_place pl wy hT.ft (rd_place hT.ft hT.tl)
  rw [← hs] at hF1
  have C1 : Hid (∀ W, Two B w0 W bc bd (.slice ab l.length cb) (.slice aB l.length cB) l F T pl wy → Calls Try.prog 55 #[.pointer (some ⟨bc, 0, none⟩)] W fun en w' => en = .returned (.int .i32 (wrap32 s.1)) ∧ Put bc (ccur (.slice ab l.length cb) s.2.1 T s.2.2.1 s.2.2.2) W w') := by
    intro W hW; rw [hs]; exact mS32_step bc l F T pl wy ab cb W hW.c hW.own.1 hB hlen
  have C2 : Hid (∀ W, Half B w0 W bc bd (.slice ab l.length cb) (.slice aB l.length cB) l F T pl wy s.2.1 s.2.2.1 s.2.2.2 → Calls Try.prog 52 #[.pointer (some ⟨bd, 0, none⟩), .int .i64 32, .bool true, .int .i64 0] W fun en w' => en = .returned (.int .u64 s.1) ∧ Put bd (dcur (.slice aB l.length cB) s.2.1 T s.2.2.1 s.2.2.2) W w') := by
    intro W hW; rw [hs]; exact tk32s_step bd l F T pl wy aB cB W hW.d hW.reads hB hlen
  have HT : Hid (Two B w0 w bc bd (.slice ab l.length cb) (.slice aB l.length cB) l F T pl wy) := hT
  have HF1 : Hid (s.2.1 = (F' : Int)) := hF1
  clear hT hs hF1
  go_enter Try.func27, Try.ntmps27
  go_wp2_with fail
  refine (C1.out _ (by exact HT.out.grow ((Below.refl _ _).alloc (Nat.le_refl _) _))).mono ?_
  rintro en w1 ⟨rfl, q1⟩
  have HH : Hid (Half B w0 w1 bc bd (.slice ab l.length cb) (.slice aB l.length cB) l F T pl wy s.2.1 s.2.2.1 s.2.2.2) := (HT.out.grow ((Below.refl _ _).alloc (Nat.le_refl _) _)).first q1
  have K1 : Hid (Keep bc bd w w1) := (Keep.of_below ((Below.refl _ _).alloc (Nat.le_refl _) _)).trans (Keep.of_c q1)
  clear q1
  go_wp2_with fail
  refine (C2.out _ HH.out).mono ?_
  rintro en w2 ⟨rfl, q2⟩
  have HE : Hid (Two B w0 w2 bc bd (.slice ab l.length cb) (.slice aB l.length cB) l F' T s.2.2.1 s.2.2.2) := HH.out.second q2 HF1.out hF2
  have K2 : Hid (Keep bc bd w w2) := K1.out.trans (Keep.of_d q2)
  clear q2
  go_wp2_with fail
  go_ret
  exact ⟨by simp, _, _, _, HE.out, K2.out⟩
set_option maxRecDepth 100000 in
set_option maxHeartbeats 1000000 in
theorem numb_6 (B : Nat) (w0 : World) (bc bd : Nat) (vb vB : Value) (l : List Int) (F T : Nat) (pl wy : Int) (n at_ e : Int) (into : Bool) (w : World) (hT : Two B w0 w bc bd vb vB l F T pl wy) (hB : Byt l) (hlen : l.length ≤ 140737488351232) :
    Calls Try.prog 27 #[.pointer (some ⟨bc, 0, none⟩), .pointer (some ⟨bd, 0, none⟩), .agg #[.int .i64 6, .int .u32 n, .int .i64 at_, .int .i64 e, .bool into]] w fun en w' => en = .returned (.bool true) ∧ ∃ (F' : Nat) (pl' wy' : Int), Two B w0 w' bc bd vb vB l F' T pl' wy' ∧ Keep bc bd w w' := by
  obtain ⟨ab, cb, rfl⟩ := hT.own.form
  obtain ⟨aB, cB, rfl⟩ := hT.reads.len
  obtain ⟨s, hs⟩ : ∃ s, s = stepN (rd 33 true l F T) F pl wy := ⟨_, rfl⟩
  obtain ⟨F', hF1, hF2⟩ := stepN_place pl wy hT.ft (rd_place hT.ft hT.tl)
  rw [← hs] at hF1
  have C1 : Hid (∀ W, Two B w0 W bc bd (.slice ab l.length cb) (.slice aB l.length cB) l F T pl wy → Calls Try.prog 56 #[.pointer (some ⟨bc, 0, none⟩)] W fun en w' => en = .returned (.int .i64 (wrap64 s.1)) ∧ Put bc (ccur (.slice ab l.length cb) s.2.1 T s.2.2.1 s.2.2.2) W w') := by
    intro W hW; rw [hs]; exact mS33_step bc l F T pl wy ab cb W hW.c hW.own.1 hB hlen
  have C2 : Hid (∀ W, Half B w0 W bc bd (.slice ab l.length cb) (.slice aB l.length cB) l F T pl wy s.2.1 s.2.2.1 s.2.2.2 → Calls Try.prog 52 #[.pointer (some ⟨bd, 0, none⟩), .int .i64 33, .bool true, .int .i64 0] W fun en w' => en = .returned (.int .u64 s.1) ∧ Put bd (dcur (.slice aB l.length cB) s.2.1 T s.2.2.1 s.2.2.2) W w') := by
    intro W hW; rw [hs]; exact tk33s_step bd l F T pl wy aB cB W hW.d hW.reads hB hlen
  have HT : Hid (Two B w0 w bc bd (.slice ab l.length cb) (.slice aB l.length cB) l F T pl wy) := hT
  have HF1 : Hid (s.2.1 = (F' : Int)) := hF1
  clear hT hs hF1
  go_enter Try.func27, Try.ntmps27
  go_wp2_with fail
  refine (C1.out _ (by exact HT.out.grow ((Below.refl _ _).alloc (Nat.le_refl _) _))).mono ?_
  rintro en w1 ⟨rfl, q1⟩
  have HH : Hid (Half B w0 w1 bc bd (.slice ab l.length cb) (.slice aB l.length cB) l F T pl wy s.2.1 s.2.2.1 s.2.2.2) := (HT.out.grow ((Below.refl _ _).alloc (Nat.le_refl _) _)).first q1
  have K1 : Hid (Keep bc bd w w1) := (Keep.of_below ((Below.refl _ _).alloc (Nat.le_refl _) _)).trans (Keep.of_c q1)
  clear q1
  go_wp2_with fail
  refine (C2.out _ HH.out).mono ?_
  rintro en w2 ⟨rfl, q2⟩
  have HE : Hid (Two B w0 w2 bc bd (.slice ab l.length cb) (.slice aB l.length cB) l F' T s.2.2.1 s.2.2.2) := HH.out.second q2 HF1.out hF2
  have K2 : Hid (Keep bc bd w w2) := K1.out.trans (Keep.of_d q2)
  clear q2
  go_wp2_with fail
  go_ret
  exact ⟨by simp, _, _, _, HE.out, K2.out⟩
set_option maxRecDepth 100000 in
set_option maxHeartbeats 1000000 in
theorem numb_7 (B : Nat) (w0 : World) (bc bd : Nat) (vb vB : Value) (l : List Int) (F T : Nat) (pl wy : Int) (n at_ e : Int) (into : Bool) (w : World) (hT : Two B w0 w bc bd vb vB l F T pl wy) (hB : Byt l) (hlen : l.length ≤ 140737488351232) :
    Calls Try.prog 27 #[.pointer (some ⟨bc, 0, none⟩), .pointer (some ⟨bd, 0, none⟩), .agg #[.int .i64 7, .int .u32 n, .int .i64 at_, .int .i64 e, .bool into]] w fun en w' => en = .returned (.bool true) ∧ ∃ (F' : Nat) (pl' wy' : Int), Two B w0 w' bc bd vb vB l F' T pl' wy' ∧ Keep bc bd w w' := by
  obtain ⟨ab, cb, rfl⟩ := hT.own.form
  obtain ⟨aB, cB, rfl⟩ := hT.reads.len
  obtain ⟨s, hs⟩ : ∃ s, s = stepN (rd 64 true l F T) F pl wy := ⟨_, rfl⟩
  obtain ⟨F', hF1, hF2⟩ := stepN_place pl wy hT.ft (rd_place hT.ft hT.tl)
  rw [← hs] at hF1
  have C1 : Hid (∀ W, Two B w0 W bc bd (.slice ab l.length cb) (.slice aB l.length cB) l F T pl wy → Calls Try.prog 57 #[.pointer (some ⟨bc, 0, none⟩)] W fun en w' => en = .returned (.int .i64 (wrap64 s.1)) ∧ Put bc (ccur (.slice ab l.length cb) s.2.1 T s.2.2.1 s.2.2.2) W w') := by
    intro W hW; rw [hs]; exact mS64_step bc l F T pl wy ab cb W hW.c hW.own.1 hB hlen
  have C2 : Hid (∀ W, Half B w0 W bc bd (.slice ab l.length cb) (.slice aB l.length cB) l F T pl wy s.2.1 s.2.2.1 s.2.2.2 → Calls Try.prog 52 #[.pointer (some ⟨bd, 0, none⟩), .int .i64 64, .bool true, .int .i64 0] W fun en w' => en = .returned (.int .u64 s.1) ∧ Put bd (dcur (.slice aB l.length cB) s.2.1 T s.2.2.1 s.2.2.2) W w') := by
    intro W hW; rw [hs]; exact tk64s_step bd l F T pl wy aB cB W hW.d hW.reads hB hlen
  have HT : Hid (Two B w0 w bc bd (.slice ab l.length cb) (.slice aB l.length cB) l F T pl wy) := hT
  have HF1 : Hid (s.2.1 = (F' : Int)) := hF1
  clear hT hs hF1
  go_enter Try.func27, Try.ntmps27
  go_wp2_with fail
  refine (C1.out _ (by exact HT.out.grow ((Below.refl _ _).alloc (Nat.le_refl _) _))).mono ?_
  rintro en w1 ⟨rfl, q1⟩
  have HH : Hid (Half B w0 w1 bc bd (.slice ab l.length cb) (.slice aB l.length cB) l F T pl wy s.2.1 s.2.2.1 s.2.2.2) := (HT.out.grow ((Below.refl _ _).alloc (Nat.le_refl _) _)).first q1
  have K1 : Hid (Keep bc bd w w1) := (Keep.of_below ((Below.refl _ _).alloc (Nat.le_refl _) _)).trans (Keep.of_c q1)
  clear q1
  go_wp2_with fail
  refine (C2.out _ HH.out).mono ?_
  rintro en w2 ⟨rfl, q2⟩
  have HE : Hid (Two B w0 w2 bc bd (.slice ab l.length cb) (.slice aB l.length cB) l F' T s.2.2.1 s.2.2.2) := HH.out.second q2 HF1.out hF2
  have K2 : Hid (Keep bc bd w w2) := K1.out.trans (Keep.of_d q2)
  clear q2
  go_wp2_with fail
  go_ret
  exact ⟨by simp, _, _, _, HE.out, K2.out⟩
set_option maxRecDepth 100000 in
set_option maxHeartbeats 1000000 in
theorem numb_8 (B : Nat) (w0 : World) (bc bd : Nat) (vb vB : Value) (l : List Int) (F T : Nat) (pl wy : Int) (n at_ e : Int) (into : Bool) (w : World) (hT : Two B w0 w bc bd vb vB l F T pl wy) (hB : Byt l) (hlen : l.length ≤ 140737488351232) :
    Calls Try.prog 27 #[.pointer (some ⟨bc, 0, none⟩), .pointer (some ⟨bd, 0, none⟩), .agg #[.int .i64 8, .int .u32 n, .int .i64 at_, .int .i64 e, .bool into]] w fun en w' => en = .returned (.bool true) ∧ ∃ (F' : Nat) (pl' wy' : Int), Two B w0 w' bc bd vb vB l F' T pl' wy' ∧ Keep bc bd w w' := by
  obtain ⟨ab, cb, rfl⟩ := hT.own.form
  obtain ⟨aB, cB, rfl⟩ := hT.reads.len
  obtain ⟨s, hs⟩ : ∃ s, s = stepN (fx 4 l F T) F pl wy := ⟨_, rfl⟩
  obtain ⟨F', hF1, hF2⟩ := stepN_place pl wy hT.ft (fx_place hT.ft hT.tl)
  rw [← hs] at hF1
  have b4 : 0 ≤ s.1 ∧ s.1 ≤ 4294967295 := by
    rw [hs]; unfold stepN
    have := fx_bd4' l hB F T
    split
    · split
      · exact this
      · simp
    · simp
  obtain ⟨b40, b41⟩ := b4
  have C1 : Hid (∀ W, Two B w0 W bc bd (.slice ab l.length cb) (.slice aB l.length cB) l F T pl wy → Calls Try.prog 58 #[.pointer (some ⟨bc, 0, none⟩)] W fun en w' => en = .returned (.int .u32 (s.1)) ∧ Put bc (ccur (.slice ab l.length cb) s.2.1 T s.2.2.1 s.2.2.2) W w') := by
    intro W hW; rw [hs]; exact mF32_step bc l F T pl wy ab cb W hW.c hW.own.1 hB hlen
  have C2 : Hid (∀ W, Half B w0 W bc bd (.slice ab l.length cb) (.slice aB l.length cB) l F T pl wy s.2.1 s.2.2.1 s.2.2.2 → Calls Try.prog 52 #[.pointer (some ⟨bd, 0, none⟩), .int .i64 0, .bool false, .int .i64 4] W fun en w' => en = .returned (.int .u64 s.1) ∧ Put bd (dcur (.slice aB l.length cB) s.2.1 T s.2.2.1 s.2.2.2) W w') := by
    intro W hW; rw [hs]; exact tkF4_step bd l F T pl wy aB cB W hW.d hW.reads hB hlen
  have HT : Hid (Two B w0 w bc bd (.slice ab l.length cb) (.slice aB l.length cB) l F T pl wy) := hT
  have HF1 : Hid (s.2.1 = (F' : Int)) := hF1
  clear hT hs hF1
  go_enter Try.func27, Try.ntmps27
  go_wp2_with fail
  refine (C1.out _ (by exact HT.out.grow ((Below.refl _ _).alloc (Nat.le_refl _) _))).mono ?_
  rintro en w1 ⟨rfl, q1⟩
  have HH : Hid (Half B w0 w1 bc bd (.slice ab l.length cb) (.slice aB l.length cB) l F T pl wy s.2.1 s.2.2.1 s.2.2.2) := (HT.out.grow ((Below.refl _ _).alloc (Nat.le_refl _) _)).first q1
  have K1 : Hid (Keep bc bd w w1) := (Keep.of_below ((Below.refl _ _).alloc (Nat.le_refl _) _)).trans (Keep.of_c q1)
  clear q1
  go_wp2_with fail
  refine (C2.out _ HH.out).mono ?_
  rintro en w2 ⟨rfl, q2⟩
  have HE : Hid (Two B w0 w2 bc bd (.slice ab l.length cb) (.slice aB l.length cB) l F' T s.2.2.1 s.2.2.2) := HH.out.second q2 HF1.out hF2
  have K2 : Hid (Keep bc bd w w2) := K1.out.trans (Keep.of_d q2)
  clear q2
  go_wp2_with fail
  go_ret
  exact ⟨by simp, _, _, _, HE.out, K2.out⟩
set_option maxRecDepth 100000 in
set_option maxHeartbeats 1000000 in
theorem numb_9 (B : Nat) (w0 : World) (bc bd : Nat) (vb vB : Value) (l : List Int) (F T : Nat) (pl wy : Int) (n at_ e : Int) (into : Bool) (w : World) (hT : Two B w0 w bc bd vb vB l F T pl wy) (hB : Byt l) (hlen : l.length ≤ 140737488351232) :
    Calls Try.prog 27 #[.pointer (some ⟨bc, 0, none⟩), .pointer (some ⟨bd, 0, none⟩), .agg #[.int .i64 9, .int .u32 n, .int .i64 at_, .int .i64 e, .bool into]] w fun en w' => en = .returned (.bool true) ∧ ∃ (F' : Nat) (pl' wy' : Int), Two B w0 w' bc bd vb vB l F' T pl' wy' ∧ Keep bc bd w w' := by
  obtain ⟨ab, cb, rfl⟩ := hT.own.form
  obtain ⟨aB, cB, rfl⟩ := hT.reads.len
  obtain ⟨s, hs⟩ : ∃ s, s = stepN (fx 8 l F T) F pl wy := ⟨_, rfl⟩
  obtain ⟨F', hF1, hF2⟩ := stepN_place pl wy hT.ft (fx_place hT.ft hT.tl)
  rw [← hs] at hF1
  have C1 : Hid (∀ W, Two B w0 W bc bd (.slice ab l.length cb) (.slice aB l.length cB) l F T pl wy → Calls Try.prog 59 #[.pointer (some ⟨bc, 0, none⟩)] W fun en w' => en = .returned (.int .u64 (s.1)) ∧ Put bc (ccur (.slice ab l.length cb) s.2.1 T s.2.2.1 s.2.2.2) W w') := by
    intro W hW; rw [hs]; exact mF64_step bc l F T pl wy ab cb W hW.c hW.own.1 hB hlen
  have C2 : Hid (∀ W, Half B w0 W bc bd (.slice ab l.length cb) (.slice aB l.length cB) l F T pl wy s.2.1 s.2.2.1 s.2.2.2 → Calls Try.prog 52 #[.pointer (some ⟨bd, 0, none⟩), .int .i64 0, .bool false, .int .i64 8] W fun en w' => en = .returned (.int .u64 s.1) ∧ Put bd (dcur (.slice aB l.length cB) s.2.1 T s.2.2.1 s.2.2.2) W w') := by
    intro W hW; rw [hs]; exact tkF8_step bd l F T pl wy aB cB W hW.d hW.reads hB hlen
  have HT : Hid (Two B w0 w bc bd (.slice ab l.length cb) (.slice aB l.length cB) l F T pl wy) := hT
  have HF1 : Hid (s.2.1 = (F' : Int)) := hF1
  clear hT hs hF1
  go_enter Try.func27, Try.ntmps27
  go_wp2_with fail
  refine (C1.out _ (by exact HT.out.grow ((Below.refl _ _).alloc (Nat.le_refl _) _))).mono ?_
  rintro en w1 ⟨rfl, q1⟩
  have HH : Hid (Half B w0 w1 bc bd (.slice ab l.length cb) (.slice aB l.length cB) l F T pl wy s.2.1 s.2.2.1 s.2.2.2) := (HT.out.grow ((Below.refl _ _).alloc (Nat.le_refl _) _)).first q1
  have K1 : Hid (Keep bc bd w w1) := (Keep.of_below ((Below.refl _ _).alloc (Nat.le_refl _) _)).trans (Keep.of_c q1)
  clear q1
  go_wp2_with fail
  refine (C2.out _ HH.out).mono ?_
  rintro en w2 ⟨rfl, q2⟩
  have HE : Hid (Two B w0 w2 bc bd (.slice ab l.length cb) (.slice aB l.length cB) l F' T s.2.2.1 s.2.2.2) := HH.out.second q2 HF1.out hF2
  have K2 : Hid (Keep bc bd w w2) := K1.out.trans (Keep.of_d q2)
  clear q2
  go_wp2_with fail
  go_ret
  exact ⟨by simp, _, _, _, HE.out, K2.out⟩
set_option maxRecDepth 100000 in
set_option maxHeartbeats 1000000 in
theorem numb_other (B : Nat) (w0 : World) (bc bd : Nat) (vb vB : Value) (l : List Int) (F T : Nat) (pl wy : Int) (k n at_ e : Int) (into : Bool) (w : World) (hT : Two B w0 w bc bd vb vB l F T pl wy)
    (hk : ¬ k = 0 ∧ ¬ k = 3 ∧ ¬ k = 4 ∧ ¬ k = 5 ∧ ¬ k = 6 ∧ ¬ k = 7 ∧ ¬ k = 8 ∧ ¬ k = 9) :
    Calls Try.prog 27 #[.pointer (some ⟨bc, 0, none⟩), .pointer (some ⟨bd, 0, none⟩), .agg #[.int .i64 k, .int .u32 n, .int .i64 at_, .int .i64 e, .bool into]] w fun en w' => en = .returned (.bool true) ∧ ∃ (F' : Nat) (pl' wy' : Int), Two B w0 w' bc bd vb vB l F' T pl' wy' ∧ Keep bc bd w w' := by
  obtain ⟨k0, k3, k4, k5, k6, k7, k8, k9⟩ := hk
  have j0 : (k == 0) = false := beq_eq_false_iff_ne.2 k0
  have j3 : (k == 3) = false := beq_eq_false_iff_ne.2 k3
  have j4 : (k == 4) = false := beq_eq_false_iff_ne.2 k4
  have j5 : (k == 5) = false := beq_eq_false_iff_ne.2 k5
  have j6 : (k == 6) = false := beq_eq_false_iff_ne.2 k6
  have j7 : (k == 7) = false := beq_eq_false_iff_ne.2 k7
  have j8 : (k == 8) = false := beq_eq_false_iff_ne.2 k8
  have j9 : (k == 9) = false := beq_eq_false_iff_ne.2 k9
  have HT : Hid (Two B w0 w bc bd vb vB l F T pl wy) := hT
  clear hT k0 k3 k4 k5 k6 k7 k8 k9
  go_enter Try.func27, Try.ntmps27
  go_wp2_with fail
  go_ret
  exact ⟨rfl, _, _, _, HT.out.grow ((Below.refl _ _).alloc (Nat.le_refl _) _), Keep.of_below ((Below.refl _ _).alloc (Nat.le_refl _) _)⟩
theorem numbers_any (B : Nat) (w0 : World) (bc bd : Nat) (vb vB : Value) (l : List Int) (F T : Nat) (pl wy : Int) (k n at_ e : Int) (into : Bool) (w : World) (hT : Two B w0 w bc bd vb vB l F T pl wy) (hB : Byt l) (hlen : l.length ≤ 140737488351232) :
    Calls Try.prog 27 #[.pointer (some ⟨bc, 0, none⟩), .pointer (some ⟨bd, 0, none⟩), .agg #[.int .i64 k, .int .u32 n, .int .i64 at_, .int .i64 e, .bool into]] w fun en w' => en = .returned (.bool true) ∧ ∃ (F' : Nat) (pl' wy' : Int), Two B w0 w' bc bd vb vB l F' T pl' wy' ∧ Keep bc bd w w' := by
  by_cases k0 : k = 0
  · subst k0; exact numb_0 B w0 bc bd vb vB l F T pl wy n at_ e into w hT hB hlen
  by_cases k3 : k = 3
  · subst k3; exact numb_3 B w0 bc bd vb vB l F T pl wy n at_ e into w hT hB hlen
  by_cases k4 : k = 4
  · subst k4; exact numb_4 B w0 bc bd vb vB l F T pl wy n at_ e into w hT hB hlen
  by_cases k5 : k = 5
  · subst k5; exact numb_5 B w0 bc bd vb vB l F T pl wy n at_ e into w hT hB hlen
  by_cases k6 : k = 6
  · subst k6; exact numb_6 B w0 bc bd vb vB l F T pl wy n at_ e into w hT hB hlen
  by_cases k7 : k = 7
  · subst k7; exact numb_7 B w0 bc bd vb vB l F T pl wy n at_ e into w hT hB hlen
  by_cases k8 : k = 8
  · subst k8; exact numb_8 B w0 bc bd vb vB l F T pl wy n at_ e into w hT hB hlen
  by_cases k9 : k = 9
  · subst k9; exact numb_9 B w0 bc bd vb vB l F T pl wy n at_ e into w hT hB hlen
  exact numb_other B w0 bc bd vb vB l F T pl wy k n at_ e into w hT ⟨k0, k3, k4, k5, k6, k7, k8, k9⟩
end Go.Proofs.Ytpkccnoipbgnmaa
