/-
  The law InstrReads: its walk; no statement is proved here.
-/
import Derived.Test.YtohapnninjdlfaaGreatDoorRm9
import Derived.Test.YtohapnninjdlfaaGreatDoorSg9
import Derived.Test.YtohapnninjdlfaaGreatDoorSh9
import Derived.Test.YtohapnninjdlfaaGreatDoorSi9
import Derived.Test.YtohapnninjdlfaaGreatDoorSk9
namespace Go.Proofs.YtohapnninjdlfaaGreatDoor
open Go.RowKit
set_option linter.unusedVariables false
set_option linter.unusedSimpArgs false
set_option linter.constructorNameAsVariable false

theorem fldR_op {f : Int} {i j : IN} {l : List Int} {p q : Nat} (h : fldR f i l p = .ok (j, q)) : j.op = i.op := by
  unfold fldR at h
  by_cases h0 : f = 0
  · rw [if_pos h0] at h
    obtain ⟨a, _, e⟩ := mapR_ok h
    rw [e]
  rw [if_neg h0] at h
  by_cases h1 : f = 1
  · rw [if_pos h1] at h
    obtain ⟨a, _, e⟩ := mapR_ok h
    rw [e]
  rw [if_neg h1] at h
  by_cases h2 : f = 2
  · rw [if_pos h2] at h
    obtain ⟨a, _, e⟩ := mapR_ok h
    rw [e]
  rw [if_neg h2] at h
  by_cases h3 : f = 3
  · rw [if_pos h3] at h
    obtain ⟨a, _, e⟩ := mapR_ok h
    rw [e]
  rw [if_neg h3] at h
  by_cases h4 : f = 4
  · rw [if_pos h4] at h
    obtain ⟨a, _, e⟩ := mapR_ok h
    rw [e]
  rw [if_neg h4] at h
  by_cases h5 : f = 5
  · rw [if_pos h5] at h
    obtain ⟨a, _, e⟩ := mapR_ok h
    rw [e]
  rw [if_neg h5] at h
  by_cases h6 : f = 6
  · rw [if_pos h6] at h
    obtain ⟨a, _, e⟩ := mapR_ok h
    rw [e]
  rw [if_neg h6] at h
  by_cases h7 : f = 7
  · rw [if_pos h7] at h
    obtain ⟨a, _, e⟩ := mapR_ok h
    rw [e]
  rw [if_neg h7] at h
  by_cases h8 : f = 8
  · rw [if_pos h8] at h
    obtain ⟨a, _, e⟩ := mapR_ok h
    rw [e]
  rw [if_neg h8] at h
  by_cases h9 : f = 9
  · rw [if_pos h9] at h
    obtain ⟨a, _, e⟩ := mapR_ok h
    rw [e]
  rw [if_neg h9] at h
  by_cases h10 : f = 10
  · rw [if_pos h10] at h
    obtain ⟨a, _, e⟩ := mapR_ok h
    rw [e]
  rw [if_neg h10] at h
  by_cases h11 : f = 11
  · rw [if_pos h11] at h
    obtain ⟨a, _, e⟩ := mapR_ok h
    rw [e]
  rw [if_neg h11] at h
  by_cases h12 : f = 12
  · rw [if_pos h12] at h
    obtain ⟨a, _, e⟩ := mapR_ok h
    rw [e]
  rw [if_neg h12] at h
  by_cases h13 : f = 13
  · rw [if_pos h13] at h
    obtain ⟨a, _, e⟩ := mapR_ok h
    rw [e]
  rw [if_neg h13] at h
  obtain ⟨a, _, e⟩ := mapR_ok h
  rw [e]
theorem foldF_op : ∀ {fs : List Int} {i j : IN} {l : List Int} {p q : Nat}, foldF fs i l p = .ok (j, q) → j.op = i.op
  | [], i, j, l, p, q, h => by
    simp only [foldF, Except.ok.injEq, Prod.mk.injEq] at h
    rw [h.1]
  | f :: fs, i, j, l, p, q, h => by
    rw [foldF] at h
    cases hx : fldR f i l p with
    | error e => rw [hx] at h; cases h
    | ok z =>
      obtain ⟨k, r⟩ := z
      rw [hx] at h
      simp only [thenR] at h
      rw [foldF_op h, fldR_op hx]
theorem opR_bd {l : List Int} (hB : Byt l) {p q : Nat} (hp : p ≤ l.length) {op : Int} (h : opR l p = .ok (op, q)) : 0 ≤ op ∧ op ≤ 65535 := by
  rw [opR_is] at h
  cases hx : byteR l p with
  | error e => rw [hx] at h; cases h
  | ok z =>
    obtain ⟨c, r⟩ := z
    obtain ⟨b0, b1, b2, b3, b4⟩ := byteR_bd hB hx
    rw [hx] at h
    simp only [thenR] at h
    split at h
    · cases h
    · split at h
      · rename_i hpre
        cases hu : u32R l r with
        | error e => rw [hu] at h; cases h
        | ok z =>
          obtain ⟨n, r2⟩ := z
          obtain ⟨n0, n1⟩ := u32_bd hB (by omega) hu
          rw [hu] at h
          simp only at h
          split at h
          · cases h
          · unfold opEnd at h
            split at h
            · cases h
            · simp only [Except.ok.injEq, Prod.mk.injEq] at h
              rcases hpre with hc | hc <;> omega
      · unfold opEnd at h
        split at h
        · cases h
        · simp only [Except.ok.injEq, Prod.mk.injEq] at h
          omega
/- What both sides answer. -/
def iOf : RS IN → IN
  | .ok (i, _) => i
  | .error _ => IN0 0
def fOf : RS IN → Int
  | .ok (_, q) => q
  | .error (f, _) => f
def eOf : RS IN → Int
  | .ok _ => 0
  | .error (_, e) => e
theorem iOf_op {l : List Int} (hB : Byt l) (x : Int) : 0 ≤ (iOf (readP l x)).op ∧ (iOf (readP l x)).op ≤ 65535 := by
  unfold readP
  split
  · rename_i hx
    cases hi : insF l x.toNat with
    | error e => simp [iOf, IN0]
    | ok z =>
      obtain ⟨i, q⟩ := z
      show 0 ≤ i.op ∧ i.op ≤ 65535
      unfold insF at hi
      cases ho : opR l x.toNat with
      | error e => rw [ho] at hi; cases hi
      | ok z =>
        obtain ⟨op, r⟩ := z
        have hb := opR_bd hB (by omega) ho
        rw [ho] at hi
        simp only [thenR] at hi
        unfold restF at hi
        rw [foldF_op hi]
        exact hb
  · simp [iOf, IN0]
theorem RdI.form {B : Nat} {R : RS IN} {es : Array Value} {f e : Int} {w : World} (h : RdI B R es f e w) : f = fOf R ∧ e = eOf R ∧ ∃ lab ty ca, es = insA (iOf R) lab ty ca ∧ RowU B w lab (iOf R).labels ∧ RowV B w ty (iOf R).types ∧ RowC B w ca (iOf R).catches := by
  cases R with
  | ok z => obtain ⟨i, q⟩ := z; obtain ⟨h1, h2, h3⟩ := h; exact ⟨h1, h2, h3⟩
  | error z => obtain ⟨a, b⟩ := z; obtain ⟨h1, h2, h3⟩ := h; exact ⟨h1, h2, NILS, NILS, NILS, h3, RowU.nil _ _, RowV.nil _ _, RowC.nil _ _⟩
theorem iread_any (v : Value) (l : List Int) (x : Int) (w : World) (hR : Reads w v l) (hB : Byt l) (hl : l.length ≤ 140737488351232) (hT : Tab w) (hF : TabF w) :
    Calls Tryz.prog 4 #[v, .int .i64 x] w fun en w' => ∃ es f e, en = .returned (.tuple #[.agg es, .int .i64 f, .int .i64 e]) ∧ Grew w w' ∧ RdI w.heap.size (readP l x) es f e w' := by
  by_cases hx : 0 ≤ x ∧ x ≤ l.length
  · obtain ⟨p, rfl⟩ : ∃ p : Nat, x = p := ⟨x.toNat, by omega⟩
    have e : readP l (p : Int) = insF l p := by unfold readP; rw [if_pos hx, Int.toNat_natCast]
    rw [e]
    exact iread_in v l p w hR hB hl hT hF p (by omega) rfl
  · have e : readP l x = .error (0, 1) := by unfold readP; rw [if_neg hx]
    rw [e]
    refine (iread_out v l x w hR hB hl hT hF hx).mono ?_
    rintro en w1 ⟨rfl, g1⟩
    exact ⟨_, _, _, rfl, g1, rfl, rfl, rfl⟩
theorem dread_any (v : Value) (l : List Int) (x : Int) (w : World) (hR : Reads w v l) (hB : Byt l) (hl : l.length ≤ 140737488351232) :
    Calls Tryz.prog 5 #[v, .int .i64 x] w fun en w' => ∃ es f e, en = .returned (.tuple #[.agg es, .int .i64 f, .int .i64 e]) ∧ Grew w w' ∧ RdI w.heap.size (readP l x) es f e w' := by
  by_cases hx : 0 ≤ x ∧ x ≤ l.length
  · obtain ⟨p, rfl⟩ : ∃ p : Nat, x = p := ⟨x.toNat, by omega⟩
    have e : readP l (p : Int) = insF l p := by unfold readP; rw [if_pos hx, Int.toNat_natCast]
    rw [e]
    exact dread_in v l p w hR hB hl p (by omega) rfl
  · have e : readP l x = .error (0, 1) := by unfold readP; rw [if_neg hx]
    rw [e]
    refine (dread_out v l x w hR hB hl hx).mono ?_
    rintro en w1 ⟨rfl, g1⟩
    exact ⟨_, _, _, rfl, g1, rfl, rfl, rfl⟩
theorem sameI_any (op x y n al me off bt bn bh : Int) (bz : Bool) (labs : List Int) (tys : List VT) (cas : List CA) (la1 la2 ta1 ta2 ca1 ca2 : Option Addr) (lc1 lc2 tc1 tc2 cc1 cc2 : Nat) (w : World) (B : Nat) (rl1 : RowU B w (.slice la1 labs.length lc1) labs) (rl2 : RowU B w (.slice la2 labs.length lc2) labs) (rt1 : RowV B w (.slice ta1 tys.length tc1) tys) (rt2 : RowV B w (.slice ta2 tys.length tc2) tys) (rc1 : RowC B w (.slice ca1 cas.length cc1) cas) (rc2 : RowC B w (.slice ca2 cas.length cc2) cas) (h0 : 0 ≤ op) (hop : op ≤ 65535) :
    Calls Tryz.prog 6 #[.agg #[.int .i64 op, .int .u32 x, .int .u32 y, .int .u64 n, .int .u32 al, .int .u32 me, .int .u64 off, .int .i64 bt, .int .i64 bn, .bool bz, .int .i64 bh, .slice none 0 0, .slice none 0 0, .bool false, .slice la1 labs.length lc1, .slice ta1 tys.length tc1, .slice ca1 cas.length cc1], .agg #[.int .i64 op, .int .u32 x, .int .u32 y, .int .u64 n, .int .u32 al, .int .u32 me, .int .u64 off, .int .i64 bt, .int .i64 bn, .bool bz, .int .i64 bh, .slice none 0 0, .slice none 0 0, .bool false, .slice la2 labs.length lc2, .slice ta2 tys.length tc2, .slice ca2 cas.length cc2]] w fun en w' => en = .returned (.bool true) ∧ Grew w w' := by
  obtain ⟨b0, b1⟩ := formP_bd op
  have : formP op = 0 ∨ formP op = 1 ∨ formP op = 2 ∨ formP op = 3 ∨ formP op = 4 ∨ formP op = 5 ∨ formP op = 6 ∨ formP op = 7 ∨ formP op = 8 ∨ formP op = 9 ∨ formP op = 10 ∨ formP op = 11 ∨ formP op = 12 ∨ formP op = 13 ∨ formP op = 14 ∨ formP op = 15 ∨ formP op = 16 := by omega
  rcases this with hk | hk | hk | hk | hk | hk | hk | hk | hk | hk | hk | hk | hk | hk | hk | hk | hk
  · exact same0_any op x y n al me off bt bn bh bz labs tys cas la1 la2 ta1 ta2 ca1 ca2 lc1 lc2 tc1 tc2 cc1 cc2 w B rl1 rl2 rt1 rt2 rc1 rc2 h0 hop hk
  · exact same1_any op x y n al me off bt bn bh bz labs tys cas la1 la2 ta1 ta2 ca1 ca2 lc1 lc2 tc1 tc2 cc1 cc2 w B rl1 rl2 rt1 rt2 rc1 rc2 h0 hop hk
  · exact same2_any op x y n al me off bt bn bh bz labs tys cas la1 la2 ta1 ta2 ca1 ca2 lc1 lc2 tc1 tc2 cc1 cc2 w B rl1 rl2 rt1 rt2 rc1 rc2 h0 hop hk
  · exact same3_any op x y n al me off bt bn bh bz labs tys cas la1 la2 ta1 ta2 ca1 ca2 lc1 lc2 tc1 tc2 cc1 cc2 w B rl1 rl2 rt1 rt2 rc1 rc2 h0 hop hk
  · exact same4_any op x y n al me off bt bn bh bz labs tys cas la1 la2 ta1 ta2 ca1 ca2 lc1 lc2 tc1 tc2 cc1 cc2 w B rl1 rl2 rt1 rt2 rc1 rc2 h0 hop hk
  · exact same5_any op x y n al me off bt bn bh bz labs tys cas la1 la2 ta1 ta2 ca1 ca2 lc1 lc2 tc1 tc2 cc1 cc2 w B rl1 rl2 rt1 rt2 rc1 rc2 h0 hop hk
  · exact same6_any op x y n al me off bt bn bh bz labs tys cas la1 la2 ta1 ta2 ca1 ca2 lc1 lc2 tc1 tc2 cc1 cc2 w B rl1 rl2 rt1 rt2 rc1 rc2 h0 hop hk
  · exact same7_any op x y n al me off bt bn bh bz labs tys cas la1 la2 ta1 ta2 ca1 ca2 lc1 lc2 tc1 tc2 cc1 cc2 w B rl1 rl2 rt1 rt2 rc1 rc2 h0 hop hk
  · exact same8_any op x y n al me off bt bn bh bz labs tys cas la1 la2 ta1 ta2 ca1 ca2 lc1 lc2 tc1 tc2 cc1 cc2 w B rl1 rl2 rt1 rt2 rc1 rc2 h0 hop hk
  · exact same9_any op x y n al me off bt bn bh bz labs tys cas la1 la2 ta1 ta2 ca1 ca2 lc1 lc2 tc1 tc2 cc1 cc2 w B rl1 rl2 rt1 rt2 rc1 rc2 h0 hop hk
  · exact same10_any op x y n al me off bt bn bh bz labs tys cas la1 la2 ta1 ta2 ca1 ca2 lc1 lc2 tc1 tc2 cc1 cc2 w B rl1 rl2 rt1 rt2 rc1 rc2 h0 hop hk
  · exact same11_any op x y n al me off bt bn bh bz labs tys cas la1 la2 ta1 ta2 ca1 ca2 lc1 lc2 tc1 tc2 cc1 cc2 w B rl1 rl2 rt1 rt2 rc1 rc2 h0 hop hk
  · exact same12_any op x y n al me off bt bn bh bz labs tys cas la1 la2 ta1 ta2 ca1 ca2 lc1 lc2 tc1 tc2 cc1 cc2 w B rl1 rl2 rt1 rt2 rc1 rc2 h0 hop hk
  · exact same13_any op x y n al me off bt bn bh bz labs tys cas la1 la2 ta1 ta2 ca1 ca2 lc1 lc2 tc1 tc2 cc1 cc2 w B rl1 rl2 rt1 rt2 rc1 rc2 h0 hop hk
  · exact same14_any op x y n al me off bt bn bh bz labs tys cas la1 la2 ta1 ta2 ca1 ca2 lc1 lc2 tc1 tc2 cc1 cc2 w B rl1 rl2 rt1 rt2 rc1 rc2 h0 hop hk
  · exact same15_any op x y n al me off bt bn bh bz labs tys cas la1 la2 ta1 ta2 ca1 ca2 lc1 lc2 tc1 tc2 cc1 cc2 w B rl1 rl2 rt1 rt2 rc1 rc2 h0 hop hk
  · exact same16_any op x y n al me off bt bn bh bz labs tys cas la1 la2 ta1 ta2 ca1 ca2 lc1 lc2 tc1 tc2 cc1 cc2 w B rl1 rl2 rt1 rt2 rc1 rc2 h0 hop hk
end Go.Proofs.YtohapnninjdlfaaGreatDoor

namespace Go.Proofs.YtohapnninjdlfaaGreatDoor
open Go.RowKit
set_option linter.unusedVariables false
set_option linter.unusedSimpArgs false
set_option linter.constructorNameAsVariable false

set_option maxRecDepth 100000 in
set_option maxHeartbeats 4000000 in
theorem instrReads_any (v : Value) (l : List Int) (x0 : Int) (w : World) (hR : Reads w v l) (hB : Byt l) (hl : l.length ≤ 140737488351232) (hT : Tab w) (hF : TabF w) :
    Calls Tryz.prog 3 #[v, .int .i64 x0] w fun en w' => en = .returned (.bool true) ∧ Grew w w' := by
  have C1 := iread_any v l x0 w hR hB hl hT hF
  have C2 : Hid (∀ w1, Grew w w1 → Calls Tryz.prog 5 #[v, .int .i64 x0] w1 fun en w' => ∃ es f e, en = .returned (.tuple #[.agg es, .int .i64 f, .int .i64 e]) ∧ Grew w1 w' ∧ RdI w1.heap.size (readP l x0) es f e w') := fun w1 g => dread_any v l x0 w1 (g.reads hR) hB hl
  obtain ⟨p0, p1⟩ := iOf_op hB x0
  generalize readP l x0 = R at *
  obtain ⟨i, hi⟩ : ∃ i, iOf R = i := ⟨_, rfl⟩
  rw [hi] at p0 p1
  obtain ⟨ff, hff⟩ : ∃ f, fOf R = f := ⟨_, rfl⟩
  obtain ⟨ee, hee⟩ : ∃ e, eOf R = e := ⟨_, rfl⟩
  have HI : Hid (iOf R = i ∧ fOf R = ff ∧ eOf R = ee) := ⟨hi, hff, hee⟩
  obtain ⟨op, x, y, n, ⟨al, me, off⟩, ⟨bt, ⟨bn, bz, bh⟩⟩, labs, tys, cas⟩ := i
  simp only at p0 p1
  obtain ⟨sa, cap, rfl⟩ := hR.len
  clear hR hB hT hF hi hff hee
  go_enter Tryz.func3, Tryz.ntmps3
  go_wp2_with fail
  refine C1.mono ?_
  rintro en w1 ⟨es, f, e, rfl, g1, r1⟩
  obtain ⟨e1, e2, lab, ty, ca, e3, ru1, rv1, rc1⟩ := r1.form
  rw [HI.out.1] at e3 ru1 rv1 rc1
  rw [HI.out.2.1] at e1
  rw [HI.out.2.2] at e2
  subst e1 e2 e3
  obtain ⟨la1, lc1, h1⟩ := row_one ru1
  obtain ⟨ta1, tc1, h2⟩ := row_one rv1
  obtain ⟨ca1, cc1, h3⟩ := row_one rc1
  subst h1 h2 h3
  simp only at ru1 rv1 rc1
  unfold insA
  simp only
  have G1 : Hid (Grew w w1) := g1
  have RU1 : Hid (RowU w.heap.size w1 (.slice la1 labs.length lc1) labs) := ru1
  have RV1 : Hid (RowV w.heap.size w1 (.slice ta1 tys.length tc1) tys) := rv1
  have RC1 : Hid (RowC w.heap.size w1 (.slice ca1 cas.length cc1) cas) := rc1
  clear C1 g1 r1 ru1 rv1 rc1
  go_wp2_with (first
    | with_reducible refine stop_store 36 rfl ?_
    | fail)
  unfold Stop
  refine wpList_store_last rfl 36 (.tmp 5) (.tmp 15) rfl #[.int .i64 op, .int .u32 x, .int .u32 y, .int .u64 n, .int .u32 al, .int .u32 me, .int .u64 off, .int .i64 bt, .int .i64 bn, .bool bz, .int .i64 bh, .slice none 0 0, .slice none 0 0, .bool false, .slice la1 labs.length lc1, .slice ta1 tys.length tc1, .slice ca1 cas.length cc1] (by go_simp) (by go_simp) _ (by kernel_rfl) rfl (by simp [Value.oneCell']) ?_
  have GA : Hid (Grew w1 (w1.alloc (.cells #[.int .i64 op, .int .u32 x, .int .u32 y, .int .u64 n, .int .u32 al, .int .u32 me, .int .u64 off, .int .i64 bt, .int .i64 bn, .bool bz, .int .i64 bh, .slice none 0 0, .slice none 0 0, .bool false, .slice la1 labs.length lc1, .slice ta1 tys.length tc1, .slice ca1 cas.length cc1] 36))) := (Grew.refl w1).alloc _
  have H1 : Hid ((w1.alloc (.cells #[.int .i64 op, .int .u32 x, .int .u32 y, .int .u64 n, .int .u32 al, .int .u32 me, .int .u64 off, .int .i64 bt, .int .i64 bn, .bool bz, .int .i64 bh, .slice none 0 0, .slice none 0 0, .bool false, .slice la1 labs.length lc1, .slice ta1 tys.length tc1, .slice ca1 cas.length cc1] 36)).heap[w1.heap.size]? = some (.cells #[.int .i64 op, .int .u32 x, .int .u32 y, .int .u64 n, .int .u32 al, .int .u32 me, .int .u64 off, .int .i64 bt, .int .i64 bn, .bool bz, .int .i64 bh, .slice none 0 0, .slice none 0 0, .bool false, .slice la1 labs.length lc1, .slice ta1 tys.length tc1, .slice ca1 cas.length cc1] 36 (0, 0))) := heap_alloc_last _ _
  generalize hM1 : w1.heap.size = M1 at *
  generalize w1.alloc (.cells #[.int .i64 op, .int .u32 x, .int .u32 y, .int .u64 n, .int .u32 al, .int .u32 me, .int .u64 off, .int .i64 bt, .int .i64 bn, .bool bz, .int .i64 bh, .slice none 0 0, .slice none 0 0, .bool false, .slice la1 labs.length lc1, .slice ta1 tys.length tc1, .slice ca1 cas.length cc1] 36) = W1 at *
  go_wp2_with fail
  refine (C2.out W1 (G1.out.trans GA.out)).mono ?_
  rintro en w2 ⟨es, f, e, rfl, g2, r2⟩
  obtain ⟨e1, e2, lab, ty, ca, e3, ru2, rv2, rc2⟩ := r2.form
  rw [HI.out.1] at e3 ru2 rv2 rc2
  rw [HI.out.2.1] at e1
  rw [HI.out.2.2] at e2
  subst e1 e2 e3
  obtain ⟨la2, lc2, h1⟩ := row_one ru2
  obtain ⟨ta2, tc2, h2⟩ := row_one rv2
  obtain ⟨ca2, cc2, h3⟩ := row_one rc2
  subst h1 h2 h3
  simp only at ru2 rv2 rc2
  unfold insA
  simp only
  have hlow : w.heap.size ≤ W1.heap.size := (G1.out.trans GA.out).2
  have G2 : Hid (Grew w w2) := (G1.out.trans GA.out).trans g2
  have G12 : Hid (Grew w1 w2) := GA.out.trans g2
  have H2 : Hid (w2.heap[M1]? = some (.cells #[.int .i64 op, .int .u32 x, .int .u32 y, .int .u64 n, .int .u32 al, .int .u32 me, .int .u64 off, .int .i64 bt, .int .i64 bn, .bool bz, .int .i64 bh, .slice none 0 0, .slice none 0 0, .bool false, .slice la1 labs.length lc1, .slice ta1 tys.length tc1, .slice ca1 cas.length cc1] 36 (0, 0))) := (g2.turn []).other H1.out (by simp)
  have RU2 : Hid (RowU w.heap.size w2 (.slice la2 labs.length lc2) labs) := row_low ru2 hlow
  have RV2 : Hid (RowV w.heap.size w2 (.slice ta2 tys.length tc2) tys) := row_low rv2 hlow
  have RC2 : Hid (RowC w.heap.size w2 (.slice ca2 cas.length cc2) cas) := row_low rc2 hlow
  clear C2 g2 r2 ru2 rv2 rc2 H1
  go_wp2_with (first
    | with_reducible refine stop_store 36 rfl ?_
    | fail)
  unfold Stop
  refine wpList_store_last rfl 36 (.tmp 8) (.tmp 22) rfl #[.int .i64 op, .int .u32 x, .int .u32 y, .int .u64 n, .int .u32 al, .int .u32 me, .int .u64 off, .int .i64 bt, .int .i64 bn, .bool bz, .int .i64 bh, .slice none 0 0, .slice none 0 0, .bool false, .slice la2 labs.length lc2, .slice ta2 tys.length tc2, .slice ca2 cas.length cc2] (by go_simp) (by go_simp) _ (by kernel_rfl) rfl (by simp [Value.oneCell']) ?_
  have GB : Hid (Grew w2 (w2.alloc (.cells #[.int .i64 op, .int .u32 x, .int .u32 y, .int .u64 n, .int .u32 al, .int .u32 me, .int .u64 off, .int .i64 bt, .int .i64 bn, .bool bz, .int .i64 bh, .slice none 0 0, .slice none 0 0, .bool false, .slice la2 labs.length lc2, .slice ta2 tys.length tc2, .slice ca2 cas.length cc2] 36))) := (Grew.refl w2).alloc _
  have H3 : Hid ((w2.alloc (.cells #[.int .i64 op, .int .u32 x, .int .u32 y, .int .u64 n, .int .u32 al, .int .u32 me, .int .u64 off, .int .i64 bt, .int .i64 bn, .bool bz, .int .i64 bh, .slice none 0 0, .slice none 0 0, .bool false, .slice la2 labs.length lc2, .slice ta2 tys.length tc2, .slice ca2 cas.length cc2] 36)).heap[w2.heap.size]? = some (.cells #[.int .i64 op, .int .u32 x, .int .u32 y, .int .u64 n, .int .u32 al, .int .u32 me, .int .u64 off, .int .i64 bt, .int .i64 bn, .bool bz, .int .i64 bh, .slice none 0 0, .slice none 0 0, .bool false, .slice la2 labs.length lc2, .slice ta2 tys.length tc2, .slice ca2 cas.length cc2] 36 (0, 0))) := heap_alloc_last _ _
  have H4 : Hid ((w2.alloc (.cells #[.int .i64 op, .int .u32 x, .int .u32 y, .int .u64 n, .int .u32 al, .int .u32 me, .int .u64 off, .int .i64 bt, .int .i64 bn, .bool bz, .int .i64 bh, .slice none 0 0, .slice none 0 0, .bool false, .slice la2 labs.length lc2, .slice ta2 tys.length tc2, .slice ca2 cas.length cc2] 36)).heap[M1]? = some (.cells #[.int .i64 op, .int .u32 x, .int .u32 y, .int .u64 n, .int .u32 al, .int .u32 me, .int .u64 off, .int .i64 bt, .int .i64 bn, .bool bz, .int .i64 bh, .slice none 0 0, .slice none 0 0, .bool false, .slice la1 labs.length lc1, .slice ta1 tys.length tc1, .slice ca1 cas.length cc1] 36 (0, 0))) := heap_alloc H2.out _
  have G3 : Hid (Grew w (w2.alloc (.cells #[.int .i64 op, .int .u32 x, .int .u32 y, .int .u64 n, .int .u32 al, .int .u32 me, .int .u64 off, .int .i64 bt, .int .i64 bn, .bool bz, .int .i64 bh, .slice none 0 0, .slice none 0 0, .bool false, .slice la2 labs.length lc2, .slice ta2 tys.length tc2, .slice ca2 cas.length cc2] 36))) := G2.out.trans GB.out
  have S := fun W (g : Grew (w2.alloc (.cells #[.int .i64 op, .int .u32 x, .int .u32 y, .int .u64 n, .int .u32 al, .int .u32 me, .int .u64 off, .int .i64 bt, .int .i64 bn, .bool bz, .int .i64 bh, .slice none 0 0, .slice none 0 0, .bool false, .slice la2 labs.length lc2, .slice ta2 tys.length tc2, .slice ca2 cas.length cc2] 36)) W) => sameI_any op x y n al me off bt bn bh bz labs tys cas la1 la2 ta1 ta2 ca1 ca2 lc1 lc2 tc1 tc2 cc1 cc2 W w.heap.size (row_turn RU1.out ((G12.out.trans (GB.out.trans g)).turn []) (by simp)) (row_turn RU2.out ((GB.out.trans g).turn []) (by simp)) (row_turn RV1.out ((G12.out.trans (GB.out.trans g)).turn []) (by simp)) (row_turn RV2.out ((GB.out.trans g).turn []) (by simp)) (row_turn RC1.out ((G12.out.trans (GB.out.trans g)).turn []) (by simp)) (row_turn RC2.out ((GB.out.trans g).turn []) (by simp)) p0 p1
  have L := fun W (g : Grew (w2.alloc (.cells #[.int .i64 op, .int .u32 x, .int .u32 y, .int .u64 n, .int .u32 al, .int .u32 me, .int .u64 off, .int .i64 bt, .int .i64 bn, .bool bz, .int .i64 bh, .slice none 0 0, .slice none 0 0, .bool false, .slice la2 labs.length lc2, .slice ta2 tys.length tc2, .slice ca2 cas.length cc2] 36)) W) => alike_any op x y n al me off bt bn bh bz labs tys cas la1 la2 ta1 ta2 ca1 ca2 lc1 lc2 tc1 tc2 cc1 cc2 W w.heap.size (row_turn RU1.out ((G12.out.trans (GB.out.trans g)).turn []) (by simp)) (row_turn RU2.out ((GB.out.trans g).turn []) (by simp)) (row_turn RV1.out ((G12.out.trans (GB.out.trans g)).turn []) (by simp)) (row_turn RV2.out ((GB.out.trans g).turn []) (by simp)) (row_turn RC1.out ((G12.out.trans (GB.out.trans g)).turn []) (by simp)) (row_turn RC2.out ((GB.out.trans g).turn []) (by simp))
  have hne : ¬ M1 = w2.heap.size := by have := lt_of_obj H2.out; omega
  generalize hM2 : w2.heap.size = M2 at *
  generalize w2.alloc (.cells #[.int .i64 op, .int .u32 x, .int .u32 y, .int .u64 n, .int .u32 al, .int .u32 me, .int .u64 off, .int .i64 bt, .int .i64 bn, .bool bz, .int .i64 bh, .slice none 0 0, .slice none 0 0, .bool false, .slice la2 labs.length lc2, .slice ta2 tys.length tc2, .slice ca2 cas.length cc2] 36) = W3 at *
  have SS : Hid (∀ W, Grew W3 W → Calls Tryz.prog 6 #[.agg #[.int .i64 op, .int .u32 x, .int .u32 y, .int .u64 n, .int .u32 al, .int .u32 me, .int .u64 off, .int .i64 bt, .int .i64 bn, .bool bz, .int .i64 bh, .slice none 0 0, .slice none 0 0, .bool false, .slice la1 labs.length lc1, .slice ta1 tys.length tc1, .slice ca1 cas.length cc1], .agg #[.int .i64 op, .int .u32 x, .int .u32 y, .int .u64 n, .int .u32 al, .int .u32 me, .int .u64 off, .int .i64 bt, .int .i64 bn, .bool bz, .int .i64 bh, .slice none 0 0, .slice none 0 0, .bool false, .slice la2 labs.length lc2, .slice ta2 tys.length tc2, .slice ca2 cas.length cc2]] W fun en w' => en = .returned (.bool true) ∧ Grew W w') := S
  have LL : Hid (∀ W, Grew W3 W → Calls Tryz.prog 7 #[.agg #[.int .i64 op, .int .u32 x, .int .u32 y, .int .u64 n, .int .u32 al, .int .u32 me, .int .u64 off, .int .i64 bt, .int .i64 bn, .bool bz, .int .i64 bh, .slice none 0 0, .slice none 0 0, .bool false, .slice la1 labs.length lc1, .slice ta1 tys.length tc1, .slice ca1 cas.length cc1], .agg #[.int .i64 op, .int .u32 x, .int .u32 y, .int .u64 n, .int .u32 al, .int .u32 me, .int .u64 off, .int .i64 bt, .int .i64 bn, .bool bz, .int .i64 bh, .slice none 0 0, .slice none 0 0, .bool false, .slice la2 labs.length lc2, .slice ta2 tys.length tc2, .slice ca2 cas.length cc2]] W fun en w' => en = .returned (.bool true) ∧ Grew W w') := L
  clear S L
  have c1 := cell_of H4.out 0
  have c2 := cell_of H3.out 0
  simp at c1 c2
  go_wp2_with (first
    | with_reducible refine stop_load 36 rfl ?_
    | fail)
  unfold Stop
  refine wpList_load_run (by first | rfl | simp [Region.wanted, yielded]) 36 (.tmp 5) rfl M1 0 (by go_simp) (.agg #[.int .i64 op, .int .u32 x, .int .u32 y, .int .u64 n, .int .u32 al, .int .u32 me, .int .u64 off, .int .i64 bt, .int .i64 bn, .bool bz, .int .i64 bh, .slice none 0 0, .slice none 0 0, .bool false, .slice la1 labs.length lc1, .slice ta1 tys.length tc1, .slice ca1 cas.length cc1]) (run_loadVar_row _ _ 36 36 _ (0, 0) _ H4.out Tryz.underlying36 rfl (by kernel_rfl)) ?_
  go_wp2_with (first
    | with_reducible refine stop_load 36 rfl ?_
    | fail)
  unfold Stop
  refine wpList_load_run (by first | rfl | simp [Region.wanted, yielded]) 36 (.tmp 8) rfl M2 0 (by go_simp) (.agg #[.int .i64 op, .int .u32 x, .int .u32 y, .int .u64 n, .int .u32 al, .int .u32 me, .int .u64 off, .int .i64 bt, .int .i64 bn, .bool bz, .int .i64 bh, .slice none 0 0, .slice none 0 0, .bool false, .slice la2 labs.length lc2, .slice ta2 tys.length tc2, .slice ca2 cas.length cc2]) (run_loadVar_row _ _ 36 36 _ (0, 0) _ H3.out Tryz.underlying36 rfl (by kernel_rfl)) ?_
  go_wp2_with fail
  refine (SS.out W3 (Grew.refl _)).mono ?_
  rintro en w4 ⟨rfl, g4⟩
  have G4 : Hid (Grew W3 w4) := g4
  have H5 : Hid (w4.heap[M1]? = some (.cells #[.int .i64 op, .int .u32 x, .int .u32 y, .int .u64 n, .int .u32 al, .int .u32 me, .int .u64 off, .int .i64 bt, .int .i64 bn, .bool bz, .int .i64 bh, .slice none 0 0, .slice none 0 0, .bool false, .slice la1 labs.length lc1, .slice ta1 tys.length tc1, .slice ca1 cas.length cc1] 36 (0, 0))) := (g4.turn []).other H4.out (by simp)
  have H6 : Hid (w4.heap[M2]? = some (.cells #[.int .i64 op, .int .u32 x, .int .u32 y, .int .u64 n, .int .u32 al, .int .u32 me, .int .u64 off, .int .i64 bt, .int .i64 bn, .bool bz, .int .i64 bh, .slice none 0 0, .slice none 0 0, .bool false, .slice la2 labs.length lc2, .slice ta2 tys.length tc2, .slice ca2 cas.length cc2] 36 (0, 0))) := (g4.turn []).other H3.out (by simp)
  clear g4
  go_wp2_with (first
    | with_reducible refine stop_load 36 rfl ?_
    | fail)
  unfold Stop
  refine wpList_load_run (by first | rfl | simp [Region.wanted, yielded]) 36 (.tmp 5) rfl M1 0 (by go_simp) (.agg #[.int .i64 op, .int .u32 x, .int .u32 y, .int .u64 n, .int .u32 al, .int .u32 me, .int .u64 off, .int .i64 bt, .int .i64 bn, .bool bz, .int .i64 bh, .slice none 0 0, .slice none 0 0, .bool false, .slice la1 labs.length lc1, .slice ta1 tys.length tc1, .slice ca1 cas.length cc1]) (run_loadVar_row _ _ 36 36 _ (0, 0) _ H5.out Tryz.underlying36 rfl (by kernel_rfl)) ?_
  go_wp2_with (first
    | with_reducible refine stop_load 36 rfl ?_
    | fail)
  unfold Stop
  refine wpList_load_run (by first | rfl | simp [Region.wanted, yielded]) 36 (.tmp 8) rfl M2 0 (by go_simp) (.agg #[.int .i64 op, .int .u32 x, .int .u32 y, .int .u64 n, .int .u32 al, .int .u32 me, .int .u64 off, .int .i64 bt, .int .i64 bn, .bool bz, .int .i64 bh, .slice none 0 0, .slice none 0 0, .bool false, .slice la2 labs.length lc2, .slice ta2 tys.length tc2, .slice ca2 cas.length cc2]) (run_loadVar_row _ _ 36 36 _ (0, 0) _ H6.out Tryz.underlying36 rfl (by kernel_rfl)) ?_
  go_wp2_with fail
  refine (LL.out w4 G4.out).mono ?_
  rintro en w5 ⟨rfl, g5⟩
  have G5 : Hid (Grew W3 w5) := G4.out.trans g5
  clear g5
  go_wp2_with fail
  refine (awake_any w5).mono ?_
  rintro en w6 ⟨rfl, g6⟩
  have G6 : Hid (Grew w w6) := G3.out.trans (G5.out.trans g6)
  clear g6
  go_wp2_with fail
  go_ret
  exact ⟨rfl, G6.out⟩
end Go.Proofs.YtohapnninjdlfaaGreatDoor
