/-
  The walk of EntryBack; no statement is proved here.
-/
import Derived.Test.YtchehejjdinifaaGreatDoorWrT
import Derived.Test.YtchehejjdinifaaGreatDoorTopG
import Derived.Test.YtchehejjdinifaaGreatDoorTpI
import Derived.Test.YtchehejjdinifaaGreatDoorSamL
import Derived.Test.YtchehejjdinifaaGreatDoorBkE
import Derived.Test.YtchehejjdinifaaGreatDoorE8p
namespace Go.Proofs.YtchehejjdinifaaGreatDoor
open Go.RowKit
set_option linter.unusedVariables false
set_option linter.unusedSimpArgs false
set_option linter.constructorNameAsVariable false

set_option maxHeartbeats 2000000 in
theorem neqI (x : IM) (W : World) : (binOp .neq 37 (.agg x.c) (.agg x.c)).run Tryz.prog W = .ok (.bool false) W := by
  unfold IM.c
  simp [go_sem]
theorem byt_three {f a b : List Int} (hf : By f) (ha : By a) (hb : By b) : Byt (f ++ a ++ b) := by
  intro j
  by_cases hj : j < (f ++ a ++ b).length
  · exact By.get (By.app (By.app hf ha) hb) hj
  · have e : (f ++ a ++ b).getD j 0 = 0 := by rw [List.getD, List.getElem?_eq_none (Nat.le_of_not_lt hj)]; rfl
    rw [e]
    omega
theorem by_of {l : List Int} (h : Byt l) : By l := by
  intro c hc
  obtain ⟨j, hj, rfl⟩ := List.getElem_of_mem hc
  have := h j
  have e : l.getD j 0 = l[j] := by rw [List.getD, List.getElem?_eq_getElem hj]; rfl
  rw [e] at this
  exact this
/- The group, read between others. -/
theorem readRec {w : World} (hT : Tab w) {ts : List SB} {ex : Bool} {f a b : List Int} (hr : recW ⟨ts, ex⟩ = .ok a) (hf : Byt f) (hb : Byt b) (hlen : (f ++ a ++ b).length ≤ 140737488351232) (d : Bool) (hd : d = decide (ts.length ≠ 1)) (v : Value) (hR : Reads w v (f ++ a ++ b)) :
    Calls Tryz.prog 5 #[v, .int .i64 (f.length : Int)] w fun en w' => ∃ ta tc, en = .returned (.tuple #[.agg #[.slice ta ts.length tc, .bool d], .int .i64 ((f.length : Int) + (a.length : Int)), .int .i64 0]) ∧ LS w' (.slice ta ts.length tc) ts ∧ Grew w w' := by
  obtain ⟨hby, hbk⟩ := rec_back hr
  simp only at hbk
  rw [← hd] at hbk
  have C := topRx_any v (f ++ a ++ b) f.length w hR (byt_three (by_of hf) hby (by_of hb)) hlen hT
  rw [back_top hbk] at C
  refine C.mono ?_
  rintro en w' ⟨cs, rfl, ⟨tv, rfl, hq⟩, g⟩
  obtain ⟨ta, tc, rfl⟩ := hq.one
  exact ⟨ta, tc, by simp, hq.lst, g⟩
theorem readImp {w : World} (hT : Tab w) {m n : List Int} {X : Except Nat (List Int)} {x : XT} {f a b : List Int} (hm : Byt m) (hn : Byt n) (hX : ∀ y, X = .ok y → By y ∧ Bk extR x y) (hr : impW m n X = .ok a) (hf : Byt f) (hb : Byt b) (hlen : (f ++ a ++ b).length ≤ 140737488351232) (v : Value) (hR : Reads w v (f ++ a ++ b)) :
    Calls Tryz.prog 8 #[v, .int .i64 (f.length : Int)] w fun en w' => en = .returned (.tuple #[.agg (IM.c ⟨m, n, x⟩), .int .i64 ((f.length : Int) + (a.length : Int)), .int .i64 0]) ∧ Grew w w' := by
  obtain ⟨hby, hbk⟩ := imp_back (by_of hm) (by_of hn) hX hr
  have C := topIm_any v (f ++ a ++ b) f.length w hR (byt_three (by_of hf) hby (by_of hb)) hlen hT
  rw [back_top hbk] at C
  refine C.mono ?_
  rintro en w' ⟨rfl, g⟩
  exact ⟨by unfold ansIm; simp; rfl, g⟩
set_option maxRecDepth 100000 in
set_option maxHeartbeats 8000000 in
theorem back_any (w : World) (hT : Tab w) (tv : Value) (ts : List SB) (ex : Bool) (hv : LS w tv ts) (hsm : ∀ x ∈ ts, smallS x) (hmu : (ts.map muS).sum ≤ 1048576)
    (m n : List Int) (hB1 : Byt m) (hs1 : m.length ≤ 140737488351232) (hB2 : Byt n) (hs2 : n.length ≤ 140737488351232) (x : XT) (t0 : 0 ≤ x.tab.lim.mn) (t1 : x.tab.lim.mn ≤ 18446744073709551615) (t2 : 0 ≤ x.tab.lim.mx) (t3 : x.tab.lim.mx ≤ 18446744073709551615) (m0 : 0 ≤ x.mem.mn) (m1 : x.mem.mn ≤ 18446744073709551615) (m2 : 0 ≤ x.mem.mx) (m3 : x.mem.mx ≤ 18446744073709551615)
    (vf vb : Value) (f b : List Int) (hF : Reads w vf f) (hBf : Byt f) (hlf : f.length ≤ 1048576) (hb : Reads w vb b) (hBb : Byt b) (hlb : b.length ≤ 1048576) :
    Calls Tryz.prog 3 #[.agg #[tv, .bool ex], .agg (IM.c ⟨m, n, x⟩), vf, vb] w fun en w' => en = .returned (.bool true) ∧ Grew w w' := by
  obtain ⟨X, hXd⟩ : ∃ X, X = extW x.kind x.ty x.tab.elem.num x.tab.elem.heap x.tab.lim.mn x.tab.lim.mx x.mem.mn x.mem.mx x.glo.ty.num x.glo.ty.heap x.tab.elem.null x.tab.lim.wide x.tab.lim.hm x.mem.wide x.mem.hm x.glo.ty.null x.glo.mut_ := ⟨_, rfl⟩
  have hXb : ∀ y, X = .ok y → By y ∧ Bk extR x y := fun y hy => ext_back t0 t1 t2 t3 m0 m1 m2 m3 (hXd.symm.trans hy)
  have hXl : ∀ y, X = .ok y → y.length ≤ 40 := fun y hy => ext_len (hXd.symm.trans hy)
  have hXe : ∀ e, X = .error e → e ≠ 0 := fun e hy => ext_er (hXd.symm.trans hy)
  have CI : Hid (∀ w1, Grew w w1 → Calls Tryz.prog 7 #[.agg (IM.c ⟨m, n, x⟩)] w1 (PAns w1 (impW m n X))) := fun w1 g =>
    pPutImp_any w1 (hT.grew g) m n [.int .i64 x.kind, .int .i64 x.ty, .int .i64 x.tab.elem.num, .bool x.tab.elem.null, .int .i64 x.tab.elem.heap, .bool x.tab.lim.wide, .int .u64 x.tab.lim.mn, .int .u64 x.tab.lim.mx, .bool x.tab.lim.hm, .bool x.mem.wide, .int .u64 x.mem.mn, .int .u64 x.mem.mx, .bool x.mem.hm, .int .i64 x.glo.ty.num, .bool x.glo.ty.null, .int .i64 x.glo.ty.heap, .bool x.glo.mut_] X hB1 hs1 hB2 hs2 (by kernel_rfl) (by kernel_rfl) (fun b B W l' hl hS => by rw [hXd]; exact extern2 hS _ _ _ _ _ _ _ _ _ _ _ _ _ _ _ _ _ t0 t1 t2 t3 m0 m1 m2 m3 hl)
  have CR : Hid (∀ w1, Grew w w1 → Calls Tryz.prog 4 #[.agg #[tv, .bool ex]] w1 (PAns w1 (recW ⟨ts, ex⟩))) := fun w1 g => putRec_any w1 (hT.grew g) tv ts ex (hv.grew g) hsm
  have AW : Hid (∀ w1, Grew w w1 → Calls Tryz.prog 9 #[] w1 fun en w' => en = .returned (.bool true) ∧ Grew w1 w') := fun w1 g => awake_any w1 (hT.grew g)
  obtain ⟨d, hd⟩ : ∃ d, d = decide (ts.length ≠ 1) := ⟨_, rfl⟩
  have hdi : ((ts.length : Int) != 1) = d := by
    rw [hd]
    by_cases h : ts.length = 1
    · simp [h]
    · simp [h]; omega
  have RR : Hid (∀ (a : List Int), recW ⟨ts, ex⟩ = .ok a → ∀ w1 v1, Grew w w1 → Reads w1 v1 (f ++ a ++ b) → Calls Tryz.prog 5 #[v1, .int .i64 (f.length : Int)] w1 fun en w' => ∃ ta tc, en = .returned (.tuple #[.agg #[.slice ta ts.length tc, .bool d], .int .i64 ((f.length : Int) + (a.length : Int)), .int .i64 0]) ∧ LS w' (.slice ta ts.length tc) ts ∧ Grew w1 w') :=
    fun a ha w1 v1 g hr => readRec (hT.grew g) ha hBf hBb (by have := rec_few hmu ha; simp; omega) d hd v1 hr
  have RI : Hid (∀ (a : List Int), impW m n X = .ok a → ∀ w1 v1, Grew w w1 → Reads w1 v1 (f ++ a ++ b) → Calls Tryz.prog 8 #[v1, .int .i64 (f.length : Int)] w1 fun en w' => en = .returned (.tuple #[.agg (IM.c ⟨m, n, x⟩), .int .i64 ((f.length : Int) + (a.length : Int)), .int .i64 0]) ∧ Grew w1 w') :=
    fun a ha w1 v1 g hr => readImp (hT.grew g) hB1 hB2 hXb ha hBf hBb (by have := imp_len hXl ha; simp; omega) v1 hr
  have HF : Hid (Reads w vf f) := hF
  have HBk : Hid (Reads w vb b) := hb
  have HV : Hid (LS w tv ts) := hv
  have LA : Hid (∀ a, recW ⟨ts, ex⟩ = .ok a → a.length ≤ 70000000) := fun a ha => rec_few hmu ha
  have LI_ : Hid (∀ a, impW m n X = .ok a → a.length ≤ 131200) := fun a ha => imp_len hXl ha
  have EA : Hid (∀ e, recW ⟨ts, ex⟩ = .error e → e ≠ 0) := fun e he => rec_er _ _ he
  have EI_ : Hid (∀ e, impW m n X = .error e → e ≠ 0) := fun e he => imp_er hXe he
  obtain ⟨fa, fc, hvf⟩ := hF.len
  obtain ⟨ba, bc, hvb⟩ := hb.len
  obtain ⟨ta, tc, htv⟩ := lst_one hv
  subst hvf hvb htv
  clear hXb hXl hXe hXd hT hsm hB1 hB2 hs1 hs2 t0 t1 t2 t3 m0 m1 m2 m3 hF hb hv hmu hBf hBb hd
  generalize impW m n X = RI_ at *
  generalize hrr : recW ⟨ts, ex⟩ = RR_ at *
  clear hrr X
  obtain ⟨xm, hxm⟩ : ∃ xm : IM, xm = ⟨m, n, x⟩ := ⟨_, rfl⟩
  rw [← hxm] at CI RI ⊢
  clear hxm m n x
  have nI := neqI
  cases RR_ with
  | error e =>
    have de : ((e : Int) == 0) = false := by have := EA.out e rfl; simp; exact this
    go_enter Tryz.func3, Tryz.ntmps3
    go_wp2_with fail
    generalize hW : (w.alloc (.cells #[.slice ta ts.length tc, .bool ex] 24)).alloc (.cells xm.c 37) = W0
    have G0 : Hid (Grew w W0) := by rw [← hW]; exact ((Grew.refl w).alloc _).alloc _
    have B0 : Hid (W0.heap[w.heap.size]? = some (.cells #[.slice ta ts.length tc, .bool ex] 24 (0, 0))) := by rw [← hW]; exact heap_alloc (heap_alloc_last _ _) _
    have J0 : Hid (W0.heap[w.heap.size + 1]? = some (.cells xm.c 37 (0, 0))) := by
      have h1 : (w.alloc (.cells #[.slice ta ts.length tc, .bool ex] 24)).heap.size = w.heap.size + 1 := alloc_size _ _
      rw [← hW, ← h1]
      exact heap_alloc_last _ _
    clear hW
    refine (CR.out _ G0.out).mono ?_
    rintro en w1 ⟨rfl, g1⟩
    have G1 : Hid (Grew w w1) := G0.out.trans g1
    have J1 : Hid (w1.heap[w.heap.size + 1]? = some (.cells xm.c 37 (0, 0))) := (g1.turn []).other J0.out (by simp)
    clear g1 G0 B0 J0 CR
    go_wp2_with (first
      | with_reducible refine stop_load 37 rfl ?_
      | fail)
    unfold Stop
    refine wpList_load_row rfl 37 _ rfl (w.heap.size + 1) rfl 37 xm.c (0, 0) _ J1.out Tryz.underlying37 rfl (IM.sz xm) ?_
    go_wp2_with fail
    cases RI_ with
    | error e2 =>
      have de2 : ((e2 : Int) == 0) = false := by have := EI_.out e2 rfl; simp; exact this
      refine (CI.out _ G1.out).mono ?_
      rintro en w4 ⟨rfl, g4⟩
      have G4 : Hid (Grew w w4) := G1.out.trans g4
      clear g4
      go_wp2_with fail
      refine (AW.out _ G4.out).mono ?_
      rintro en w99 ⟨rfl, g99⟩
      have G99 : Hid (Grew w w99) := (G4.out).trans g99
      clear g99
      go_wp2_with fail
      go_ret
      exact ⟨rfl, G99.out⟩
    | ok c =>
      have lc := LI_.out c rfl
      refine (CI.out _ G1.out).mono ?_
      rintro en w5 ⟨rv, rfl, r5, g5⟩
      have RA5 : Hid (Reads w5 rv c) := Has.reads (base := _) (w0 := w5) ⟨r5, Below.refl _ _, g5.2⟩
      obtain ⟨ra5, rc5, hrv⟩ := row_one r5
      subst hrv
      have GA5 : Hid (Grew w w5) := G1.out.trans g5
      have J5 : Hid (w5.heap[w.heap.size + 1]? = some (.cells xm.c 37 (0, 0))) := (g5.turn []).other J1.out (by simp)
      clear r5 g5 G1 J1 CI
      have hh5 : Has w5.heap.size w5 (w5.alloc (.cells #[] 5)) (.slice (some ⟨w5.heap.size, 0, none⟩) 0 0) [] := ⟨World.ownsRow_lit w5 #[] 0 (Nat.le_refl _) (by decide) rfl, (Below.refl _ _).alloc (Nat.le_refl _) _, by simp⟩
      have HH5 : Hid (Has w5.heap.size w5 (w5.alloc (.cells #[] 5)) (.slice (some ⟨w5.heap.size, 0, none⟩) 0 0) []) := hh5
      clear hh5
      go_wp2_with (first
        | (at_builtin; refine wp_appS rfl (.tmp 72) (.tmp 73) rfl rfl rfl HH5.out ((HF.out.below (GA5.out.1)).below HH5.out.below) (by simp; omega) ?_; intro v51 w51 h51; have K51 : Hid (Has w5.heap.size w5 w51 v51 ([] ++ f)) := h51; clear h51)
        | (at_builtin; refine wp_appS rfl (.tmp 74) (.tmp 75) rfl rfl rfl K51.out (RA5.out.below K51.out.below) (by simp; omega) ?_; intro v52 w52 h52; have K52 : Hid (Has w5.heap.size w5 w52 v52 ([] ++ f ++ c)) := h52; clear h52)
        | (at_builtin; refine wp_appS rfl (.tmp 76) (.tmp 77) rfl rfl rfl K52.out ((HBk.out.below (GA5.out.1)).below K52.out.below) (by simp; omega) ?_; intro v53 w53 h53; have K53 : Hid (Has w5.heap.size w5 w53 v53 ([] ++ f ++ c ++ b)) := h53; obtain ⟨a53, p53, e53⟩ := h53.reads.len; subst e53; clear h53)
        | fail)
      have GR5 : Hid (Grew w w53) := GA5.out.trans ⟨K53.out.2.1, K53.out.2.2⟩
      have RD5 : Hid (Reads w53 (.slice a53 (f.length + (c.length + b.length)) p53) (f ++ c ++ b)) := by
        have h := K53.out.reads
        rw [List.nil_append] at h
        have e : (f ++ c ++ b).length = f.length + (c.length + b.length) := by simp [Nat.add_assoc]
        rw [← e]
        exact h
      have GK5 : Hid (Grew w5 w53) := ⟨K53.out.2.1, K53.out.2.2⟩
      refine (RI.out c rfl _ _ GR5.out RD5.out).mono ?_
      rintro en w6 ⟨rfl, g6⟩
      have G6 : Hid (Grew w w6) := GR5.out.trans g6
      have J6 : Hid (w6.heap[w.heap.size + 1]? = some (.cells xm.c 37 (0, 0))) := ((GK5.out.trans g6).turn []).other J5.out (by simp)
      have hadd5 : IntKind.i64.wrap ((f.length : Int) + (c.length : Int)) = (f.length : Int) + (c.length : Int) := by rw [IntKind.wrap_i64]; omega
      clear g6 RD5 GK5 GR5 K53 K52 K51 HH5 J5 RA5 GA5
      go_wp2_with (first
        | with_reducible refine stop_store 37 rfl ?_
        | fail)
      unfold Stop
      refine wpList_store_last rfl 37 _ _ rfl xm.c rfl rfl _ (IM.sz xm) rfl (IM.one xm) ?_
      go_wp2_with (first
        | with_reducible refine stop_load 37 rfl ?_
        | fail)
      generalize hw7 : w6.alloc (.cells xm.c 37) = w7
      have G7 : Hid (Grew w w7) := by rw [← hw7]; exact G6.out.alloc _
      have J7 : Hid (w7.heap[w.heap.size + 1]? = some (.cells xm.c 37 (0, 0))) := by rw [← hw7]; exact heap_alloc J6.out _
      have M7 : Hid (w7.heap[w6.heap.size]? = some (.cells xm.c 37 (0, 0))) := by rw [← hw7]; exact heap_alloc_last _ _
      clear hw7 J6 G6
      unfold Stop
      refine wpList_load_run (by first | rfl | simp [Region.wanted, yielded]) 37 _ rfl w6.heap.size 0 rfl (.agg xm.c) (run_loadVar_row _ _ 37 37 _ (0, 0) _ M7.out Tryz.underlying37 rfl (IM.sz _)) ?_
      go_wp2_with (first
        | with_reducible refine stop_load 37 rfl ?_
        | fail)
      unfold Stop
      refine wpList_load_run (by first | rfl | simp [Region.wanted, yielded]) 37 _ rfl (w.heap.size + 1) 0 rfl (.agg xm.c) (run_loadVar_row _ _ 37 37 _ (0, 0) _ J7.out Tryz.underlying37 rfl (IM.sz _)) ?_
      go_wp2_with fail
      refine (AW.out _ G7.out).mono ?_
      rintro en w99 ⟨rfl, g99⟩
      have G99 : Hid (Grew w w99) := (G7.out).trans g99
      clear g99
      go_wp2_with fail
      go_ret
      exact ⟨rfl, G99.out⟩
  | ok a =>
    have la := LA.out a rfl
    go_enter Tryz.func3, Tryz.ntmps3
    go_wp2_with fail
    generalize hW : (w.alloc (.cells #[.slice ta ts.length tc, .bool ex] 24)).alloc (.cells xm.c 37) = W0
    have G0 : Hid (Grew w W0) := by rw [← hW]; exact ((Grew.refl w).alloc _).alloc _
    have B0 : Hid (W0.heap[w.heap.size]? = some (.cells #[.slice ta ts.length tc, .bool ex] 24 (0, 0))) := by rw [← hW]; exact heap_alloc (heap_alloc_last _ _) _
    have J0 : Hid (W0.heap[w.heap.size + 1]? = some (.cells xm.c 37 (0, 0))) := by
      have h1 : (w.alloc (.cells #[.slice ta ts.length tc, .bool ex] 24)).heap.size = w.heap.size + 1 := alloc_size _ _
      rw [← hW, ← h1]
      exact heap_alloc_last _ _
    clear hW
    refine (CR.out _ G0.out).mono ?_
    rintro en w1 ⟨rv, rfl, r1, g1⟩
    have RA1 : Hid (Reads w1 rv a) := Has.reads (base := _) (w0 := w1) ⟨r1, Below.refl _ _, g1.2⟩
    obtain ⟨ra, rc, hrv⟩ := row_one r1
    subst hrv
    have GA1 : Hid (Grew w w1) := G0.out.trans g1
    have B1 : Hid (w1.heap[w.heap.size]? = some (.cells #[.slice ta ts.length tc, .bool ex] 24 (0, 0))) := (g1.turn []).other B0.out (by simp)
    have J1 : Hid (w1.heap[w.heap.size + 1]? = some (.cells xm.c 37 (0, 0))) := (g1.turn []).other J0.out (by simp)
    clear r1 g1 G0 B0 J0 CR
    have hh1 : Has w1.heap.size w1 (w1.alloc (.cells #[] 5)) (.slice (some ⟨w1.heap.size, 0, none⟩) 0 0) [] := ⟨World.ownsRow_lit w1 #[] 0 (Nat.le_refl _) (by decide) rfl, (Below.refl _ _).alloc (Nat.le_refl _) _, by simp⟩
    have HH1 : Hid (Has w1.heap.size w1 (w1.alloc (.cells #[] 5)) (.slice (some ⟨w1.heap.size, 0, none⟩) 0 0) []) := hh1
    clear hh1
    go_wp2_with (first
      | (at_builtin; refine wp_appS rfl (.tmp 27) (.tmp 28) rfl rfl rfl HH1.out ((HF.out.below (GA1.out.1)).below HH1.out.below) (by simp; omega) ?_; intro v11 w11 h11; have K11 : Hid (Has w1.heap.size w1 w11 v11 ([] ++ f)) := h11; clear h11)
      | (at_builtin; refine wp_appS rfl (.tmp 29) (.tmp 30) rfl rfl rfl K11.out (RA1.out.below K11.out.below) (by simp; omega) ?_; intro v12 w12 h12; have K12 : Hid (Has w1.heap.size w1 w12 v12 ([] ++ f ++ a)) := h12; clear h12)
      | (at_builtin; refine wp_appS rfl (.tmp 31) (.tmp 32) rfl rfl rfl K12.out ((HBk.out.below (GA1.out.1)).below K12.out.below) (by simp; omega) ?_; intro v13 w13 h13; have K13 : Hid (Has w1.heap.size w1 w13 v13 ([] ++ f ++ a ++ b)) := h13; obtain ⟨a13, p13, e13⟩ := h13.reads.len; subst e13; clear h13)
      | fail)
    have GR1 : Hid (Grew w w13) := GA1.out.trans ⟨K13.out.2.1, K13.out.2.2⟩
    have RD1 : Hid (Reads w13 (.slice a13 (f.length + (a.length + b.length)) p13) (f ++ a ++ b)) := by
      have h := K13.out.reads
      rw [List.nil_append] at h
      have e : (f ++ a ++ b).length = f.length + (a.length + b.length) := by simp [Nat.add_assoc]
      rw [← e]
      exact h
    have GK1 : Hid (Grew w1 w13) := ⟨K13.out.2.1, K13.out.2.2⟩
    refine (RR.out a rfl _ _ GR1.out RD1.out).mono ?_
    rintro en w2 ⟨ta2, tc2, rfl, l2, g2⟩
    have L2 : Hid (LS w2 (.slice ta2 ts.length tc2) ts) := l2
    have G2 : Hid (Grew w w2) := GR1.out.trans g2
    have B2 : Hid (w2.heap[w.heap.size]? = some (.cells #[.slice ta ts.length tc, .bool ex] 24 (0, 0))) := ((GK1.out.trans g2).turn []).other B1.out (by simp)
    have J2 : Hid (w2.heap[w.heap.size + 1]? = some (.cells xm.c 37 (0, 0))) := ((GK1.out.trans g2).turn []).other J1.out (by simp)
    have b0 := cell_of B2.out 0
    have b1 := cell_of B2.out 1
    have hz2 := lt_of_obj J2.out
    have hz3 : ¬ w.heap.size = w2.heap.size := by omega
    have hz5 : w.heap.size < w2.heap.size := by omega
    have hz4 : ¬ w.heap.size = w2.heap.size + 1 := by omega
    simp at b0 b1
    have hadd : IntKind.i64.wrap ((f.length : Int) + (a.length : Int)) = (f.length : Int) + (a.length : Int) := by rw [IntKind.wrap_i64]; omega
    clear l2 g2 RD1 GK1 GR1 K13 K12 K11 HH1 B1 J1 RA1 GA1
    go_wp2_with fail
    refine (sameRec_lst (r := ⟨ts, d⟩) ⟨_, rfl, L2.out.grew (((Grew.refl _).alloc _).alloc _)⟩ ⟨_, rfl, HV.out.grew ((G2.out.alloc _).alloc _)⟩).mono ?_
    rintro en w3 ⟨rfl, g3⟩
    have G3 : Hid (Grew w w3) := ((G2.out.alloc _).alloc _).trans g3
    have J3 : Hid (w3.heap[w.heap.size + 1]? = some (.cells xm.c 37 (0, 0))) := (((((Grew.refl w2).alloc _).alloc _).trans g3).turn []).other J2.out (by simp)
    clear g3 J2 B2 b0 b1 hz2 hz3 hz4 hz5 L2 G2 hadd
    go_wp2_with (first
      | with_reducible refine stop_load 37 rfl ?_
      | fail)
    unfold Stop
    refine wpList_load_row rfl 37 _ rfl (w.heap.size + 1) rfl 37 xm.c (0, 0) _ J3.out Tryz.underlying37 rfl (IM.sz xm) ?_
    go_wp2_with fail
    cases RI_ with
    | error e2 =>
      have de2 : ((e2 : Int) == 0) = false := by have := EI_.out e2 rfl; simp; exact this
      refine (CI.out _ G3.out).mono ?_
      rintro en w4 ⟨rfl, g4⟩
      have G4 : Hid (Grew w w4) := G3.out.trans g4
      clear g4
      go_wp2_with fail
      refine (AW.out _ G4.out).mono ?_
      rintro en w99 ⟨rfl, g99⟩
      have G99 : Hid (Grew w w99) := (G4.out).trans g99
      clear g99
      go_wp2_with fail
      go_ret
      exact ⟨rfl, G99.out⟩
    | ok c =>
      have lc := LI_.out c rfl
      refine (CI.out _ G3.out).mono ?_
      rintro en w5 ⟨rv, rfl, r5, g5⟩
      have RA5 : Hid (Reads w5 rv c) := Has.reads (base := _) (w0 := w5) ⟨r5, Below.refl _ _, g5.2⟩
      obtain ⟨ra5, rc5, hrv⟩ := row_one r5
      subst hrv
      have GA5 : Hid (Grew w w5) := G3.out.trans g5
      have J5 : Hid (w5.heap[w.heap.size + 1]? = some (.cells xm.c 37 (0, 0))) := (g5.turn []).other J3.out (by simp)
      clear r5 g5 G3 J3 CI
      have hh5 : Has w5.heap.size w5 (w5.alloc (.cells #[] 5)) (.slice (some ⟨w5.heap.size, 0, none⟩) 0 0) [] := ⟨World.ownsRow_lit w5 #[] 0 (Nat.le_refl _) (by decide) rfl, (Below.refl _ _).alloc (Nat.le_refl _) _, by simp⟩
      have HH5 : Hid (Has w5.heap.size w5 (w5.alloc (.cells #[] 5)) (.slice (some ⟨w5.heap.size, 0, none⟩) 0 0) []) := hh5
      clear hh5
      go_wp2_with (first
        | (at_builtin; refine wp_appS rfl (.tmp 72) (.tmp 73) rfl rfl rfl HH5.out ((HF.out.below (GA5.out.1)).below HH5.out.below) (by simp; omega) ?_; intro v51 w51 h51; have K51 : Hid (Has w5.heap.size w5 w51 v51 ([] ++ f)) := h51; clear h51)
        | (at_builtin; refine wp_appS rfl (.tmp 74) (.tmp 75) rfl rfl rfl K51.out (RA5.out.below K51.out.below) (by simp; omega) ?_; intro v52 w52 h52; have K52 : Hid (Has w5.heap.size w5 w52 v52 ([] ++ f ++ c)) := h52; clear h52)
        | (at_builtin; refine wp_appS rfl (.tmp 76) (.tmp 77) rfl rfl rfl K52.out ((HBk.out.below (GA5.out.1)).below K52.out.below) (by simp; omega) ?_; intro v53 w53 h53; have K53 : Hid (Has w5.heap.size w5 w53 v53 ([] ++ f ++ c ++ b)) := h53; obtain ⟨a53, p53, e53⟩ := h53.reads.len; subst e53; clear h53)
        | fail)
      have GR5 : Hid (Grew w w53) := GA5.out.trans ⟨K53.out.2.1, K53.out.2.2⟩
      have RD5 : Hid (Reads w53 (.slice a53 (f.length + (c.length + b.length)) p53) (f ++ c ++ b)) := by
        have h := K53.out.reads
        rw [List.nil_append] at h
        have e : (f ++ c ++ b).length = f.length + (c.length + b.length) := by simp [Nat.add_assoc]
        rw [← e]
        exact h
      have GK5 : Hid (Grew w5 w53) := ⟨K53.out.2.1, K53.out.2.2⟩
      refine (RI.out c rfl _ _ GR5.out RD5.out).mono ?_
      rintro en w6 ⟨rfl, g6⟩
      have G6 : Hid (Grew w w6) := GR5.out.trans g6
      have J6 : Hid (w6.heap[w.heap.size + 1]? = some (.cells xm.c 37 (0, 0))) := ((GK5.out.trans g6).turn []).other J5.out (by simp)
      have hadd5 : IntKind.i64.wrap ((f.length : Int) + (c.length : Int)) = (f.length : Int) + (c.length : Int) := by rw [IntKind.wrap_i64]; omega
      clear g6 RD5 GK5 GR5 K53 K52 K51 HH5 J5 RA5 GA5
      go_wp2_with (first
        | with_reducible refine stop_store 37 rfl ?_
        | fail)
      unfold Stop
      refine wpList_store_last rfl 37 _ _ rfl xm.c rfl rfl _ (IM.sz xm) rfl (IM.one xm) ?_
      go_wp2_with (first
        | with_reducible refine stop_load 37 rfl ?_
        | fail)
      generalize hw7 : w6.alloc (.cells xm.c 37) = w7
      have G7 : Hid (Grew w w7) := by rw [← hw7]; exact G6.out.alloc _
      have J7 : Hid (w7.heap[w.heap.size + 1]? = some (.cells xm.c 37 (0, 0))) := by rw [← hw7]; exact heap_alloc J6.out _
      have M7 : Hid (w7.heap[w6.heap.size]? = some (.cells xm.c 37 (0, 0))) := by rw [← hw7]; exact heap_alloc_last _ _
      clear hw7 J6 G6
      unfold Stop
      refine wpList_load_run (by first | rfl | simp [Region.wanted, yielded]) 37 _ rfl w6.heap.size 0 rfl (.agg xm.c) (run_loadVar_row _ _ 37 37 _ (0, 0) _ M7.out Tryz.underlying37 rfl (IM.sz _)) ?_
      go_wp2_with (first
        | with_reducible refine stop_load 37 rfl ?_
        | fail)
      unfold Stop
      refine wpList_load_run (by first | rfl | simp [Region.wanted, yielded]) 37 _ rfl (w.heap.size + 1) 0 rfl (.agg xm.c) (run_loadVar_row _ _ 37 37 _ (0, 0) _ J7.out Tryz.underlying37 rfl (IM.sz _)) ?_
      go_wp2_with fail
      refine (AW.out _ G7.out).mono ?_
      rintro en w99 ⟨rfl, g99⟩
      have G99 : Hid (Grew w w99) := (G7.out).trans g99
      clear g99
      go_wp2_with fail
      go_ret
      exact ⟨rfl, G99.out⟩
end Go.Proofs.YtchehejjdinifaaGreatDoor
