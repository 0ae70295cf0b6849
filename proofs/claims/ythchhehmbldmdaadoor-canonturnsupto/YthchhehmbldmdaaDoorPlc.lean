/-
  The draft's place; no statement is proved here.
-/
import Derived.Test.YthchhehmbldmdaaDoorPlM
namespace Go.Proofs.YthchhehmbldmdaaDoor
open Go.RowKit
set_option linter.unusedVariables false
set_option linter.unusedSimpArgs false

theorem txt_any {W : World} {u : Value} {l : List SB} {ex : Bool} (h : LS W u l) (hl : l.length ≤ 1048576) (hm : ∀ x ∈ l, Rng x ∧ Sml x) (ht : Lib.TabIs Tryd.prog W "internal/strconv.uint64pow10" .u64 Lib.pow10Tab) (hb : (txt l).length ≤ 140000000) :
    Calls Tryd.prog 57 #[.agg #[u, .bool ex]] W fun en w' => ∃ s : ByteArray, en = .returned (.string s) ∧ s.data.toList = txt l ∧ Grew W w' :=
  (text_any h hl (fun x hx => (hm x hx).2) (fun x hx => (hm x hx).1) ht (by rw [← txt_len]; omega)).mono fun en w' ⟨s, h1, h2, h3⟩ => ⟨s, h1, bc_inj (h2.trans (txt_bc l)), h3⟩
set_option maxRecDepth 100000 in
set_option maxHeartbeats 2000000 in
theorem place_known {W : World} {db kb fb nk nf : Nat} {f0 f1 : FM} {gv u : Value} {c m v : Int} {k : List UInt8} {n : Nat} {ex : Bool} (hd : W.heap[db]? = some (dobj kb fb gv c m)) (h0 : MapF W kb nk f0) (h1 : MapF W fb nf f1) (hf : f0 k = some v) (hkl : k.length ≤ 140000000) (hu : ∃ a cc, u = .slice a n cc) (hg : ∃ a n cc, gv = .slice a n cc)
    (ct : ∀ w', Grew W w' → Calls Tryd.prog 57 #[.agg #[u, .bool ex]] w' fun en w'' => ∃ s : ByteArray, en = .returned (.string s) ∧ s.data.toList = k ∧ Grew w' w'') :
    Calls Tryd.prog 41 #[.pointer (some ⟨db, 0, none⟩), .agg #[u, .bool ex]] W fun en w' => en = .returned (.tuple #[.int .i64 v, .bool true]) ∧ Grew W w' := by
  obtain ⟨ua, uc, rfl⟩ := hu
  obtain ⟨ga, gn, gc, rfl⟩ := hg
  have CT : Hid (∀ w', Grew W w' → Calls Tryd.prog 57 #[.agg #[.slice ua n uc, .bool ex]] w' fun en w'' => ∃ s : ByteArray, en = .returned (.string s) ∧ s.data.toList = k ∧ Grew w' w'') := ct
  have HD : Hid (W.heap[db]? = some (dobj kb fb (.slice ga gn gc) c m)) := hd
  have H0 : Hid (MapF W kb nk f0) := h0
  have H1 : Hid (MapF W fb nf f1) := h1
  have HV : Hid (f0 k = some v) := hf
  clear ct hd h0 h1 hf
  go_enter Tryd.func41, Tryd.ntmps41
  go_wp2_with fail
  refine (CT.out _ (by first | exact Grew.refl W | exact (Grew.refl W).alloc _)).mono ?_
  rintro en w1 ⟨s, rfl, hs, g1⟩
  have G1 : Hid (Grew W w1) := by first | exact g1 | exact ((Grew.refl W).alloc _).trans g1
  have D1 := G1.out.other HD.out
  have c0 := cell_of D1 0
  have c1 := cell_of D1 1
  have c2 := cell_of D1 2
  have c3 := cell_of D1 3
  have c4 := cell_of D1 4
  simp at c0 c1 c2 c3 c4
  have hdl := lt_of_obj D1
  have hss : s.size ≤ maxLen := by
    have : s.data.toList.length = s.size := by simp
    rw [hs] at this
    unfold maxLen
    omega
  clear g1 D1 CT
  go_wp2_with fail
  go_region
  all_goals go_wp2_with fail
  all_goals
    refine wp_loop_rounds 3 ?_
    rw [rounds_succ]
    go_wp2_with (at_lookup; refine wp_look_some rfl _ _ rfl rfl (H0.out.grew (by repeat (first | exact G1.out | refine Grew.alloc ?_ _ | refine Grew.drew ?_ | refine Grew.drewN ?_ _))) hss rfl (by rw [hs]; exact HV.out) ?_)
    go_ret2
    refine ⟨rfl, ?_⟩
    repeat (first | exact G1.out | refine Grew.alloc ?_ _ | refine Grew.drew ?_ | refine Grew.drewN ?_ _)
set_option maxRecDepth 100000 in
set_option maxHeartbeats 2000000 in
theorem place_fresh {W : World} {db kb fb nk nf : Nat} {f0 f1 : FM} {gv u : Value} {c m v : Int} {k : List UInt8} {n : Nat} {ex : Bool} (hd : W.heap[db]? = some (dobj kb fb gv c m)) (h0 : MapF W kb nk f0) (h1 : MapF W fb nf f1) (hz : f0 k = none) (hf : f1 k = some v) (hkl : k.length ≤ 140000000) (hu : ∃ a cc, u = .slice a n cc) (hg : ∃ a n cc, gv = .slice a n cc)
    (ct : ∀ w', Grew W w' → Calls Tryd.prog 57 #[.agg #[u, .bool ex]] w' fun en w'' => ∃ s : ByteArray, en = .returned (.string s) ∧ s.data.toList = k ∧ Grew w' w'') :
    Calls Tryd.prog 41 #[.pointer (some ⟨db, 0, none⟩), .agg #[u, .bool ex]] W fun en w' => en = .returned (.tuple #[.int .i64 v, .bool true]) ∧ Grew W w' := by
  obtain ⟨ua, uc, rfl⟩ := hu
  obtain ⟨ga, gn, gc, rfl⟩ := hg
  have CT : Hid (∀ w', Grew W w' → Calls Tryd.prog 57 #[.agg #[.slice ua n uc, .bool ex]] w' fun en w'' => ∃ s : ByteArray, en = .returned (.string s) ∧ s.data.toList = k ∧ Grew w' w'') := ct
  have HD : Hid (W.heap[db]? = some (dobj kb fb (.slice ga gn gc) c m)) := hd
  have H0 : Hid (MapF W kb nk f0) := h0
  have H1 : Hid (MapF W fb nf f1) := h1
  have HV : Hid (f1 k = some v) := hf
  have HZ : Hid (f0 k = none) := hz
  clear ct hd h0 h1 hf hz
  go_enter Tryd.func41, Tryd.ntmps41
  go_wp2_with fail
  refine (CT.out _ (by first | exact Grew.refl W | exact (Grew.refl W).alloc _)).mono ?_
  rintro en w1 ⟨s, rfl, hs, g1⟩
  have G1 : Hid (Grew W w1) := by first | exact g1 | exact ((Grew.refl W).alloc _).trans g1
  have D1 := G1.out.other HD.out
  have c0 := cell_of D1 0
  have c1 := cell_of D1 1
  have c2 := cell_of D1 2
  have c3 := cell_of D1 3
  have c4 := cell_of D1 4
  simp at c0 c1 c2 c3 c4
  have hdl := lt_of_obj D1
  have hss : s.size ≤ maxLen := by
    have : s.data.toList.length = s.size := by simp
    rw [hs] at this
    unfold maxLen
    omega
  clear g1 D1 CT
  go_wp2_with fail
  go_region
  all_goals go_wp2_with fail
  all_goals
    refine wp_loop_rounds 3 ?_
    rw [rounds_succ]
    go_wp2_with (at_lookup; refine wp_look_none rfl _ _ rfl rfl (H0.out.grew (by repeat (first | exact G1.out | refine Grew.alloc ?_ _ | refine Grew.drew ?_ | refine Grew.drewN ?_ _))) hss rfl (by rw [hs]; exact HZ.out) ?_)
    rw [rounds_succ]
    go_wp2_with (at_lookup; refine wp_look_some rfl _ _ rfl rfl (H1.out.grew (by repeat (first | exact G1.out | refine Grew.alloc ?_ _ | refine Grew.drew ?_ | refine Grew.drewN ?_ _))) hss rfl (by rw [hs]; exact HV.out) ?_)
    go_ret2
    refine ⟨rfl, ?_⟩
    repeat (first | exact G1.out | refine Grew.alloc ?_ _ | refine Grew.drew ?_ | refine Grew.drewN ?_ _)
set_option maxRecDepth 100000 in
set_option maxHeartbeats 2000000 in
theorem place_no {W : World} {db kb fb nk nf : Nat} {f0 f1 : FM} {gv u : Value} {c m : Int} {k : List UInt8} {n : Nat} {ex : Bool} (hd : W.heap[db]? = some (dobj kb fb gv c m)) (h0 : MapF W kb nk f0) (h1 : MapF W fb nf f1) (hz : f0 k = none) (hf : f1 k = none) (hc0 : 0 ≤ c) (hc1 : c ≤ 4194304) (hm0 : 0 ≤ m) (hm1 : m ≤ 9223372036854775807) (hn : n ≤ 1048576) (hno : m - c < (n : Int)) (hkl : k.length ≤ 140000000) (hu : ∃ a cc, u = .slice a n cc) (hg : ∃ a n cc, gv = .slice a n cc)
    (ct : ∀ w', Grew W w' → Calls Tryd.prog 57 #[.agg #[u, .bool ex]] w' fun en w'' => ∃ s : ByteArray, en = .returned (.string s) ∧ s.data.toList = k ∧ Grew w' w'') :
    Calls Tryd.prog 41 #[.pointer (some ⟨db, 0, none⟩), .agg #[u, .bool ex]] W fun en w' => en = .returned (.tuple #[.int .i64 0, .bool false]) ∧ Grew W w' := by
  obtain ⟨ua, uc, rfl⟩ := hu
  obtain ⟨ga, gn, gc, rfl⟩ := hg
  have CT : Hid (∀ w', Grew W w' → Calls Tryd.prog 57 #[.agg #[.slice ua n uc, .bool ex]] w' fun en w'' => ∃ s : ByteArray, en = .returned (.string s) ∧ s.data.toList = k ∧ Grew w' w'') := ct
  have HD : Hid (W.heap[db]? = some (dobj kb fb (.slice ga gn gc) c m)) := hd
  have H0 : Hid (MapF W kb nk f0) := h0
  have H1 : Hid (MapF W fb nf f1) := h1
  have HV : Hid (f1 k = none) := hf
  have HZ : Hid (f0 k = none) := hz
  clear ct hd h0 h1 hf hz
  go_enter Tryd.func41, Tryd.ntmps41
  go_wp2_with fail
  refine (CT.out _ (by first | exact Grew.refl W | exact (Grew.refl W).alloc _)).mono ?_
  rintro en w1 ⟨s, rfl, hs, g1⟩
  have G1 : Hid (Grew W w1) := by first | exact g1 | exact ((Grew.refl W).alloc _).trans g1
  have D1 := G1.out.other HD.out
  have c0 := cell_of D1 0
  have c1 := cell_of D1 1
  have c2 := cell_of D1 2
  have c3 := cell_of D1 3
  have c4 := cell_of D1 4
  simp at c0 c1 c2 c3 c4
  have hdl := lt_of_obj D1
  have hss : s.size ≤ maxLen := by
    have : s.data.toList.length = s.size := by simp
    rw [hs] at this
    unfold maxLen
    omega
  have BR : w1.heap[W.heap.size]? = some (.cells #[.slice ua n uc, .bool ex] 38 (0, 0)) := g1.other (heap_alloc_last _ _)
  have r0 := cell_of BR 0
  have r1 := cell_of BR 1
  simp at r0 r1
  have hrl := lt_of_obj BR
  clear g1 D1 CT BR
  go_wp2_with fail
  go_region
  all_goals go_wp2_with fail
  all_goals
    refine wp_loop_rounds 3 ?_
    rw [rounds_succ]
    go_wp2_with (at_lookup; refine wp_look_none rfl _ _ rfl rfl (H0.out.grew (by repeat (first | exact G1.out | refine Grew.alloc ?_ _ | refine Grew.drew ?_ | refine Grew.drewN ?_ _))) hss rfl (by rw [hs]; exact HZ.out) ?_)
    rw [rounds_succ]
    go_wp2_with (at_lookup; refine wp_look_none rfl _ _ rfl rfl (H1.out.grew (by repeat (first | exact G1.out | refine Grew.alloc ?_ _ | refine Grew.drew ?_ | refine Grew.drewN ?_ _))) hss rfl (by rw [hs]; exact HV.out) ?_)
    rw [rounds_succ]
    go_wp2_with fail
    have GX : Grew w1 ((((w1.alloc (.cells #[.map (some kb), .map (some fb)] 48)).alloc (.cells #[.map (some kb)] 48)).alloc (.cells #[.map (some fb)] 48)).drew) := ((((Grew.refl w1).alloc _).alloc _).alloc _).drew
    generalize ((((w1.alloc (.cells #[.map (some kb), .map (some fb)] 48)).alloc (.cells #[.map (some kb)] 48)).alloc (.cells #[.map (some fb)] 48)).drew) = X at *
    have x3 := cell_grew c3 GX
    have x4 := cell_grew c4 GX
    have y0 := cell_grew r0 GX
    have y1 := cell_grew r1 GX
    have hxl := Nat.lt_of_lt_of_le hdl GX.2
    have hxr := Nat.lt_of_lt_of_le hrl GX.2
    have dn : decide (m - c < (n : Int)) = true := by simp; omega
    go_region
    all_goals go_wp2_with fail
    all_goals go_ret2
    all_goals refine ⟨rfl, ?_⟩
    all_goals repeat (first | exact G1.out.trans GX | refine Grew.alloc ?_ _ | refine Grew.drew ?_ | refine Grew.drewN ?_ _)
end Go.Proofs.YthchhehmbldmdaaDoor
