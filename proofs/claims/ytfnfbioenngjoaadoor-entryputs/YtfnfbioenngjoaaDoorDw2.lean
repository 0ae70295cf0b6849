/-
  The document's writer: the walks of many, index, flag, code, heap; no statement is proved here.
-/
import Derived.Test.YtfnfbioenngjoaaDoorDw1
import Derived.Test.YtfnfbioenngjoaaDoorDRd
namespace Go.Proofs.YtfnfbioenngjoaaDoor
open Go.RowKit
set_option linter.unusedVariables false
set_option linter.unusedSimpArgs false
set_option linter.constructorNameAsVariable false

theorem thenW_err (a b : Except Nat (List Int)) (k : Nat) : thenW (thenW a (.error k)) b = thenW a (.error k) := by
  cases a <;> rfl
theorem thenW_okk (a : Except Nat (List Int)) (r s : List Int) : thenW (thenW a (.ok r)) (.ok s) = thenW a (.ok (r ++ s)) := by
  cases a with
  | ok m => simp [thenW]
  | error e => rfl
theorem thenW_no (a b : Except Nat (List Int)) (k : Nat) : thenW (thenW a (needW false k)) b = thenW a (.error k) := thenW_err a b k
theorem thenW_yes (a : Except Nat (List Int)) (k : Nat) : thenW a (needW true k) = a := thenW_nil a
set_option maxRecDepth 100000 in
set_option maxHeartbeats 1000000 in
theorem dwIndex_any {b B : Nat} {w : World} {st : Except Nat (List Int)} {N : Nat} (h : DW b B w st N) (n : Int) (hn0 : -9223372036854775808 ≤ n) (hn1 : n ≤ 9223372036854775807) (hN : N ≤ 17592186044416) :
    Calls Tryd.prog 19 #[.pointer (some ⟨b, 0, none⟩), .int .i64 n] w (DA b B w (thenW st (uidxW n)) (N + 11)) := by
  by_cases h0 : 0 ≤ n
  · by_cases h1 : n ≤ 2147483647
    · have d0 : decide (0 ≤ n) = true := by simpa using h0
      have cv : IntKind.u64.wrap n = n := by rw [IntKind.wrap_u64]; omega
      have d1 : decide (n < 2147483648) = true := by simp; omega
      have E : Hid (thenW (thenW st (needW true 4)) (.ok (PU n)) = thenW st (uidxW n)) := by show _ = _; rw [thenW_yes, uidxW, if_pos ⟨h0, h1⟩]
      have S0 : Hid (DW b B w st N) := h
      have T0 : Hid (WT b B w w) := WT.refl _ _ _
      have hb : b < w.heap.size := h.blt
      clear h
      go_enter Tryd.func19, Tryd.ntmps19
      go_wp2_with fail
      refine (must_any S0.out true 4 (by decide)).mono ?_
      rintro en w1 ⟨rfl, t1, s1⟩
      have T1 : Hid (WT b B w w1) := T0.out.trans t1
      have S1 : Hid (DW b B w1 (thenW (st) (needW true 4)) (N)) := s1
      clear t1 s1 T0 S0
      go_wp2_with fail
      refine (du_any S1.out n (by omega) (by omega) hN).mono ?_
      rintro en w2 ⟨rfl, t2, s2⟩
      have T2 : Hid (WT b B w w2) := T1.out.trans t2
      have S2 : Hid (DW b B w2 (thenW (thenW st (needW true 4)) (.ok (PU n))) (N + 11)) := s2
      clear t2 s2 T1 S1
      go_wp2_with fail
      go_end0
      exact ⟨rfl, T2.out, by rw [← (E.out : thenW (thenW st (needW true 4)) (.ok (PU n)) = _)]; exact S2.out.mono (by omega)⟩
    · have d0 : decide (0 ≤ n) = true := by simpa using h0
      have cv : IntKind.u64.wrap n = n := by rw [IntKind.wrap_u64]; omega
      have d1 : decide (n < 2147483648) = false := by simp; omega
      have E : Hid (thenW (thenW st (needW false 4)) (.ok (PU n)) = thenW st (uidxW n)) := by show _ = _; rw [thenW_no, uidxW, if_neg (by omega)]
      have S0 : Hid (DW b B w st N) := h
      have T0 : Hid (WT b B w w) := WT.refl _ _ _
      have hb : b < w.heap.size := h.blt
      clear h
      go_enter Tryd.func19, Tryd.ntmps19
      go_wp2_with fail
      refine (must_any S0.out false 4 (by decide)).mono ?_
      rintro en w1 ⟨rfl, t1, s1⟩
      have T1 : Hid (WT b B w w1) := T0.out.trans t1
      have S1 : Hid (DW b B w1 (thenW (st) (needW false 4)) (N)) := s1
      clear t1 s1 T0 S0
      go_wp2_with fail
      refine (du_any S1.out n (by omega) (by omega) hN).mono ?_
      rintro en w2 ⟨rfl, t2, s2⟩
      have T2 : Hid (WT b B w w2) := T1.out.trans t2
      have S2 : Hid (DW b B w2 (thenW (thenW st (needW false 4)) (.ok (PU n))) (N + 11)) := s2
      clear t2 s2 T1 S1
      go_wp2_with fail
      go_end0
      exact ⟨rfl, T2.out, by rw [← (E.out : thenW (thenW st (needW false 4)) (.ok (PU n)) = _)]; exact S2.out.mono (by omega)⟩
  · have d0 : decide (0 ≤ n) = false := by simpa using h0
    have E : Hid (thenW st (needW false 4) = thenW st (uidxW n)) := by show _ = _; rw [uidxW, if_neg (by omega)]; rfl
    have S0 : Hid (DW b B w st N) := h
    have T0 : Hid (WT b B w w) := WT.refl _ _ _
    have hb : b < w.heap.size := h.blt
    clear h
    go_enter Tryd.func19, Tryd.ntmps19
    go_wp2_with fail
    refine (must_any S0.out false 4 (by decide)).mono ?_
    rintro en w1 ⟨rfl, t1, s1⟩
    have T1 : Hid (WT b B w w1) := T0.out.trans t1
    have S1 : Hid (DW b B w1 (thenW (st) (needW false 4)) (N)) := s1
    clear t1 s1 T0 S0
    go_wp2_with fail
    go_end0
    exact ⟨rfl, T1.out, by rw [← (E.out : thenW (st) (needW false 4) = _)]; exact S1.out.mono (by omega)⟩
set_option maxRecDepth 100000 in
set_option maxHeartbeats 1000000 in
theorem dwFlag_any {b B : Nat} {w : World} {st : Except Nat (List Int)} {N : Nat} (h : DW b B w st N) (x : Bool) (hN : N ≤ 17592186044416) :
    Calls Tryd.prog 37 #[.pointer (some ⟨b, 0, none⟩), .bool x] w (DA b B w (thenW st (.ok (flagB x))) (N + 1)) := by
  cases x with
  | true =>
    have S0 : Hid (DW b B w st N) := h
    have T0 : Hid (WT b B w w) := WT.refl _ _ _
    have hb : b < w.heap.size := h.blt
    clear h
    go_enter Tryd.func37, Tryd.ntmps37
    obtain ⟨o0, e0, l0, h10, h20, h30, h40⟩ := S0.out.ex
    obtain ⟨oa0, oc0, rfl⟩ := row_one h20
    have c00 := cell_of h10 0
    simp at c00
    have R0 : Hid (w.ownsRow B 5 1 (.slice oa0 l0.length oc0) l0.length (U8 l0)) := h20
    have O0 : Hid (w.heap[b]? = some (dob (.slice oa0 l0.length oc0) e0)) := h10
    have E0 : Hid (StE (st) l0 e0) := h40
    have hlb0 : b < B := S0.out.lt
    have hBl0 : B ≤ w.heap.size := S0.out.le
    clear h10 h20 h40
    go_wp2_with (
      at_builtin
      refine wp_appG (w := (w.alloc (.cells #[.int .u8 1] 5))) (v := .slice oa0 l0.length oc0) (u := .slice (some ⟨w.heap.size, 0, none⟩) 1 1) (r := [1]) rfl _ _ rfl rfl rfl (World.ownsRow.alloc R0.out _) (by simp; omega) (reads_new _ _ _) (by simp; omega) ?_
      intro v1 x1 ho1 hg1
      obtain ⟨a1, cc1, hv1⟩ := row_one ho1
      rw [List.length_append] at hv1
      subst hv1
      have A1 := dw_app (b := b) (B := B) (w := (w.alloc (.cells #[.int .u8 1] 5))) (st := st) (N := N) (r := [1]) (heap_alloc O0.out _) (World.ownsRow.alloc R0.out _) h30 E0.out hlb0 (by simp; omega) ho1 hg1
      have q1 := cell_of A1.1 0
      have z1 := free_of A1.1 0
      simp at q1
      have HA1 : Hid (WT b B (w.alloc (.cells #[.int .u8 1] 5)) (x1.setCell ⟨b, 0, none⟩ (.slice a1 (l0.length + [(1 : Int)].length) cc1)) ∧ DW b B (x1.setCell ⟨b, 0, none⟩ (.slice a1 (l0.length + [(1 : Int)].length) cc1)) (thenW (st) (.ok [1])) (N + [(1 : Int)].length)) := A1.2
      have tt1 := A1.2.1
      clear A1 hg1 ho1 tt1 )
    have T1 : Hid (WT b B w (x1.setCell ⟨b, 0, none⟩ (.slice a1 (l0.length + 1) cc1))) := (T0.out.trans (WT.of_grew ((Grew.refl _).alloc _))).trans HA1.out.1
    have S1 : Hid (DW b B (x1.setCell ⟨b, 0, none⟩ (.slice a1 (l0.length + 1) cc1)) (thenW (st) (.ok [1])) (N + 1)) := HA1.out.2
    clear HA1 q1 z1 T0 S0 c00 R0 O0 E0 hlb0 hBl0 h30
    go_end0
    exact ⟨rfl, T1.out, S1.out.mono (by omega)⟩
  | false =>
    have S0 : Hid (DW b B w st N) := h
    have T0 : Hid (WT b B w w) := WT.refl _ _ _
    have hb : b < w.heap.size := h.blt
    clear h
    go_enter Tryd.func37, Tryd.ntmps37
    obtain ⟨o0, e0, l0, h10, h20, h30, h40⟩ := S0.out.ex
    obtain ⟨oa0, oc0, rfl⟩ := row_one h20
    have c00 := cell_of h10 0
    simp at c00
    have R0 : Hid (w.ownsRow B 5 1 (.slice oa0 l0.length oc0) l0.length (U8 l0)) := h20
    have O0 : Hid (w.heap[b]? = some (dob (.slice oa0 l0.length oc0) e0)) := h10
    have E0 : Hid (StE (st) l0 e0) := h40
    have hlb0 : b < B := S0.out.lt
    have hBl0 : B ≤ w.heap.size := S0.out.le
    clear h10 h20 h40
    go_wp2_with (
      at_builtin
      refine wp_appG (w := (w.alloc (.cells #[.int .u8 0] 5))) (v := .slice oa0 l0.length oc0) (u := .slice (some ⟨w.heap.size, 0, none⟩) 1 1) (r := [0]) rfl _ _ rfl rfl rfl (World.ownsRow.alloc R0.out _) (by simp; omega) (reads_new _ _ _) (by simp; omega) ?_
      intro v1 x1 ho1 hg1
      obtain ⟨a1, cc1, hv1⟩ := row_one ho1
      rw [List.length_append] at hv1
      subst hv1
      have A1 := dw_app (b := b) (B := B) (w := (w.alloc (.cells #[.int .u8 0] 5))) (st := st) (N := N) (r := [0]) (heap_alloc O0.out _) (World.ownsRow.alloc R0.out _) h30 E0.out hlb0 (by simp; omega) ho1 hg1
      have q1 := cell_of A1.1 0
      have z1 := free_of A1.1 0
      simp at q1
      have HA1 : Hid (WT b B (w.alloc (.cells #[.int .u8 0] 5)) (x1.setCell ⟨b, 0, none⟩ (.slice a1 (l0.length + [(0 : Int)].length) cc1)) ∧ DW b B (x1.setCell ⟨b, 0, none⟩ (.slice a1 (l0.length + [(0 : Int)].length) cc1)) (thenW (st) (.ok [0])) (N + [(0 : Int)].length)) := A1.2
      have tt1 := A1.2.1
      clear A1 hg1 ho1 tt1 )
    have T1 : Hid (WT b B w (x1.setCell ⟨b, 0, none⟩ (.slice a1 (l0.length + 1) cc1))) := (T0.out.trans (WT.of_grew ((Grew.refl _).alloc _))).trans HA1.out.1
    have S1 : Hid (DW b B (x1.setCell ⟨b, 0, none⟩ (.slice a1 (l0.length + 1) cc1)) (thenW (st) (.ok [0])) (N + 1)) := HA1.out.2
    clear HA1 q1 z1 T0 S0 c00 R0 O0 E0 hlb0 hBl0 h30
    go_end0
    exact ⟨rfl, T1.out, S1.out.mono (by omega)⟩
end Go.Proofs.YtfnfbioenngjoaaDoor
