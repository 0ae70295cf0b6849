/-
  What the globals hold; the walk of decimal and of the library's CutPrefix; no statement is proved here.
-/
import Derived.Test.YtmcljnohdknpoaaDoorTab
import Derived.Test.YtmcljnohdknpoaaDoorNumM
import Derived.Test.YtmcljnohdknpoaaDoorLib
import Derived.Lib.AtoiErrMem
import Derived.Lib.AppendIntMem
namespace Go.Proofs.YtmcljnohdknpoaaDoor
open Go.RowKit
set_option linter.unusedVariables false
set_option linter.unusedSimpArgs false

/- The globals that are read stand as their texts lay them. -/
structure Env (w : World) : Prop where
  tabs : Tabs w
  pow : Lib.TabIs Tryd.prog w "internal/strconv.uint64pow10" .u64 Lib.pow10Tab
  syn : ∃ te pe, w.var? Tryd.prog "strconv.ErrSyntax" = some #[.iface te pe]
  rng : ∃ te pe, w.var? Tryd.prog "strconv.ErrRange" = some #[.iface te pe]
theorem pow_named : Tryd.prog.globalNamed "internal/strconv.uint64pow10" = some 3 := by kernel_rfl
theorem pow_size {w : World} (h : Lib.TabIs Tryd.prog w "internal/strconv.uint64pow10" .u64 Lib.pow10Tab) : 3 < w.heap.size :=
  pos_of_cell (h.cell pow_named 0 (by decide))
theorem syn_named : Tryd.prog.globalNamed "strconv.ErrSyntax" = some 4 := by kernel_rfl
theorem rng_named : Tryd.prog.globalNamed "strconv.ErrRange" = some 5 := by kernel_rfl
theorem var_turn {w w' : World} {S : List Nat} {n : String} {g : Nat} {v : Array Value} (hg : Tryd.prog.globalNamed n = some g) (h : w.var? Tryd.prog n = some v) (t : Turn S w w') (hS : g ∉ S) : w'.var? Tryd.prog n = some v := by
  unfold World.var? at h ⊢
  rw [hg] at h ⊢
  simp only [Option.bind_some] at h ⊢
  have hlt : g < w.heap.size := by
    rcases Nat.lt_or_ge g w.heap.size with h' | h'
    · exact h'
    · rw [Array.getElem?_eq_none h'] at h
      cases h
  rw [t.block g hlt hS]
  exact h
theorem Env.turn {w w' : World} {S : List Nat} (h : Env w) (t : Turn S w w') (hS : ∀ g ∈ S, 8 ≤ g) : Env w' := by
  have hn : ∀ g, g < 8 → g ∉ S := fun g hg hx => by have := hS g hx; omega
  refine ⟨h.tabs.turn t (hn _ (by decide)) (hn _ (by decide)), ?_, ?_, ?_⟩
  · exact var_turn pow_named h.pow t (hn _ (by decide))
  · obtain ⟨te, pe, hc⟩ := h.syn
    exact ⟨te, pe, var_turn syn_named hc t (hn _ (by decide))⟩
  · obtain ⟨te, pe, hc⟩ := h.rng
    exact ⟨te, pe, var_turn rng_named hc t (hn _ (by decide))⟩
theorem Env.grew {w w' : World} (h : Env w) (t : Grew w w') : Env w' := h.turn (t.turn []) (by simp)

theorem str_of (l : ByteArray) : (⟨l.data.toList.toArray⟩ : ByteArray) = l := by cases l; simp
theorem itoa_any {w : World} (h : Env w) (n : Int) (h0 : -9223372036854775808 ≤ n) (h1 : n ≤ 9223372036854775807) :
    Calls Tryd.prog 79 #[.int .i64 n] w fun e w' => e = .returned (.string ⟨(Lib.itoa n).toArray⟩) ∧ Grew w w' := by
  refine (Tryd.strconv_Itoa n h0 h1 w h.pow).mono ?_
  rintro e w' ⟨rfl, k, os, rfl⟩
  exact ⟨rfl, Lib.below_grow _ _ (Nat.le_refl _) _ _, Lib.size_grow _ _ _⟩
theorem Grew.of_below {w w' : World} (h : Below w.heap.size w w') : Grew w w' := ⟨h, h.size⟩
theorem atoi_ok {w : World} (s : ByteArray) (hs : s.size ≤ 65536) (v : Int) (h : Lib.atoiAll s.data.toList = .ok v) :
    Calls Tryd.prog 91 #[.string s] w fun e w' => e = .returned (.tuple #[.int .i64 v, .nilIface]) ∧ Grew w w' := by
  refine (Tryd.strconv_Atoi_ok s (by omega) v h w).mono ?_
  rintro e w' ⟨rfl, rfl | ⟨t, rfl⟩⟩
  · exact ⟨rfl, Grew.refl _⟩
  · exact ⟨rfl, Grew.of_below (Lib.bytesWorld_below _ _ _)⟩
theorem atoi_err {w : World} (he : Env w) (s : ByteArray) (hs : s.size ≤ 65536) (h : ∀ v, Lib.atoiAll s.data.toList ≠ .ok v) :
    Calls Tryd.prog 91 #[.string s] w fun e w' => ∃ (n : Int) (N : Nat), e = .returned (.tuple #[.int .i64 n, .iface 129 (.pointer (some ⟨N, 0, none⟩))]) ∧ Grew w w' := by
  cases hx : Lib.atoiAll s.data.toList
  · exact absurd hx (h _)
  · obtain ⟨te, pe, hc⟩ := he.syn
    have C : Calls Tryd.prog 91 #[.string s] w fun e w' => ∃ N, e = .returned (.tuple #[.int .i64 0, .iface 129 (.pointer (some ⟨N, 0, none⟩))]) ∧ w.heap.size ≤ N ∧ w'.heap[N]? = some (.cells #[.string ⟨#[65, 116, 111, 105]⟩, .string s, .iface te pe] 142 (0, 0)) ∧ Below w.heap.size w w' :=
      Any.strconv_Atoi_syntax_var Tryd.laysC172 s (by omega) hx te pe w hc
    refine C.mono ?_
    rintro e w' ⟨N, rfl, _, _, hb⟩
    exact ⟨0, N, rfl, Grew.of_below hb⟩
  · obtain ⟨te, pe, hc⟩ := he.rng
    have C : Calls Tryd.prog 91 #[.string s] w fun e w' => ∃ N, e = .returned (.tuple #[.int .i64 (Lib.atoiSat s.data.toList), .iface 129 (.pointer (some ⟨N, 0, none⟩))]) ∧ w.heap.size ≤ N ∧ w'.heap[N]? = some (.cells #[.string ⟨#[65, 116, 111, 105]⟩, .string s, .iface te pe] 142 (0, 0)) ∧ Below w.heap.size w w' :=
      Any.strconv_Atoi_range_var Tryd.laysC172 s (by omega) hx te pe w hc
    refine C.mono ?_
    rintro e w' ⟨N, rfl, _, _, hb⟩
    exact ⟨_, N, rfl, Grew.of_below hb⟩

theorem decimal_ok {w : World} (he : Env w) (d : ByteArray) (hs : d.size ≤ 65536) (u : Nat) (hu : num9 d.data.toList = some u) :
    Calls Tryd.prog 84 #[.string d] w fun e w' => e = .returned (.tuple #[.int .i64 (u : Int), .bool true]) ∧ Grew w w' := by
  have C := atoi_ok (w := w) d hs u (atoi_of hu)
  have hlt := (num9_inv hu).2
  have hio := itoa_of hu
  have hl : d.size ≤ 9 := by
    unfold num9 at hu
    split at hu
    · rename_i hc
      have := hc.2.1
      rwa [Array.length_toList] at this
    · cases hu
  have D : Hid (∀ w1, Grew w w1 → Calls Tryd.prog 79 #[.int .i64 (u : Int)] w1 fun e w' => e = .returned (.string d) ∧ Grew w1 w') := by
    intro w1 g
    have := itoa_any (he.grew g) (u : Int) (by omega) (by omega)
    rw [hio, str_of] at this
    exact this
  have hd1 : decide ((0 : Int) ≤ (u : Int)) = true := by simp
  have hd2 : decide ((d.size : Int) ≤ 9) = true := by simp; omega
  have hss := same_str d
  clear hu hio
  go_enter Tryd.func84, Tryd.ntmps84
  go_wp2_with fail
  refine C.mono ?_
  rintro en w1 ⟨rfl, g1⟩
  have G1 : Hid (Grew w w1) := g1
  clear g1 C
  go_wp2_with fail
  refine (D.out _ G1.out).mono ?_
  rintro en w2 ⟨rfl, g2⟩
  go_wp2_with fail
  go_ret2
  exact ⟨by simp, G1.out.trans g2⟩
theorem decimal_bad {w : World} (he : Env w) (d : ByteArray) (hs : d.size ≤ 65536) (hu : num9 d.data.toList = none) :
    Calls Tryd.prog 84 #[.string d] w fun e w' => ∃ n : Int, e = .returned (.tuple #[.int .i64 n, .bool false]) ∧ Grew w w' := by
  by_cases hok : ∃ v, Lib.atoiAll d.data.toList = .ok v
  · obtain ⟨v, hv⟩ := hok
    have C := atoi_ok (w := w) d hs v hv
    obtain ⟨b0, b1⟩ := Lib.atoiAll_bounds hv
    by_cases h0 : 0 ≤ v
    · by_cases h9 : d.size ≤ 9
      · have hne : (⟨(Lib.itoa v).toArray⟩ : ByteArray) ≠ d := by
          intro h
          have h2 : Lib.itoa v = d.data.toList := by rw [← h]
          have := num9_of h0 (by rw [Array.length_toList]; exact h9) h2
          rw [this] at hu
          cases hu
        have hoth := other_str hne
        have D : Hid (∀ w1, Grew w w1 → Calls Tryd.prog 79 #[.int .i64 v] w1 fun e w' => e = .returned (.string ⟨(Lib.itoa v).toArray⟩) ∧ Grew w1 w') := fun w1 g => itoa_any (he.grew g) v b0 b1
        have hd1 : decide ((0 : Int) ≤ v) = true := by simpa using h0
        have hd2 : decide ((d.size : Int) ≤ 9) = true := by simp; omega
        clear hu hne hv b0 b1
        generalize (⟨(Lib.itoa v).toArray⟩ : ByteArray) = x at *
        go_enter Tryd.func84, Tryd.ntmps84
        go_wp2_with fail
        refine C.mono ?_
        rintro en w1 ⟨rfl, g1⟩
        have G1 : Hid (Grew w w1) := g1
        clear g1 C
        go_wp2_with fail
        refine (D.out _ G1.out).mono ?_
        rintro en w2 ⟨rfl, g2⟩
        go_wp2_with fail
        go_ret2
        exact ⟨v, by simp, G1.out.trans g2⟩
      · have hd1 : decide ((0 : Int) ≤ v) = true := by simpa using h0
        have hd2 : decide ((d.size : Int) ≤ 9) = false := by simp; omega
        clear hu hv b0 b1
        go_enter Tryd.func84, Tryd.ntmps84
        go_wp2_with fail
        refine C.mono ?_
        rintro en w1 ⟨rfl, g1⟩
        have G1 : Hid (Grew w w1) := g1
        clear g1 C
        go_wp2_with fail
        go_ret2
        exact ⟨v, by simp, G1.out⟩
    · have hd1 : decide ((0 : Int) ≤ v) = false := by simpa using h0
      clear hu hv b0 b1
      go_enter Tryd.func84, Tryd.ntmps84
      go_wp2_with fail
      refine C.mono ?_
      rintro en w1 ⟨rfl, g1⟩
      have G1 : Hid (Grew w w1) := g1
      clear g1 C
      go_wp2_with fail
      go_ret2
      exact ⟨v, by simp, G1.out⟩
  · have C := atoi_err he d hs (fun v h => hok ⟨v, h⟩)
    clear hu hok
    go_enter Tryd.func84, Tryd.ntmps84
    go_wp2_with fail
    refine C.mono ?_
    rintro en w1 ⟨n, N, rfl, g1⟩
    have G1 : Hid (Grew w w1) := g1
    clear g1 C
    go_wp2_with fail
    go_ret2
    exact ⟨n, by simp, G1.out⟩
end Go.Proofs.YtmcljnohdknpoaaDoor
