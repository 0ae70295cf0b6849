/-
  The program's text of a rolled up group; no statement is proved here.
-/
import Derived.Test.YtojkonoffdlbpaaDoorCSub
import Derived.Laws.IdiomStrings
namespace Go.Proofs.YtojkonoffdlbpaaDoor
open Go.RowKit
set_option linter.unusedVariables false
set_option linter.unusedSimpArgs false

/- Bytes, as cells. -/
def Byt (cs : List Value) : Prop := ∃ l : List UInt8, cs = Lib.byteCells l
theorem Byt.app {a b : List Value} (h : Byt a) (k : Byt b) : Byt (a ++ b) := by
  obtain ⟨x, rfl⟩ := h
  obtain ⟨y, rfl⟩ := k
  exact ⟨x ++ y, by simp [Lib.byteCells]⟩
theorem Byt.flat {α : Type} {f : α → List Value} (h : ∀ a, Byt (f a)) : ∀ l : List α, Byt (l.flatMap f)
  | [] => ⟨[], rfl⟩
  | a :: r => by rw [List.flatMap_cons]; exact (h a).app (Byt.flat h r)
theorem byt_num (n : Int) : Byt (numC n) := ⟨Lib.itoa n ++ [32], by simp [numC, Lib.byteCells]⟩
theorem byt_flag (b : Bool) : Byt (flagC b) := byt_num _
theorem byt_val (x : VT) : Byt x.t := ((byt_num _).app (byt_flag _)).app (byt_num _)
theorem byt_field (x : FT) : Byt x.t := (byt_flag _).app (byt_val _)
theorem byt_sub (x : SB) : Byt x.t := (((((byt_flag _).app ((byt_num _).app (Byt.flat byt_num _))).app (byt_num _)).app ((byt_num _).app (Byt.flat byt_val _))).app ((byt_num _).app (Byt.flat byt_val _))).app ((byt_num _).app (Byt.flat byt_field _))
theorem byt_subs (l : List SB) : Byt (l.flatMap SB.t) := Byt.flat byt_sub l
theorem conv_nil (w : World) : (convert 95 9 (.slice none 0 0)).run Tryd.prog w = .ok (.string ⟨#[]⟩) w := by
  rw [run_convert_bytes_string w 95 9 5 none 0 0 Tryd.underlying95 Tryd.underlying5 Tryd.underlying9]
  rfl
set_option maxRecDepth 100000 in
set_option maxHeartbeats 1000000 in
theorem text_any {w : World} {tv : Value} {l : List SB} {ex : Bool} (h : LS w tv l) (hl : l.length ≤ 1048576) (hm : ∀ x ∈ l, Sml x) (hg : ∀ x ∈ l, Rng x) (ht : Lib.TabIs Tryd.prog w "internal/strconv.uint64pow10" .u64 Lib.pow10Tab) (hb : (l.flatMap SB.t).length ≤ 140737480000000) :
    Calls Tryd.prog 52 #[.agg #[tv, .bool ex]] w fun en w' => ∃ s : ByteArray, en = .returned (.string s) ∧ Lib.byteCells s.data.toList = l.flatMap SB.t ∧ Grew w w' := by
  obtain ⟨a, cap, hv, hcap, hmax⟩ := h.one
  subst hv
  have H : Hid (LS w (.slice a l.length cap) l) := h
  have CC : Hid (∀ x ∈ l, ∀ sv pv rv fv, SubR w x sv pv rv fv → Writes (w.heap.size + 1) w.heap.size 55 #[.pointer (some ⟨w.heap.size + 1, 0, none⟩), .agg #[.bool x.final_, sv, .int .i64 x.comp.kind, pv, rv, fv]] w x.t) := fun x hx sv pv rv fv hr => sub_wr hr (hm x hx) (hg x hx)
  have HTab : Hid (Lib.TabBelow Tryd.prog w.heap.size w "internal/strconv.uint64pow10" .u64 Lib.pow10Tab) := Lib.tabBelow_of_tabIs ht
  clear h hm hg ht
  go_enter Tryd.func52, Tryd.ntmps52
  go_wp2_with fail
  generalize hW : ((w.alloc (.cells #[.slice a l.length cap, .bool ex] 47)).alloc (.cells #[.slice none 0 0] 97)) = W
  have G0 : Grew w W := by rw [← hW]; exact ((Grew.refl w).alloc _).alloc _
  have A1 : BX W (w.heap.size + 1) 97 (.slice none 0 0) := by
    rw [← hW, ← alloc_size w (.cells #[.slice a l.length cap, .bool ex] 47)]
    exact heap_alloc_last _ _
  clear hW
  have T0 : Hid (WrT (w.heap.size + 1) w.heap.size w W) := WrT.of_grew G0 (Nat.le_refl _)
  have S0 : Hid (WrS (w.heap.size + 1) w.heap.size W []) := ⟨⟨_, A1, World.ownsRow_nil _ _ _ _⟩, by omega, HTab.out.on G0.1⟩
  clear G0 A1 HTab
  go_loopw [11] (fun i_ w2 => ∃ i : Nat, i_ = .int .i64 i ∧ i ≤ l.length ∧ Hid (WrS (w.heap.size + 1) w.heap.size w2 ((l.take i).flatMap SB.t)) ∧ Hid (WrT (w.heap.size + 1) w.heap.size w w2)) (fun i_ _ => l.length - (intOf i_).toNat)
  case atStart => exact ⟨0, rfl, Nat.zero_le _, by simpa using S0, T0⟩
  case round =>
    obtain ⟨i, rfl, hi, S2, T2⟩ := hrel
    obtain ⟨w0, hw0⟩ : ∃ w0, w0 = wr := ⟨_, rfl⟩
    rw [← hw0] at S2 T2 ⊢
    clear hw0
    have g2 : Grew w w0 := ⟨T2.out.1, T2.out.2.2⟩
    by_cases hlt : i < l.length
    · obtain ⟨x, hx⟩ : ∃ x, l[i]? = some x := ⟨_, List.getElem?_eq_getElem hlt⟩
      obtain ⟨b, off, ha, hc', hE⟩ := H.out.get (by omega)
      subst ha
      obtain ⟨sv, pv, rv, fv, hSR, c0, c1, c2, c3, c4, c5⟩ := hE i x hx
      clear hE
      have k0 := cell_grew c0 g2
      have k1 := cell_grew c1 g2
      have k2 := cell_grew c2 g2
      have k3 := cell_grew c3 g2
      have k4 := cell_grew c4 g2
      have k5 := cell_grew c5 g2
      have d1 : decide ((i : Int) < (l.length : Int)) = true := by simp; omega
      have d2 : decide (i < l.length) = true := by simp; omega
      have ht : (l.take (i + 1)).flatMap SB.t = (l.take i).flatMap SB.t ++ SB.t x := by rw [take_snoc hx, List.flatMap_append]; simp
      have hle : ((l.take (i + 1)).flatMap SB.t).length ≤ (l.flatMap SB.t).length := by
        have e : l.flatMap SB.t = (l.take (i + 1)).flatMap SB.t ++ (l.drop (i + 1)).flatMap SB.t := by rw [← List.flatMap_append, List.take_append_drop]
        rw [e, List.length_append]; omega
      have hle' := hle
      rw [ht, List.length_append] at hle'
      have hB2 := S2.out.le
      have C : Hid (∀ W, Grew w0 W → Calls Tryd.prog 55 #[.pointer (some ⟨w.heap.size + 1, 0, none⟩), .agg #[.bool x.final_, sv, .int .i64 x.comp.kind, pv, rv, fv]] W fun en w'' => en = .returned UNIT ∧ WrS (w.heap.size + 1) w.heap.size w'' ((l.take (i + 1)).flatMap SB.t) ∧ WrT (w.heap.size + 1) w.heap.size w0 w'') := fun W g => by
        refine Calls.mono (CC.out x (List.mem_of_getElem? hx) sv pv rv fv hSR W _ (T2.out.trans (WrT.of_grew g hB2)) (S2.out.grew g) (by omega)) ?_
        rintro en w'' ⟨he, h1, h2⟩
        exact ⟨he, by rw [ht]; exact h1, (WrT.of_grew g hB2).trans h2⟩
      obtain ⟨hs, hp, hr, hf⟩ := hSR
      obtain ⟨sa, scap, rfl, _, _⟩ := hs.one
      obtain ⟨pa, pcap, rfl, _, _⟩ := hp.one
      obtain ⟨ra, rcap, rfl, _, _⟩ := hr.one
      obtain ⟨fa, fcap, rfl, _, _⟩ := hf.one
      obtain ⟨tt, htt⟩ : ∃ tt, tt = (l.take (i + 1)).flatMap SB.t := ⟨_, rfl⟩
      have HTT : Hid (tt = (l.take (i + 1)).flatMap SB.t) := htt
      rw [← htt] at C ht hle
      clear htt
      obtain ⟨fin, sup, ⟨kind, ps, rs, fs⟩⟩ := x
      simp only at *
      clear hx ht hle g2 hs hp hr hf c0 c1 c2 c3 c4 c5
      go_wp2_with fail
      refine Calls.mono (C.out _ ((Grew.refl _).alloc _)) ?_
      rintro en w5 ⟨rfl, S5, T5⟩
      have HS5 : Hid (WrS (w.heap.size + 1) w.heap.size w5 tt) := S5
      have HT5 : Hid (WrT (w.heap.size + 1) w.heap.size w w5) := T2.out.trans T5
      clear S5 T5 C
      go_wp2_with fail
      go_roundw
      case rel => exact ⟨i + 1, by go_num, by omega, HTT.out ▸ HS5, HT5⟩
      case measure => simp [intOf]; omega
    · have d1 : decide ((i : Int) < (l.length : Int)) = false := by simp; omega
      have hin : l.take i = l := List.take_of_length_le (by omega)
      rw [hin] at S2
      obtain ⟨bs, hbs⟩ := byt_subs l
      have HBS : Hid (l.flatMap SB.t = Lib.byteCells bs) := hbs
      rw [hbs] at S2
      have hln : (Lib.byteCells bs).length = bs.length := by simp [Lib.byteCells]
      obtain ⟨⟨v, hbx, hr⟩, _, _⟩ := S2.out
      rw [hln] at hr
      have c0 := cell_of hbx 0
      simp at c0
      have hlb := lt_of_obj hbx
      have hr' := hr
      obtain ⟨hr1, ⟨hvn, hn0⟩ | ⟨g, cap', cur, hvv, hr3⟩⟩ := hr'
      · subst hvn
        have hcv := conv_nil w0
        have e : bs = [] := List.eq_nil_of_length_eq_zero (by omega)
        subst e
        clear S2 hbx hr hr1 hbs
        go_wp2_with fail
        go_ret
        exact ⟨_, rfl, by rw [HBS.out], g2⟩
      · subst hvv
        have hcv := run_convert_bytes_back (P := Tryd.prog) w0 95 9 5 ⟨g, 0, none⟩ cap' bs Tryd.underlying95 Tryd.underlying5 Tryd.underlying9 (fun j hj => hr.cells (g := g) rfl j _ (by simp [Lib.byteCells, hj]))
        clear S2 hbx hr hr1 hbs hr3
        go_wp2_with fail
        go_ret
        exact ⟨_, rfl, by rw [HBS.out], g2⟩
end Go.Proofs.YtojkonoffdlbpaaDoor
