/-
  The walk of runOf; no statement is proved here.
-/
import Derived.Test.YtohapnninjdlfaaGreatDoorRowM
import Derived.Test.YtohapnninjdlfaaGreatDoorInM
import Derived.Great.Walk
import Derived.Lib.OthersKept
import Derived.Deep.LoopGhost
namespace Go.Proofs.YtohapnninjdlfaaGreatDoor
open Go.RowKit
set_option linter.unusedVariables false
set_option linter.unusedSimpArgs false

def BA (l : List UInt8) : ByteArray := ⟨l.toArray⟩
def c3 (r : Int × List UInt8 × List UInt8) : List Value := [.int .i64 r.1, .string (BA r.2.1), .string (BA r.2.2)]
def c4 (r : Int × List UInt8 × List UInt8 × List UInt8) : List Value := [.int .i64 r.1, .string (BA r.2.1), .string (BA r.2.2.1), .string (BA r.2.2.2)]
def RUNS : Array Value := (RL.flatMap c3).toArray
def TABS : Array Value := (TL.flatMap c4).toArray
def REFS : Array Value := (XL.flatMap c4).toArray
set_option maxRecDepth 100000 in
set_option maxHeartbeats 1000000 in
theorem runs_any (w : World) : Calls Tryz.prog 65 #[] w fun e w' => e = .returned (.slice (some ⟨w.heap.size, 0, none⟩) 30 30) ∧ w' = w.alloc (.cells RUNS 88) := by
  go_enter Tryz.func65, Tryz.ntmps65
  go_wp2_with (refine wpList_buildSliceTo rfl 109 88 30 _ rfl w.heap.size rfl _ rfl Tryz.underlying109 RUNS (by kernel_rfl) ?_)
  go_ret
  exact ⟨rfl, rfl⟩
end Go.Proofs.YtohapnninjdlfaaGreatDoor

namespace Go.Proofs.YtohapnninjdlfaaGreatDoor
open Go.RowKit
set_option linter.unusedVariables false
set_option linter.unusedSimpArgs false

theorem BA_size (l : List UInt8) : (BA l).size = l.length := by simp [BA, ByteArray.size]
theorem BA_get (l : List UInt8) (k : Nat) (h : k < (BA l).size) : (BA l)[k]'h = l[k]'(by rw [← BA_size]; exact h) := by
  rfl
theorem BA_app (a b : List UInt8) : BA a ++ BA b = BA (a ++ b) := by
  simp [BA, ByteArray.mk_append_mk]
theorem BA_extract (l : List UInt8) (a b : Nat) : (BA l).extract a b = BA ((l.take b).drop a) := by
  apply ByteArray.ext
  simp [BA, ByteArray.data_extract, List.drop_take]
theorem iter_own {w : World} {B e size n : Nat} {v : Value} {xs : List Value} {k : Nat} {s : ByteArray} {pos : Nat} (h : w.ownsRow B e size v n xs) (hk : w.heap[k]? = some (.stringIter s pos)) (pos' : Nat) : (w.iterAt k s pos').ownsRow B e size v n xs := by
  refine ⟨h.1, ?_⟩
  rcases h.2 with h0 | ⟨g, cap, cur, hv, hb, hg, rest⟩
  · exact .inl h0
  · refine .inr ⟨g, cap, cur, hv, hb, ?_, rest⟩
    rw [Lib.iterAt_other _ _ _ _ _ (fun e => by subst e; rw [hk] at hg; cases hg)]
    exact hg
theorem iter_ne {w : World} {B e size n : Nat} {v : Value} {xs : List Value} {k : Nat} {s : ByteArray} {pos : Nat} (h : w.ownsRow B e size v n xs) (hk : w.heap[k]? = some (.stringIter s pos)) : some k ≠ v.ownBlock := by
  rcases h.2 with ⟨rfl, _⟩ | ⟨g, cap, cur, rfl, hb, hg, rest⟩
  · simp [Value.ownBlock]
  · intro e
    simp only [Value.ownBlock, Option.some.injEq] at e
    subst e
    rw [hk] at hg
    cases hg
def ST (x : List UInt8) : Value := .string (BA x)
theorem cut_step {s : List UInt8} {pos st : Nat} {c : UInt8} (h : pos < s.length) (hc : s[pos]'h = c) (hst : st ≤ pos) (h32 : c ≠ 32) : cutW (s.drop pos) ((s.take pos).drop st) = cutW (s.drop (pos + 1)) ((s.take (pos + 1)).drop st) := by
  rw [List.drop_eq_getElem_cons h, cutW, hc, if_neg h32]
  congr 1
  rw [List.take_succ_eq_append_getElem h, hc, List.drop_append_of_le_length (by simp; omega)]
theorem cut_word {s : List UInt8} {pos st : Nat} {c : UInt8} (h : pos < s.length) (hc : s[pos]'h = c) (h32 : c = 32) : cutW (s.drop pos) ((s.take pos).drop st) = (s.take pos).drop st :: cutW (s.drop (pos + 1)) ((s.take (pos + 1)).drop (pos + 1)) := by
  rw [List.drop_eq_getElem_cons h, cutW, hc, if_pos h32]
  congr 2
  rw [List.drop_eq_nil_of_le (by simp; omega)]
set_option maxRecDepth 100000 in
set_option maxHeartbeats 1000000 in
theorem cut_any (s : List UInt8) (hs : ∀ c ∈ s, c.toNat < 128) (hl : s.length ≤ 60000) (w : World) :
    Calls Tryz.prog 37 #[.string (BA s)] w fun e w' => ∃ v, e = .returned v ∧ w'.ownsRow w.heap.size 9 1 v (cutW s []).length ((cutW s []).map ST) ∧ Grew w w' := by
  obtain ⟨U, hU⟩ : ∃ U, U = BA (s ++ [32]) := ⟨_, rfl⟩
  have HU : Hid (U = BA (s ++ [32])) := hU
  have hUs : U.size = s.length + 1 := by rw [hU, BA_size]; simp
  have hadd : (Op.stringOp .add (BA s) ⟨#[32]⟩).run Tryz.prog w = .ok (.string U) w := by
    rw [run_string_add_sum w _ _ (by rw [BA_size]; show s.length + 1 ≤ _; omega)]
    show Result.ok (Value.string (BA s ++ BA [32])) w = _
    rw [BA_app, hU]
  have HB : Hid (∀ (st pos : Nat) (W : World), st ≤ pos → pos ≤ s.length → (Instr.slice 9 (.string (BA s)) (some (.int .i64 (st : Int))) (some (.int .i64 (pos : Int))) none).run Tryz.prog W = .ok (ST ((s.take pos).drop st)) W) := by
    intro st pos W h1 h2
    rw [run_slice_string W 9 (BA s) .i64 .i64 st pos Tryz.underlying9 (by omega) (by omega) (by rw [BA_size]; omega)]
    simp [ST, BA_extract]
  have HC : Hid (∀ (pos : Nat) (h : pos < U.size), (U[pos]'h).toNat < 128 ∧ ∀ (h' : pos < s.length), U[pos]'h = s[pos]'h') := by
    intro pos h
    subst hU
    rw [BA_get]
    refine ⟨?_, fun h' => by rw [List.getElem_append_left h']⟩
    by_cases h' : pos < s.length
    · rw [List.getElem_append_left h']; exact hs _ (List.getElem_mem h')
    · rw [List.getElem_append_right (by omega)]; simp
  have HL : Hid (∀ (h : s.length < U.size), U[s.length]'h = 32) := by
    intro h
    subst hU
    rw [BA_get, List.getElem_append_right (by omega)]; simp
  obtain ⟨S, hS⟩ : ∃ S, BA s = S := ⟨_, rfl⟩
  rw [hS] at hadd HB ⊢
  have HT : Hid (cutW s [] = cutW s []) := rfl
  obtain ⟨R, hR⟩ : ∃ R, cutW s [] = R := ⟨_, rfl⟩
  have HR : Hid (cutW s [] = R) := hR
  rw [hR]
  clear hR HT hU hS hs
  go_enter Tryz.func37, Tryz.ntmps37
  go_wp2
  go_loopg [3, 4] (s.length + 1) (fun gf s3 s4 wx => ∃ (pos st : Nat) (acc : List (List UInt8)), s4 = .int .i64 st ∧ wx.ownsRow w.heap.size 9 1 s3 acc.length (acc.map ST) ∧ wx.heap[w.heap.size]? = some (.stringIter U pos) ∧ Below w.heap.size w wx ∧
    pos + gf = s.length + 1 ∧ acc.length ≤ pos ∧ (pos ≤ s.length → st ≤ pos ∧ acc ++ cutW (s.drop pos) ((s.take pos).drop st) = R) ∧ (pos = s.length + 1 → acc = R))
  case atStart =>
    exact ⟨0, 0, [], rfl, World.ownsRow_nil _ _ _ _, World.iter_heap w U 0, (Below.refl _ w).alloc (Nat.le_refl _) _, by omega, by simp, fun _ => ⟨Nat.le_refl _, by simpa using HR.out⟩, fun h => by omega⟩
  case round =>
    obtain ⟨pos, st, acc, rfl, hown, hit, hbw, hfu, hal, hin, hend⟩ := hrel
    by_cases hlt : pos < U.size
    · obtain ⟨g', rfl⟩ : ∃ g', gk = g' + 1 := ⟨gk - 1, by omega⟩
      obtain ⟨ha, hc0⟩ := HC.out pos hlt
      have hnx : ∀ ty, (Instr.next (.pointer (some ⟨w.heap.size, 0, none⟩)) true ty).run Tryz.prog wr = _ := fun ty => Lib.run_next_ascii_at wr w.heap.size U pos ty hit hlt ha
      obtain ⟨hst, hcut⟩ := hin (by omega)
      have hsl := fun W => HB.out st pos W hst (by omega)
      have hit2 : Hid _ := Lib.iterAt_heap wr w.heap.size U pos (pos + 1) hit
      have hbw2 : Hid _ := Lib.below_iterAt hbw (k := w.heap.size) (Nat.le_refl _) U (pos + 1)
      have hown2 := iter_own hown hit (pos + 1)
      obtain ⟨c, hc⟩ : ∃ c, U[pos]'hlt = c := ⟨_, rfl⟩
      have HCc : Hid (∀ (h' : pos < s.length), s[pos]'h' = c) := fun h' => (hc0 h').symm.trans hc
      have HLc : Hid (pos = s.length → c = 32) := fun h' => by subst h'; rw [← hc]; exact HL.out hlt
      have HCUT : Hid (acc ++ cutW (s.drop pos) ((s.take pos).drop st) = R) := hcut
      rw [hc] at hnx ha
      obtain ⟨W, hWd⟩ : ∃ W, wr.iterAt w.heap.size U (pos + 1) = W := ⟨_, rfl⟩
      rw [hWd] at hnx hit2 hbw2 hown2
      obtain ⟨Y, hY⟩ : ∃ Y, BA ((s.take pos).drop st) = Y := ⟨_, rfl⟩
      have HY : Hid (BA ((s.take pos).drop st) = Y) := hY
      unfold ST at hsl
      rw [hY] at hsl
      clear hown hit hbw hin hend hc0 hcut hY HR HB HC HL hadd hc hWd
      by_cases h32 : c = 32
      · have h32n : (c.toNat : Int) = 32 := by rw [h32]; rfl
        go_wp2_with (at_builtin; refine wp_app1 rfl (.tmp 16) (.tmp 21) 90 9 1 16 (.string ⟨#[]⟩) Tryz.underlying90 (by kernel_rfl) rfl (by decide) (by decide) rfl w.heap.size rfl rfl hown2 (by have := hbw2.out.size; omega) rfl (by intro u hu; simp at hu; subst hu; rfl) (by omega) ?_; intro v' w' hv' ht' hb')
        go_roundg g'
        case measure => omega
        case rel =>
          have hIT : w.heap.size < W.heap.size := lt_of_obj hit2.out
          refine ⟨pos + 1, pos + 1, acc ++ [(s.take pos).drop st], by go_num, ?_, ?_, ?_, by omega, by simp; omega, fun hp => ⟨Nat.le_refl _, ?_⟩, fun hp => ?_⟩
          · rw [List.length_append, List.map_append]
            simp only [List.map_cons, List.map_nil, ST, HY.out]
            exact hv'
          · exact (hb' _ hIT (iter_ne hown2 hit2.out)).trans hit2.out
          · exact hbw2.out.trans ⟨ht'.os, ht'.tape, ht'.output, by have := ht'.size; have := hbw2.out.size; omega, fun k hk => ht'.block k (by have := hbw2.out.size; omega) (by omega) hk⟩
          · rw [← HCUT.out, cut_word (by omega) (HCc.out (by omega)) h32]
            simp
          · have hps : pos = s.length := by omega
            rw [← HCUT.out, hps, List.drop_length]
            rfl
      · have h32n : ¬ (c.toNat : Int) = 32 := by
          intro h
          apply h32
          exact UInt8.toNat_inj.1 (by show c.toNat = 32; omega)
        go_wp2
        go_roundg g'
        case measure => omega
        case rel =>
          have hps : pos < s.length := by
            rcases Nat.lt_or_ge pos s.length with h | h
            · exact h
            · exact absurd (HLc.out (by omega)) h32
          refine ⟨pos + 1, st, acc, rfl, hown2, hit2.out, hbw2.out, by omega, by omega, fun _ => ⟨by omega, ?_⟩, fun h => by omega⟩
          rw [← HCUT.out, cut_step hps (HCc.out hps) hst h32]
    · have hpos : pos = s.length + 1 := by omega
      have hE := hend hpos
      have hnx := fun ty => Lib.run_next_end_at (P := Tryz.prog) wr w.heap.size U pos ty hit hlt
      subst hE
      have HO : Hid _ := hown
      have HW : Hid _ := hbw
      clear hown hit hbw hin hend HR HB HC HL hadd
      go_wp2
      go_ret
      exact ⟨_, rfl, HO.out, ⟨HW.out, HW.out.size⟩⟩
end Go.Proofs.YtohapnninjdlfaaGreatDoor

namespace Go.Proofs.YtohapnninjdlfaaGreatDoor
open Go.RowKit
set_option linter.unusedVariables false
set_option linter.unusedSimpArgs false

theorem lastF_snoc (op : Int) (r : Int × List UInt8 × List UInt8) : ∀ (l : List (Int × List UInt8 × List UInt8)) f, lastF op (l ++ [r]) f = if r.1 ≤ op then r else lastF op l f
  | [], f => rfl
  | a :: l, f => by rw [List.cons_append, lastF, lastF, lastF_snoc op r l]
theorem flat_at {α : Type} (f : α → List Value) (k : Nat) (hf : ∀ a, (f a).length = k) : ∀ (l : List α) (i : Nat) (x : α) (j : Nat), l[i]? = some x → j < k → (l.flatMap f)[i * k + j]? = (f x)[j]? := by
  intro l
  induction l with
  | nil => intro i x j h; simp at h
  | cons a l ih =>
    intro i x j h hj
    rw [List.flatMap_cons]
    cases i with
    | zero =>
      simp only [List.getElem?_cons_zero, Option.some.injEq] at h
      subst h
      rw [Nat.zero_mul, Nat.zero_add, List.getElem?_append_left (by rw [hf]; exact hj)]
    | succ i =>
      rw [List.getElem?_cons_succ] at h
      rw [List.getElem?_append_right (by rw [hf, Nat.succ_mul]; omega), hf, show (i + 1) * k + j - k = i * k + j by rw [Nat.succ_mul]; omega]
      exact ih i x j h hj
theorem RL_len : RL.length = 30 := by decide +kernel
theorem runs_cell {w : World} {b : Nat} (h : w.heap[b]? = some (.cells RUNS 88 (0, 0))) {k : Nat} {r : Int × List UInt8 × List UInt8} (hk : RL[k]? = some r) :
    w.cell? ⟨b, k * 3, none⟩ = some (.int .i64 r.1) ∧ w.cell? ⟨b, k * 3 + 1, none⟩ = some (.string (BA r.2.1)) ∧ w.cell? ⟨b, k * 3 + 2, none⟩ = some (.string (BA r.2.2)) := by
  have h0 := flat_at c3 3 (fun _ => rfl) RL k r 0 hk (by omega)
  have h1 := flat_at c3 3 (fun _ => rfl) RL k r 1 hk (by omega)
  have h2 := flat_at c3 3 (fun _ => rfl) RL k r 2 hk (by omega)
  refine ⟨?_, ?_, ?_⟩ <;> rw [cell_of h, RUNS, List.getElem?_toArray]
  · exact h0
  · exact h1
  · exact h2
theorem set3_obj {w : World} {b : Nat} {x y z : Value} {t : TypeId} {fr : Nat × Nat} (h : w.heap[b]? = some (.cells #[x, y, z] t fr)) (x' y' z' : Value) :
    (((w.setCell ⟨b, 0, none⟩ x').setCell ⟨b, 1, none⟩ y').setCell ⟨b, 2, none⟩ z').heap[b]? = some (.cells #[x', y', z'] t fr) := by
  have h1 := heap_set h 0 x'
  have h2 := heap_set h1 1 y'
  exact heap_set h2 2 z'
theorem set3_other {w : World} {b b' : Nat} {o : Obj} (h : w.heap[b']? = some o) (hb : b' ≠ b) (x y z : Value) :
    (((w.setCell ⟨b, 0, none⟩ x).setCell ⟨b, 1, none⟩ y).setCell ⟨b, 2, none⟩ z).heap[b']? = some o := heap_other (heap_other (heap_other h hb _) hb _) hb _
def R3 (r : Int × List UInt8 × List UInt8) : Value := .agg #[.int .i64 r.1, .string (BA r.2.1), .string (BA r.2.2)]
set_option maxRecDepth 100000 in
set_option maxHeartbeats 1000000 in
theorem runOf_any (op : Int) (w : World) :
    Calls Tryz.prog 36 #[.int .i64 op] w fun e w' => e = .returned (R3 (lastR op)) ∧ Grew w w' := by
  have HR : Hid (∀ k, k < 30 → ∃ r, RL[k]? = some r) := fun k hk => ⟨RL[k]'(by rw [RL_len]; exact hk), List.getElem?_eq_getElem (by rw [RL_len]; exact hk)⟩
  go_enter Tryz.func36, Tryz.ntmps36
  go_wp2_with fail
  refine (runs_any _).mono ?_
  rintro e w1 ⟨rfl, hw1⟩
  have hsz : w1.heap.size = w.heap.size + 3 := by rw [hw1]; simp
  have O0 : w1.heap[w.heap.size]? = some (.cells #[.int .i64 0, .string ⟨#[]⟩, .string ⟨#[]⟩] 88 (0, 0)) := by
    rw [hw1]
    exact heap_alloc (heap_alloc (heap_alloc_last w _) _) _
  have O1 : w1.heap[w.heap.size + 1]? = some (.cells #[.int .i64 0, .string ⟨#[]⟩, .string ⟨#[]⟩] 88 (0, 0)) := by
    rw [hw1]
    have := heap_alloc_last (w.alloc (.cells #[.int .i64 0, .string ⟨#[]⟩, .string ⟨#[]⟩] 88)) (.cells #[.int .i64 0, .string ⟨#[]⟩, .string ⟨#[]⟩] 88)
    rw [alloc_size] at this
    exact heap_alloc this _
  have O2 : w1.heap[w.heap.size + 2]? = some (.cells RUNS 88 (0, 0)) := by
    rw [hw1]
    have := heap_alloc_last ((w.alloc (.cells #[.int .i64 0, .string ⟨#[]⟩, .string ⟨#[]⟩] 88)).alloc (.cells #[.int .i64 0, .string ⟨#[]⟩, .string ⟨#[]⟩] 88)) (.cells RUNS 88)
    rw [alloc_size, alloc_size] at this
    exact this
  have G1 : Grew w w1 := by rw [hw1]; exact (((Grew.refl w).alloc _).alloc _).alloc _
  clear hw1
  have HG1 : Hid (Grew w w1) := G1
  have H0 : Hid _ := O0
  have H1 : Hid _ := O1
  have H2 : Hid _ := O2
  clear G1 O0 O1 O2
  go_wp2_with fail
  go_loopw [9] (fun i wx => ∃ k : Nat, k ≤ 30 ∧ i = .int .i64 k ∧ wx.heap[w.heap.size]? = some (.cells #[.int .i64 0, .string ⟨#[]⟩, .string ⟨#[]⟩] 88 (0, 0)) ∧
    wx.heap[w.heap.size + 1]? = some (.cells (c3 (lastF op (RL.take k) (0, [], []))).toArray 88 (0, 0)) ∧ wx.heap[w.heap.size + 2]? = some (.cells RUNS 88 (0, 0)) ∧ Grew w wx) (fun i _ => 30 - (intOf i).toNat)
  case atStart => exact ⟨0, by omega, rfl, H0.out, H1.out, H2.out, HG1.out⟩
  case round =>
    obtain ⟨k, hk, rfl, p0, p1, p2, pg⟩ := hrel
    by_cases hlt : k < 30
    · obtain ⟨r, hr⟩ := HR.out k hlt
      obtain ⟨q0, q1, q2⟩ := runs_cell p2 hr
      have hT : Hid (RL.take (k + 1) = RL.take k ++ [r]) := by
        obtain ⟨h', he⟩ := List.getElem?_eq_some_iff.1 hr
        show RL.take (k + 1) = RL.take k ++ [r]
        rw [List.take_succ_eq_append_getElem h', he]
      have P0 : Hid _ := p0
      have P1 : Hid _ := p1
      have P2 : Hid _ := p2
      have PG : Hid (Grew w wr) := pg
      have hs2 : w.heap.size + 2 < wr.heap.size := lt_of_obj p2
      have hs1 : w.heap.size + 1 < wr.heap.size := by omega
      have hn1 : ¬ w.heap.size + 1 = wr.heap.size := by omega
      obtain ⟨f, hf⟩ : ∃ f, lastF op (RL.take k) (0, [], []) = f := ⟨_, rfl⟩
      have HF : Hid (lastF op (RL.take k) (0, [], []) = f) := hf
      rw [hf] at p1 P1
      have z0 := free_of p1 0
      have z1 := free_of p1 1
      have z2 := free_of p1 2
      have y0 := cell_of p1 0
      have y1 := cell_of p1 1
      have y2 := cell_of p1 2
      simp [c3] at y0 y1 y2
      clear hf
      clear p0 p1 p2 pg HR H0 H1 H2 HG1
      by_cases hle : r.1 ≤ op
      · go_wp2_with fail
        go_roundw
        case rel =>
          refine ⟨k + 1, by omega, by go_num, ?_, ?_, ?_, ?_⟩
          · exact heap_alloc (set3_other P0.out (by omega) _ _ _) _
          · rw [hT.out, lastF_snoc, if_pos hle]
            exact heap_alloc (set3_obj P1.out _ _ _) _
          · exact heap_alloc (set3_other P2.out (by omega) _ _ _) _
          · exact (((PG.out.set (p := ⟨w.heap.size + 1, 0, none⟩) (by simp) _).set (p := ⟨w.heap.size + 1, 1, none⟩) (by simp) _).set (p := ⟨w.heap.size + 1, 2, none⟩) (by simp) _).alloc _
        case measure => simp [intOf]; omega
      · go_wp2_with fail
        go_roundw
        case rel =>
          refine ⟨k + 1, by omega, by go_num, heap_alloc P0.out _, ?_, heap_alloc P2.out _, PG.out.alloc _⟩
          rw [hT.out, lastF_snoc, if_neg hle, HF.out]
          exact heap_alloc P1.out _
        case measure => simp [intOf]; omega
    · obtain rfl : k = 30 := by omega
      have e30 : RL.take 30 = RL := by rw [← RL_len, List.take_length]
      rw [e30] at p1
      obtain ⟨f, hf⟩ : ∃ f, lastF op RL (0, [], []) = f := ⟨_, rfl⟩
      have HF : Hid (lastR op = f) := hf
      rw [hf] at p1
      have z0 := free_of p0 0
      have z1 := free_of p0 1
      have z2 := free_of p0 2
      have x0 := cell_of p0 0
      have x1 := cell_of p0 1
      have x2 := cell_of p0 2
      have y0 := cell_of p1 0
      have y1 := cell_of p1 1
      have y2 := cell_of p1 2
      simp [c3] at y0 y1 y2
      simp at x0 x1 x2
      have PG : Hid (Grew w wr) := pg
      have P0 : Hid _ := p0
      clear p0 p1 p2 pg hf e30 HR H0 H1 H2 HG1
      go_wp2_with fail
      rw [HF.out]
      have hobj := set3_obj P0.out (.int .i64 f.1) (.string (BA f.2.1)) (.string (BA f.2.2))
      generalize hW : ((wr.setCell ⟨w.heap.size, 0, none⟩ (.int .i64 f.1)).setCell ⟨w.heap.size, 1, none⟩ (.string (BA f.2.1))).setCell ⟨w.heap.size, 2, none⟩ (.string (BA f.2.2)) = W at *
      have g0 := cell_of hobj 0
      have g1 := cell_of hobj 1
      have g2 := cell_of hobj 2
      simp at g0 g1 g2
      refine bodyPost_ret (v := R3 f) (by simp [results, Tryz.results36, go_sem, g0, g1, g2, R3]) rfl ⟨rfl, ?_⟩
      rw [← hW]
      exact ((PG.out.set (p := ⟨w.heap.size, 0, none⟩) (by simp) _).set (p := ⟨w.heap.size, 1, none⟩) (by simp) _).set (p := ⟨w.heap.size, 2, none⟩) (by simp) _
end Go.Proofs.YtohapnninjdlfaaGreatDoor
