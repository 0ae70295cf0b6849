/-
  The walk of cut: a text taken apart at its blanks; no statement is proved here.
-/
import Derived.Test.YtahmjgmaaaegcaaGreatDoorRowM
import Derived.Test.YtahmjgmaaaegcaaGreatDoorRun
import Derived.Test.YtahmjgmaaaegcaaGreatDoorNmM
import Derived.Lib.OthersKept
import Derived.Deep.LoopGhost
namespace Go.Proofs.YtahmjgmaaaegcaaGreatDoor
open Go.RowKit
set_option linter.unusedVariables false
set_option linter.unusedSimpArgs false

theorem BA_size (l : List UInt8) : (BA l).size = l.length := by simp [BA, ByteArray.size]
theorem BA_get (l : List UInt8) (k : Nat) (h : k < (BA l).size) : (BA l)[k]'h = l[k]'(by rw [← BA_size]; exact h) := by
  rfl
theorem BA_app (a b : List UInt8) : BA a ++ BA b = BA (a ++ b) := by
  simp [BA, ByteArray.mk_append_mk]
theorem BA_extract (l : List UInt8) (a b : Nat) : (BA l).extract a b = BA ((l.take b).drop a) := by
  apply ByteArray.ext
  simp [BA, ByteArray.data_extract, List.drop_take]
theorem iter_own {w : World} {B e size n : Nat} {v : Value} {xs : List Value} {k : Nat} {s : ByteArray} {pos : Nat} (h : w.ownsRow B e size v n xs) (hk : w.heap[k]? = some (.stringIter s pos)) (pos' : Nat) : (w.iterAt k s pos').ownsRow B e size v n xs := by
  refine ⟨h.1, ?_⟩
  rcases h.2 with h0 | ⟨g, cap, cur, hv, hb, hg, rest⟩
  · exact .inl h0
  · refine .inr ⟨g, cap, cur, hv, hb, ?_, rest⟩
    rw [Lib.iterAt_other _ _ _ _ _ (fun e => by subst e; rw [hk] at hg; cases hg)]
    exact hg
theorem iter_ne {w : World} {B e size n : Nat} {v : Value} {xs : List Value} {k : Nat} {s : ByteArray} {pos : Nat} (h : w.ownsRow B e size v n xs) (hk : w.heap[k]? = some (.stringIter s pos)) : some k ≠ v.ownBlock := by
  rcases h.2 with ⟨rfl, _⟩ | ⟨g, cap, cur, rfl, hb, hg, rest⟩
  · simp [Value.ownBlock]
  · intro e
    simp only [Value.ownBlock, Option.some.injEq] at e
    subst e
    rw [hk] at hg
    cases hg
def ST (x : List UInt8) : Value := .string (BA x)
theorem cut_step {s : List UInt8} {pos st : Nat} {c : UInt8} (h : pos < s.length) (hc : s[pos]'h = c) (hst : st ≤ pos) (h32 : c ≠ 32) : cutW (s.drop pos) ((s.take pos).drop st) = cutW (s.drop (pos + 1)) ((s.take (pos + 1)).drop st) := by
  rw [List.drop_eq_getElem_cons h, cutW, hc, if_neg h32]
  congr 1
  rw [List.take_succ_eq_append_getElem h, hc, List.drop_append_of_le_length (by simp; omega)]
theorem cut_word {s : List UInt8} {pos st : Nat} {c : UInt8} (h : pos < s.length) (hc : s[pos]'h = c) (h32 : c = 32) : cutW (s.drop pos) ((s.take pos).drop st) = (s.take pos).drop st :: cutW (s.drop (pos + 1)) ((s.take (pos + 1)).drop (pos + 1)) := by
  rw [List.drop_eq_getElem_cons h, cutW, hc, if_pos h32]
  congr 2
  rw [List.drop_eq_nil_of_le (by simp; omega)]
set_option maxRecDepth 100000 in
set_option maxHeartbeats 1000000 in
theorem cut_any (s : List UInt8) (hs : ∀ c ∈ s, c.toNat < 128) (hl : s.length ≤ 60000) (w : World) :
    Calls Tryz.prog 62 #[.string (BA s)] w fun e w' => ∃ v, e = .returned v ∧ w'.ownsRow w.heap.size 9 1 v (cutW s []).length ((cutW s []).map ST) ∧ Grew w w' := by
  obtain ⟨U, hU⟩ : ∃ U, U = BA (s ++ [32]) := ⟨_, rfl⟩
  have HU : Hid (U = BA (s ++ [32])) := hU
  have hUs : U.size = s.length + 1 := by rw [hU, BA_size]; simp
  have hadd : (Op.stringOp .add (BA s) ⟨#[32]⟩).run Tryz.prog w = .ok (.string U) w := by
    rw [run_string_add_sum w _ _ (by rw [BA_size]; show s.length + 1 ≤ _; omega)]
    show Result.ok (Value.string (BA s ++ BA [32])) w = _
    rw [BA_app, hU]
  have HB : Hid (∀ (st pos : Nat) (W : World), st ≤ pos → pos ≤ s.length → (Instr.slice 9 (.string (BA s)) (some (.int .i64 (st : Int))) (some (.int .i64 (pos : Int))) none).run Tryz.prog W = .ok (ST ((s.take pos).drop st)) W) := by
    intro st pos W h1 h2
    rw [run_slice_string W 9 (BA s) .i64 .i64 st pos Tryz.underlying9 (by omega) (by omega) (by rw [BA_size]; omega)]
    simp [ST, BA_extract]
  have HC : Hid (∀ (pos : Nat) (h : pos < U.size), (U[pos]'h).toNat < 128 ∧ ∀ (h' : pos < s.length), U[pos]'h = s[pos]'h') := by
    intro pos h
    subst hU
    rw [BA_get]
    refine ⟨?_, fun h' => by rw [List.getElem_append_left h']⟩
    by_cases h' : pos < s.length
    · rw [List.getElem_append_left h']; exact hs _ (List.getElem_mem h')
    · rw [List.getElem_append_right (by omega)]; simp
  have HL : Hid (∀ (h : s.length < U.size), U[s.length]'h = 32) := by
    intro h
    subst hU
    rw [BA_get, List.getElem_append_right (by omega)]; simp
  obtain ⟨S, hS⟩ : ∃ S, BA s = S := ⟨_, rfl⟩
  rw [hS] at hadd HB ⊢
  have HT : Hid (cutW s [] = cutW s []) := rfl
  obtain ⟨R, hR⟩ : ∃ R, cutW s [] = R := ⟨_, rfl⟩
  have HR : Hid (cutW s [] = R) := hR
  rw [hR]
  clear hR HT hU hS hs
  go_enter Tryz.func62, Tryz.ntmps62
  go_wp2
  go_loopg [3, 4] (s.length + 1) (fun gf s3 s4 wx => ∃ (pos st : Nat) (acc : List (List UInt8)), s4 = .int .i64 st ∧ wx.ownsRow w.heap.size 9 1 s3 acc.length (acc.map ST) ∧ wx.heap[w.heap.size]? = some (.stringIter U pos) ∧ Below w.heap.size w wx ∧
    pos + gf = s.length + 1 ∧ acc.length ≤ pos ∧ (pos ≤ s.length → st ≤ pos ∧ acc ++ cutW (s.drop pos) ((s.take pos).drop st) = R) ∧ (pos = s.length + 1 → acc = R))
  case atStart =>
    exact ⟨0, 0, [], rfl, World.ownsRow_nil _ _ _ _, World.iter_heap w U 0, (Below.refl _ w).alloc (Nat.le_refl _) _, by omega, by simp, fun _ => ⟨Nat.le_refl _, by simpa using HR.out⟩, fun h => by omega⟩
  case round =>
    obtain ⟨pos, st, acc, rfl, hown, hit, hbw, hfu, hal, hin, hend⟩ := hrel
    by_cases hlt : pos < U.size
    · obtain ⟨g', rfl⟩ : ∃ g', gk = g' + 1 := ⟨gk - 1, by omega⟩
      obtain ⟨ha, hc0⟩ := HC.out pos hlt
      have hnx : ∀ ty, (Instr.next (.pointer (some ⟨w.heap.size, 0, none⟩)) true ty).run Tryz.prog wr = _ := fun ty => Lib.run_next_ascii_at wr w.heap.size U pos ty hit hlt ha
      obtain ⟨hst, hcut⟩ := hin (by omega)
      have hsl := fun W => HB.out st pos W hst (by omega)
      have hit2 : Hid _ := Lib.iterAt_heap wr w.heap.size U pos (pos + 1) hit
      have hbw2 : Hid _ := Lib.below_iterAt hbw (k := w.heap.size) (Nat.le_refl _) U (pos + 1)
      have hown2 := iter_own hown hit (pos + 1)
      obtain ⟨c, hc⟩ : ∃ c, U[pos]'hlt = c := ⟨_, rfl⟩
      have HCc : Hid (∀ (h' : pos < s.length), s[pos]'h' = c) := fun h' => (hc0 h').symm.trans hc
      have HLc : Hid (pos = s.length → c = 32) := fun h' => by subst h'; rw [← hc]; exact HL.out hlt
      have HCUT : Hid (acc ++ cutW (s.drop pos) ((s.take pos).drop st) = R) := hcut
      rw [hc] at hnx ha
      obtain ⟨W, hWd⟩ : ∃ W, wr.iterAt w.heap.size U (pos + 1) = W := ⟨_, rfl⟩
      rw [hWd] at hnx hit2 hbw2 hown2
      obtain ⟨Y, hY⟩ : ∃ Y, BA ((s.take pos).drop st) = Y := ⟨_, rfl⟩
      have HY : Hid (BA ((s.take pos).drop st) = Y) := hY
      unfold ST at hsl
      rw [hY] at hsl
      clear hown hit hbw hin hend hc0 hcut hY HR HB HC HL hadd hc hWd
      by_cases h32 : c = 32
      · have h32n : (c.toNat : Int) = 32 := by rw [h32]; rfl
        go_wp2_with (at_builtin; refine wp_app1 rfl (.tmp 16) (.tmp 21) 85 9 1 16 (.string ⟨#[]⟩) Tryz.underlying85 (by kernel_rfl) rfl (by decide) (by decide) rfl w.heap.size rfl rfl hown2 (by have := hbw2.out.size; omega) rfl (by intro u hu; simp at hu; subst hu; rfl) (by omega) ?_; intro v' w' hv' ht' hb')
        go_roundg g'
        case measure => omega
        case rel =>
          have hIT : w.heap.size < W.heap.size := lt_of_obj hit2.out
          refine ⟨pos + 1, pos + 1, acc ++ [(s.take pos).drop st], by go_num, ?_, ?_, ?_, by omega, by simp; omega, fun hp => ⟨Nat.le_refl _, ?_⟩, fun hp => ?_⟩
          · rw [List.length_append, List.map_append]
            simp only [List.map_cons, List.map_nil, ST, HY.out]
            exact hv'
          · exact (hb' _ hIT (iter_ne hown2 hit2.out)).trans hit2.out
          · exact hbw2.out.trans ⟨ht'.os, ht'.tape, ht'.output, by have := ht'.size; have := hbw2.out.size; omega, fun k hk => ht'.block k (by have := hbw2.out.size; omega) (by omega) hk⟩
          · rw [← HCUT.out, cut_word (by omega) (HCc.out (by omega)) h32]
            simp
          · have hps : pos = s.length := by omega
            rw [← HCUT.out, hps, List.drop_length]
            rfl
      · have h32n : ¬ (c.toNat : Int) = 32 := by
          intro h
          apply h32
          exact UInt8.toNat_inj.1 (by show c.toNat = 32; omega)
        go_wp2
        go_roundg g'
        case measure => omega
        case rel =>
          have hps : pos < s.length := by
            rcases Nat.lt_or_ge pos s.length with h | h
            · exact h
            · exact absurd (HLc.out (by omega)) h32
          refine ⟨pos + 1, st, acc, rfl, hown2, hit2.out, hbw2.out, by omega, by omega, fun _ => ⟨by omega, ?_⟩, fun h => by omega⟩
          rw [← HCUT.out, cut_step hps (HCc.out hps) hst h32]
    · have hpos : pos = s.length + 1 := by omega
      have hE := hend hpos
      have hnx := fun ty => Lib.run_next_end_at (P := Tryz.prog) wr w.heap.size U pos ty hit hlt
      subst hE
      have HO : Hid _ := hown
      have HW : Hid _ := hbw
      clear hown hit hbw hin hend HR HB HC HL hadd
      go_wp2
      go_ret
      exact ⟨_, rfl, HO.out, ⟨HW.out, HW.out.size⟩⟩
end Go.Proofs.YtahmjgmaaaegcaaGreatDoor
