/-
  Proved: for every row of numbers of 32 bits FrameText returns true, and the argument reads as before: what the language itself encodes is UTF-8, and a name that PutName wrote is read back whole. No conditions.
-/
import Derived.Test.YtclamdpbdafmcaaArgs
import Derived.Test.YtclamdpbdafmcaaBackN
import Derived.Test.YtclamdpbdafmcaaAliveR
namespace Go.Proofs.Ytclamdpbdafmcaa
open Go.RowKit Go.ChangeShapes Go.WideShapes Go.ChangeAt
set_option linter.unusedVariables false

theorem str_app (x y : List Int) : strOfNums (x ++ y) = strOfNums x ++ strOfNums y := by
  apply ByteArray.ext
  simp [strOfNums, ByteArray.data_append]
theorem enc_str (x : Int) : Utf8.encode x = strOfNums (encL x) := (str_nums _).symm
theorem enc_size (x : Int) : (Utf8.encode x).size ≤ 4 := by
  have h := enc_len [x]
  rw [enc_str, strOfNums_size]
  simpa using h
theorem enc_snoc (l : List Int) (k : Nat) (hk : k < l.length) : strOfNums ((l.take k).flatMap encL) ++ Utf8.encode (l.getD k 0) = strOfNums ((l.take (k + 1)).flatMap encL) := by
  rw [enc_str, ← str_app]
  congr 1
  rw [List.take_add_one, List.flatMap_append]
  simp [List.getD, hk]

set_option maxRecDepth 100000 in
set_option maxHeartbeats 2000000 in
theorem text_walk (a : Option Addr) (cap : Nat) (l : List Int) (w : World) (hlen : l.length ≤ 35184372087808)
    (hc : ∀ j, j < l.length → ∃ b off, a = some ⟨b, off, none⟩ ∧ w.cell? ⟨b, off + j, none⟩ = some (.int .i32 (l.getD j 0))) :
    Calls Try.prog 8 #[.slice a l.length cap] w fun e w' => e = .returned (.bool true) ∧ Below w.heap.size w w' := by
  have HC : Hid (∀ j, j < l.length → ∃ b off, a = some ⟨b, off, none⟩ ∧ w.cell? ⟨b, off + j, none⟩ = some (.int .i32 (l.getD j 0))) := hc
  clear hc
  go_enter Try.func8, Try.ntmps8
  go_wp2_with fail
  refine (alive_any _).mono ?_
  rintro en w1 ⟨rfl, g1⟩
  have G1 : Hid (Grew w w1) := g1
  clear g1
  go_wp2_with fail
  go_loopw [3, 4] (fun s_ i_ w' => ∃ (k d : Nat), i_ = .int .i64 k ∧ w' = w1.drewN d ∧ k ≤ l.length ∧ s_ = .string (strOfNums ((l.take k).flatMap encL))) (fun _ i_ _ => l.length - (intOf i_).toNat)
  case atStart => exact ⟨0, 0, rfl, rfl, by omega, rfl⟩
  case round =>
    obtain ⟨k, d, rfl, rfl, hk, rfl⟩ := hrel
    obtain ⟨s, hs⟩ : ∃ s, s = strOfNums ((l.take k).flatMap encL) := ⟨_, rfl⟩
    have hsz : s.size ≤ 140737488351232 := by
      have := enc_len (l.take k)
      rw [hs, strOfNums_size]
      rw [List.length_take] at this
      omega
    rw [← hs]
    have HS : Hid (s = strOfNums ((l.take k).flatMap encL)) := hs
    clear hs
    by_cases hp : k < l.length
    · obtain ⟨b, off, rfl, hc0⟩ := HC.out k hp
      have hcell : w1.cell? ⟨b, off + k, none⟩ = some (.int .i32 (l.getD k 0)) := by rw [G1.out.1.cell (block_lt_of_cell hc0)]; exact hc0
      clear hc0
      obtain ⟨x, hx⟩ : ∃ x, x = l.getD k 0 := ⟨_, rfl⟩
      have he := enc_size x
      have hsum : (9223372036854775807 < s.size + (Utf8.encode x).size) = False := by simp; omega
      have HX : Hid (x = l.getD k 0) := hx
      rw [← hx] at hcell
      clear hx
      go_wp2_with fail
      go_roundw
      case rel => exact ⟨k + 1, _, by go_num, rfl, by omega, by rw [HS.out, HX.out, enc_snoc l k hp]⟩
      case measure => simp [intOf]; omega
    · obtain rfl : k = l.length := by omega
      have HS' : Hid (s = strOfNums (l.flatMap encL)) := by
        have := HS.out
        rw [List.take_length] at this
        exact this
      clear HS HC
      have hL : (l.flatMap encL).length ≤ 4 * l.length := enc_len l
      have hU := enc_U l
      have hB := enc_byt l
      generalize l.flatMap encL = L at *
      have hLl : s.size = L.length := by rw [HS'.out, strOfNums_size]
      obtain ⟨a1, c1, w2, hcv, hr2, hg2⟩ := bytes_of L hB (by omega) (w1.drewN d)
      rw [← HS'.out] at hcv
      have cu := utf8_any _ L w2 hr2 hB (by omega)
      rw [hU] at cu
      have G2 : Hid (Grew w1 w2) := ((Grew.refl w1).drewN d).trans hg2
      have hpn := fun w => putName_any L w hB (by omega)
      rw [← HS'.out] at hpn
      clear hg2 hr2
      go_wp2_with fail
      refine cu.mono ?_
      rintro en w3 ⟨rfl, g3⟩
      clear cu
      have G3 : Hid (Grew w1 w3) := G2.out.trans g3
      clear g3
      go_wp2_with fail
      refine (hpn _).mono ?_
      by_cases h6 : 65536 < L.length
      · have hn : nf L = 2 := by unfold nf; rw [if_pos h6]
        rw [hn]
        rintro en w4 ⟨v4, rfl, r4, g4⟩
        obtain ⟨a4, c4, rfl⟩ := r4.len
        clear r4
        have G4 : Hid (Grew w1 w4) := G3.out.trans g4
        clear g4 hpn
        have hdec : decide ((65536 : Int) < L.length) = true := by simp; omega
        go_wp2_with fail
        go_ret
        exact ⟨by simp <;> omega, (G1.out.trans G4.out).1⟩
      · have hn : nf L = 0 := by unfold nf; rw [if_neg h6, hU]; rfl
        have hpn0 : pn L = nb L := by unfold pn; rw [if_pos hn]
        rw [hn, hpn0]
        rintro en w4 ⟨v4, rfl, r4, g4⟩
        have hback := nm_back [] L [] hn
        simp only [List.nil_append, List.append_nil, List.length_nil, Nat.zero_add] at hback
        have hnl : (nb L).length ≤ 140737488351232 := by
          unfold nb
          have := PU_len L.length
          simp
          omega
        have hnb : Byt (nb L) := by
          unfold nb
          exact Byt.append (byt_PU _ (by omega) (by omega)) hB
        have cn := Name_any v4 (nb L) 0 w4 r4 hnb hnl
        rw [show ((0 : Nat) : Int) = 0 from rfl] at hback
        rw [hback] at cn
        simp only at cn
        rw [← HS'.out] at cn
        obtain ⟨a4, c4, rfl⟩ := r4.len
        clear r4
        have G4 : Hid (Grew w1 w4) := G3.out.trans g4
        clear g4 hpn hback
        generalize nb L = N at *
        go_wp2_with fail
        refine cn.mono ?_
        rintro en w5 ⟨rfl, g5⟩
        clear cn
        have G5 : Hid (Grew w1 w5) := G4.out.trans g5
        clear g5
        go_wp2_with fail
        go_ret
        exact ⟨by simp, (G1.out.trans G5.out).1⟩
theorem bytes21 : Try.prog.bytesOf 21 = 4 := by kernel_rfl
theorem open_i32 {H : Type} {enc : TypeId × Value → H} {W : World} {a : Option Addr} {len cap : Nat} {d : DataW H} {p : List MemPlace}
    (hf : DataW.Trod enc Try.prog W 0 (fun _ => true) true 57 (.slice a len cap) d p) :
    ∃ l : List Int, l.length = len ∧ (∀ j, j < l.length → ∃ b off, a = some ⟨b, off, none⟩ ∧ W.cell? ⟨b, off + j, none⟩ = some (.int .i32 (l.getD j 0))) ∧ ((d = .nil ∧ len = 0) ∨ ∃ zs : List Int, d = .slice (lits .i32 (zs.take len)) (lits .i32 (zs.drop len)) ∧ len ≤ zs.length) := by
  obtain ⟨fuel, hf⟩ := hf
  rcases Go.ChangeShapes.open_ints Try.underlying57 Try.underlying21 (by kernel_rfl) hf with ⟨hcs, hx⟩ | ⟨x, l, c, zs, hcs, _, hl, hm, hz, hx, hcell, hwz⟩
  · simp [Value.cells] at hcs
    obtain ⟨rfl, rfl, rfl⟩ := hcs
    simp only [Prod.mk.injEq] at hx
    exact ⟨[], rfl, fun j h => by simp at h, Or.inl ⟨hx.1, rfl⟩⟩
  · simp [Value.cells] at hcs
    obtain ⟨rfl, rfl, rfl⟩ := hcs
    simp only [Prod.mk.injEq] at hx
    have hz' : zs.length = cap := by simpa using hz
    have hlen : (zs.take len).length = len := by simp; omega
    refine ⟨zs.take len, hlen, fun j hj => ?_, Or.inr ⟨zs, hx.1, by omega⟩⟩
    obtain ⟨b, off, spot⟩ := x
    have hspot : spot = none := by simpa [Addr.add] using World.cell?_spot (hcell 0 (by omega))
    subst hspot
    refine ⟨b, off, rfl, ?_⟩
    have := hcell j (by omega)
    rw [add_plain] at this
    rw [this]
    have hj' : j < len := by omega
    simp [List.getD, hj']
theorem reach_i32 {H : Type} {ts : List TypeId} {ds : List (DataW H)} (h : (DataW.weightsEach Try.prog ts ds).all (· ≤ reachBytes) = true) {j : Nat} {zs : List Int} {len : Nat}
    (ht : ts[j]? = some 57) (hd : ds[j]? = some (.slice (lits .i32 (zs.take len)) (lits .i32 (zs.drop len)))) (hl : len ≤ zs.length) : len ≤ 35184372087808 := by
  have := sized_slice h ht hd Try.underlying57
  rw [bytes21] at this
  simp only [lits, List.length_map, List.length_take, List.length_drop, reachBytes] at this
  omega
end Go.Proofs.Ytclamdpbdafmcaa
namespace Go.Proofs.Ytclamdpbdafmcaa.frameText
open Go.ChangeShapes Go.WideShapes Go.ChangeAt Go.RowKit
set_option linter.unusedVariables false

set_option maxRecDepth 100000 in
theorem lifted (os : Os) (started : os.Started) (H : Type) (enc : TypeId × Value → H) :
    ReturnsInHanded {} Try.checked os 8 .any (Rows.frameTextSpec.pre6 enc Try.prog Try.f8 Rows.frameTextRow.domain false) (Rows.frameTextSpec.post enc Try.prog Try.f8 false true false false) := by
  refine returnsInHanded_of_change_sized (C := Try.checked) own started (by kernel_rfl) Try.func8
    (ChangeSpec.witness6 (enc := enc) (C := Try.checked) false ⟨#[], #[.slice none 0 0], []⟩ 8 (by kernel_rfl) (by kernel_rfl) (by kernel_rfl) (by kernel_rfl)) ?_
  intro W base args ds gs before hval0 hW hcnd hsz0 _
  have hsz : (DataW.weightsEach Try.prog (Try.f8.params.toList ++ Rows.frameTextSpec.plain.varTypes Try.prog) (ds ++ gs)).all (· ≤ reachBytes) = true := hsz0
  clear hsz0
  have hval : ∀ (j : Nat) t v, Try.f8.params[j]? = some t → args[j]? = some v → Value.okWide Try.prog W .any base t v := hval0
  have hW' := hW
  obtain ⟨p, q, hA0, hV, rfl, hfz, hnd⟩ := hW
  have hA : DataW.TrodAll enc Try.prog W 0 (fun _ => true) true Try.f8.params.toList args.toList ds p := hA0
  rw [Try.params8] at hA hval hsz
  obtain ⟨v0, vs0, d0, ds0, p0, q0, hargs, rfl, rfl, h0, r0⟩ := trodAll_cons hA
  obtain ⟨rfl, rfl, rfl⟩ := trodAll_nil r0
  obtain rfl : args = #[v0] := by cases args; simp_all
  obtain ⟨rfl, rfl⟩ := trodVars_none hV
  obtain ⟨a0, len0, cap0, rfl⟩ := okWide_slice Try.underlying57 (hval 0 57 v0 rfl rfl)
  have k0 := h0
  have lt0 : ∀ x ∈ p0, x.block < W.heap.size := by obtain ⟨m, hm⟩ := k0; exact DataW.trod_lt m _ _ _ hm
  obtain ⟨l0, hl0, hR0, hd0⟩ := open_i32 h0
  subst hl0
  have hs0 : l0.length ≤ 35184372087808 := by
    rcases hd0 with ⟨_, h⟩ | ⟨zs, hz, hle⟩
    · omega
    · exact reach_i32 (j := 0) hsz rfl (by rw [hz]; rfl) hle
  clear hA0 hval0
  refine (text_walk _ _ l0 W hs0 hR0).mono fun e W' ⟨he, bel⟩ => ?_
  subst he
  exact ⟨_, rfl, _, _, _, [], _, [], hW', trodAll_mk1 (shut_bool Try.underlying4 _), (trodAll_cons_mk (Below.trod laidOut (by kernel_rfl) (of_decide_eq_true (by kernel_rfl)) k0 bel lt0) trodAll_mk0), rfl, bel.frame _, fun h => by cases h⟩

theorem over : Rows.frameTextRow.holds Try.pinned (OpenSpec.ofChange Rows.frameTextSpec) :=
  OpenClaim.holds_of_wide 8 Try.f8 rfl rfl rfl rfl rfl rfl rfl ⟨rfl, rfl, rfl, rfl, rfl⟩ rfl rfl rfl rfl rfl (by kernel_rfl) Try.func8 (by kernel_rfl)
    (of_decide_eq_true (by kernel_rfl)) (by unfold Func.isWrapper; first | (rw [if_pos (by decide +kernel)]; kernel_rfl) | (rw [if_neg (by decide +kernel)]; exact ⟨rfl, rfl⟩))
    (fun os started H enc _ => lifted os started H enc)

end Go.Proofs.Ytclamdpbdafmcaa.frameText
namespace Go.Proofs.Ytclamdpbdafmcaa
theorem frameText_holds : Rows.FrameTextSaid := frameText.over
#print axioms frameText_holds
end Go.Proofs.Ytclamdpbdafmcaa
