/-
  The walks of the document's named and Name, of both sides' PutName, and of the statements' own wide and kept; no statement is proved here.
-/
import Derived.Test.YtclamdpbdafmcaaName
import Derived.Test.YtclamdpbdafmcaaRefU
import Derived.Test.YtclamdpbdafmcaaPutU
import Derived.Lib.AppendStr
namespace Go.Proofs.Ytclamdpbdafmcaa
open Go.RowKit
set_option linter.unusedVariables false

theorem strCells_nums (r : List Int) (hb : Byt r) : Lib.strCells (strOfNums r) = U8 r := by
  unfold Lib.strCells U8
  rw [strOfNums_data, List.map_map]
  apply List.map_congr_left
  intro x hx
  have := hb.mem x hx
  simp only [Function.comp]
  rw [UInt8.toNat_ofNat']
  congr 1
  omega
/- The bytes of a string, appended to a slice of the call's own. -/
theorem wp_appStr {w0 w : World} {ops : Array Oper} {rest : List Oper} {o : Oper} {a : Act} {Q : Exit → Act → World → Prop} (hgd : o.guard = none) (s x : Operand)
    (ho : o.op = .call { callee := .builtin .append, args := #[s, x], argTypes := #[22, 9] }) {base : Nat} {v : Value} {l r : List Int}
    (hs : a.eval s = v) (hx : a.eval x = .string (strOfNums r)) (hh : Has base w0 w v l) (hb : Byt r) (hlen : l.length + r.length ≤ 140737488355328)
    (h : ∀ v' w', Has base w0 w' v' (l ++ r) → wpList Try.prog ops Q rest (a.put o.dst v') w') :
    wpList Try.prog ops Q (o :: rest) a w := by
  obtain ⟨i0, hi, hz0, hz1, hz2⟩ := info_parts Try.info5
  obtain ⟨hown, hbl, hle⟩ := hh
  have hsz := strOfNums_size r
  refine Lib.wpList_append_own_string w hgd s x 22 9 ho base 5 i0 Try.underlying22 Try.underlying9 hi hz0 hz1 hz2 v l.length (U8 l) hs hown (strOfNums r) hx (by unfold maxLen; omega) (by omega) hle ?_
  intro v' w' ho' hg _
  refine h v' w' ⟨?_, hbl.grown hg hle (fun k hk => (hown.lt k hk).1), Nat.le_trans hle hg.size⟩
  rw [List.length_append, show U8 (l ++ r) = U8 l ++ U8 r from by simp [U8], ← strCells_nums r hb, ← hsz]; exact ho'
theorem bytes_of (l : List Int) (hb : Byt l) (hlen : l.length ≤ 140737488351232) (w : World) :
    ∃ a c w1, (convert 9 22 (.string (strOfNums l))).run Try.prog w = .ok (.slice a l.length c) w1 ∧ Reads w1 (.slice a l.length c) l ∧ Grew w w1 := by
  have h := run_bytes_of_string (P := Try.prog) w 9 22 5 (strOfNums l) Try.underlying9 Try.underlying22 Try.underlying5
  rw [strOfNums_size] at h
  refine ⟨_, _, _, h, ?_, ((Grew.refl w).drew).alloc _⟩
  refine ⟨_, _, rfl, grownCap_ge _ _ _ _, grownCap_le_maxLen _ _ _ _ (by unfold maxLen; omega), (fun h => by cases h), Or.inr ⟨w.heap.size, 0, rfl, fun j hj => ?_⟩⟩
  have hsz : (strOfNums l).data.size = l.length := strOfNums_size l
  rw [Nat.zero_add]
  refine (World.cell?_alloc_mark w.drew _ _ _ j).trans ?_
  rw [bytesRow_at _ _ j (by omega)]
  have := str_at l hb j (by rw [strOfNums_size]; exact hj)
  rw [← this]; rfl
theorem Has.grewW {w w' : World} {v : Value} {l : List Int} (h : Has w.heap.size w w' v l) : Grew w w' := ⟨h.2.1, h.2.2⟩

/- Why a text is no name; its bytes. -/
def nf (l : List Int) : Int := if 65536 < l.length then 2 else if (U l).2 = true then 0 else 21
def nb (l : List Int) : List Int := PU l.length ++ l
def pn (l : List Int) : List Int := if nf l = 0 then nb l else []

theorem PU_len (n : Int) : (PU n).length ≤ 11 := by
  have h : ∀ f n, (putU f n).length ≤ f + 1 := by
    intro f
    induction f with
    | zero => intro n; simp [putU]
    | succ f ih => intro n; simp only [putU]; split; (simp; exact ih _); simp
  exact h 10 n
theorem byt_PU (n : Int) (h0 : 0 ≤ n) (h1 : n ≤ 18446744073709551615) : Byt (PU n) := by
  have h : ∀ f n, 0 ≤ n → n < 128 * 128 ^ f → ∀ x ∈ putU f n, 0 ≤ x ∧ x ≤ 255 := by
    intro f
    induction f with
    | zero => intro n h0 h1 x hx; simp [putU] at hx; omega
    | succ f ih =>
      intro n h0 h1 x hx
      simp only [putU] at hx
      split at hx
      · rcases List.mem_cons.1 hx with rfl | hx
        · omega
        · refine ih (n / 128) (by omega) ?_ x hx
          rw [Int.pow_succ] at h1
          omega
      · simp at hx; omega
  exact Byt.of_mem (h 10 n h0 (by have : (128 : Int) * 128 ^ 10 = 151115727451828646838272 := by decide
                                  omega))

set_option maxRecDepth 100000 in
theorem nf_any (l : List Int) (w : World) (hb : Byt l) (hlen : l.length ≤ 140737488351232) :
    Calls Try.prog 37 #[.string (strOfNums l)] w fun en w' => en = .returned (.int .i64 (nf l)) ∧ Grew w w' := by
  have hsz := strOfNums_size l
  have c := fun w => wf_any l w hb hlen
  by_cases hl : 65536 < l.length
  · have e : nf l = 2 := by unfold nf; rw [if_pos hl]
    rw [e]
    clear e hb c
    generalize strOfNums l = s at *
    go_enter Try.func37, Try.ntmps37
    go_wp2_with fail
    go_ret
    exact ⟨rfl, Grew.refl w⟩
  · obtain ⟨i, g, hu⟩ : ∃ i g, U l = (i, g) := ⟨_, _, rfl⟩
    rw [hu] at c
    cases g with
    | true =>
      have e : nf l = 0 := by unfold nf; rw [if_neg hl, hu]; rfl
      rw [e]
      clear e hb hu
      generalize strOfNums l = s at *
      go_enter Try.func37, Try.ntmps37
      go_wp2_with fail
      refine (c _).mono ?_
      rintro en w1 ⟨rfl, hg⟩
      clear c
      go_wp2_with fail
      go_ret
      exact ⟨rfl, hg⟩
    | false =>
      have e : nf l = 21 := by unfold nf; rw [if_neg hl, hu]; rfl
      rw [e]
      clear e hb hu
      generalize strOfNums l = s at *
      go_enter Try.func37, Try.ntmps37
      go_wp2_with fail
      refine (c _).mono ?_
      rintro en w1 ⟨rfl, hg⟩
      clear c
      go_wp2_with fail
      go_ret
      exact ⟨rfl, hg⟩

set_option maxRecDepth 100000 in
theorem nb_any (l : List Int) (w : World) (hb : Byt l) (hlen : l.length ≤ 140737488351232) :
    Calls Try.prog 38 #[.string (strOfNums l)] w fun en w' => ∃ v, en = .returned v ∧ Has w.heap.size w w' v (nb l) := by
  have hsz := strOfNums_size l
  have c := fun w => putU_any (l.length : Int) w (by omega) (by omega)
  have hpl := PU_len l.length
  have HB : Hid (Byt l) := hb
  have HS : Hid (strOfNums l = strOfNums l) := rfl
  clear hb
  unfold nb
  obtain ⟨s, hs⟩ : ∃ s, s = strOfNums l := ⟨_, rfl⟩
  rw [← hs] at hsz ⊢
  have HE : Hid (s = strOfNums l) := hs
  clear hs HS
  go_enter Try.func38, Try.ntmps38
  go_wp2_with fail
  refine (c _).mono ?_
  rintro en w1 ⟨v1, rfl, hh⟩
  clear c
  go_wp2_with (at_builtin; refine wp_appStr rfl _ _ rfl rfl (congrArg Value.string HE.out) hh HB.out (by omega) ?_; intro v' w2 hh2)
  go_ret
  exact ⟨_, rfl, hh2⟩

set_option maxRecDepth 100000 in
theorem putName_any (l : List Int) (w : World) (hb : Byt l) (hlen : l.length ≤ 140737488351232) :
    Calls Try.prog 15 #[.string (strOfNums l)] w fun en w' => ∃ v, en = .returned (.tuple #[v, .int .i64 (nf l)]) ∧ Reads w' v (pn l) ∧ Grew w w' := by
  have c := fun w => nf_any l w hb hlen
  have c2 := fun w => nb_any l w hb hlen
  unfold pn
  generalize strOfNums l = s at *
  obtain ⟨e, he⟩ : ∃ e, e = nf l := ⟨_, rfl⟩
  rw [← he] at c ⊢
  clear he hb
  by_cases h0 : e = 0
  · rw [if_pos h0]
    subst h0
    go_enter Try.func15, Try.ntmps15
    go_wp2_with fail
    refine (c _).mono ?_
    rintro en w1 ⟨rfl, hg⟩
    clear c
    go_wp2_with fail
    refine (c2 _).mono ?_
    rintro en w2 ⟨v2, rfl, hh⟩
    clear c2
    go_wp2_with fail
    go_ret2
    exact ⟨v2, rfl, hh.reads, hg.trans hh.grewW⟩
  · rw [if_neg h0]
    have h0' : (e != 0) = true := by simpa using h0
    clear c2 h0
    go_enter Try.func15, Try.ntmps15
    go_wp2_with fail
    refine (c _).mono ?_
    rintro en w1 ⟨rfl, hg⟩
    clear c
    go_wp2_with fail
    go_ret2
    exact ⟨_, rfl, ⟨none, 0, rfl, Nat.le_refl _, Nat.zero_le _, fun _ => rfl, Or.inl rfl⟩, hg⟩

theorem reads_nil (w : World) : Reads w (.slice none 0 0) [] := ⟨none, 0, rfl, Nat.le_refl _, Nat.zero_le _, fun _ => rfl, Or.inl rfl⟩
set_option maxRecDepth 100000 in
theorem refPutName_any (l : List Int) (w : World) (hb : Byt l) (hlen : l.length ≤ 140737488351232) :
    Calls Try.prog 16 #[.string (strOfNums l)] w fun en w' => ∃ v, en = .returned (.tuple #[v, .int .i64 (nf l)]) ∧ Reads w' v (pn l) ∧ Grew w w' := by
  have hsz := strOfNums_size l
  have hpl := PU_len l.length
  by_cases hl : 65536 < l.length
  · have e : nf l = 2 := by unfold nf; rw [if_pos hl]
    unfold pn
    rw [e, if_neg (by decide)]
    clear e hb
    generalize strOfNums l = s at *
    go_enter Try.func16, Try.ntmps16
    go_wp2_with fail
    go_ret2
    exact ⟨_, rfl, reads_nil _, Grew.refl w⟩
  · obtain ⟨i, g, hu⟩ : ∃ i g, U l = (i, g) := ⟨_, _, rfl⟩
    obtain ⟨a1, c1, w1, hcv, hr1, hg1⟩ := bytes_of l hb hlen w
    have c := refU_any _ l w1 hr1 hb hlen
    rw [hu] at c
    have cp := fun w => refPutU_any (l.length : Int) w (by omega) (by omega)
    cases g with
    | true =>
      have e : nf l = 0 := by unfold nf; rw [if_neg hl, hu]; rfl
      unfold pn
      rw [e, if_pos rfl]
      have HB : Hid (Byt l) := hb
      unfold nb
      clear e hb hu hr1
      obtain ⟨s, hs⟩ : ∃ s, s = strOfNums l := ⟨_, rfl⟩
      rw [← hs] at hsz hcv ⊢
      have HE : Hid (s = strOfNums l) := hs
      clear hs
      go_enter Try.func16, Try.ntmps16
      go_wp2_with fail
      refine c.mono ?_
      rintro en w2 ⟨rfl, hg2⟩
      clear c
      go_wp2_with fail
      refine (cp _).mono ?_
      rintro en w3 ⟨v3, rfl, hh⟩
      clear cp
      go_wp2_with (at_builtin; refine wp_appStr rfl _ _ rfl rfl (congrArg Value.string HE.out) hh HB.out (by omega) ?_; intro v' w4 hh4)
      go_ret2
      exact ⟨_, rfl, hh4.reads, (hg1.trans hg2).trans hh4.grewW⟩
    | false =>
      have e : nf l = 21 := by unfold nf; rw [if_neg hl, hu]; rfl
      unfold pn
      rw [e, if_neg (by decide)]
      clear e hb hu cp hr1
      generalize strOfNums l = s at *
      go_enter Try.func16, Try.ntmps16
      go_wp2_with fail
      refine c.mono ?_
      rintro en w2 ⟨rfl, hg⟩
      clear c
      go_wp2_with fail
      go_ret2
      exact ⟨_, rfl, reads_nil _, hg1.trans hg⟩
end Go.Proofs.Ytclamdpbdafmcaa
