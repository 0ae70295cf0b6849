/-
  Names and kinds, written by the document and by the program; no statement is proved here.
-/
import Derived.Test.YtchehejjdinifaaGreatDoorN2F
import Derived.Lib.AppendStr
import Derived.Test.YtchehejjdinifaaGreatDoorPutU
import Derived.Test.YtchehejjdinifaaGreatDoorWr5
import Derived.Test.YtchehejjdinifaaGreatDoorDwD
namespace Go.Proofs.YtchehejjdinifaaGreatDoor
open Go.RowKit
set_option linter.unusedVariables false
set_option linter.unusedSimpArgs false

theorem ret_place' {a a' : Int} {b b' : Bool} (h1 : a = a') (h2 : b = b') : Ending.returned (.tuple #[.int .i64 a, .bool b]) = .returned (.tuple #[.int .i64 a', .bool b']) := by rw [h1, h2]
theorem Grew.of_drewN (w : World) (n : Nat) : Grew w (w.drewN n) := (Grew.refl w).drewN n
theorem stop_run {l : List Int} {a n : Nat} {f : Int} (hf : f = l.getD a 0) (hn : n = lt f) (h0 : n ≠ 0) : stop l a = run l a n f 4 1 := by
  subst hn; subst hf; unfold stop; rw [if_neg h0]
theorem run_go {l : List Int} {a n : Nat} {f : Int} {g k : Nat} (h : k < n) (h1 : a + k < l.length) (h2 : fl f k (l.getD (a + k) 0) = true) : run l a n f (g + 1) k = run l a n f g (k + 1) := by
  simp only [run]; rw [if_pos h, if_pos ⟨h1, h2⟩]
theorem run_no {l : List Int} {a n : Nat} {f : Int} {g k : Nat} (h : k < n) (h1 : ¬ (a + k < l.length ∧ fl f k (l.getD (a + k) 0) = true)) : run l a n f (g + 1) k = k := by
  simp only [run]; rw [if_pos h, if_neg h1]
theorem run_end {l : List Int} {a n : Nat} {f : Int} {g k : Nat} (h : ¬ k < n) : run l a n f g k = k := by
  cases g with
  | zero => rfl
  | succ g => simp only [run]; rw [if_neg h]
end Go.Proofs.YtchehejjdinifaaGreatDoor

namespace Go.Proofs.YtchehejjdinifaaGreatDoor
open Go.RowKit
set_option linter.unusedVariables false
set_option linter.unusedSimpArgs false

theorem strCells_nums (r : List Int) (hb : Byt r) : Lib.strCells (strOfNums r) = U8 r := by
  unfold Lib.strCells U8
  rw [strOfNums_data, List.map_map]
  apply List.map_congr_left
  intro x hx
  have := hb.mem x hx
  simp only [Function.comp]
  rw [UInt8.toNat_ofNat']
  congr 1
  omega
/- The bytes of a string, appended to a slice of the call's own. -/
theorem wp_appStr {w0 w : World} {ops : Array Oper} {rest : List Oper} {o : Oper} {a : Act} {Q : Exit → Act → World → Prop} (hgd : o.guard = none) (s x : Operand)
    (ho : o.op = .call { callee := .builtin .append, args := #[s, x], argTypes := #[38, 9] }) {base : Nat} {v : Value} {l r : List Int}
    (hs : a.eval s = v) (hx : a.eval x = .string (strOfNums r)) (hh : Has base w0 w v l) (hb : Byt r) (hlen : l.length + r.length ≤ 140737488355328)
    (h : ∀ v' w', Has base w0 w' v' (l ++ r) → wpList Tryz.prog ops Q rest (a.put o.dst v') w') :
    wpList Tryz.prog ops Q (o :: rest) a w := by
  obtain ⟨i0, hi, hz0, hz1, hz2⟩ := info_parts infoB
  obtain ⟨hown, hbl, hle⟩ := hh
  have hsz := strOfNums_size r
  refine Lib.wpList_append_own_string w hgd s x 38 9 ho base 5 i0 Tryz.underlying38 Tryz.underlying9 hi hz0 hz1 hz2 v l.length (U8 l) hs hown (strOfNums r) hx (by unfold maxLen; omega) (by omega) hle ?_
  intro v' w' ho' hg _
  refine h v' w' ⟨?_, hbl.grown hg hle (fun k hk => (hown.lt k hk).1), Nat.le_trans hle hg.size⟩
  rw [List.length_append, show U8 (l ++ r) = U8 l ++ U8 r from by simp [U8], ← strCells_nums r hb, ← hsz]; exact ho'
theorem bytes_of (l : List Int) (hb : Byt l) (hlen : l.length ≤ 140737488351232) (w : World) :
    ∃ a c w1, (convert 9 38 (.string (strOfNums l))).run Tryz.prog w = .ok (.slice a l.length c) w1 ∧ Reads w1 (.slice a l.length c) l ∧ Grew w w1 := by
  have h := run_bytes_of_string (P := Tryz.prog) w 9 38 5 (strOfNums l) Tryz.underlying9 Tryz.underlying38 Tryz.underlying5
  rw [strOfNums_size] at h
  refine ⟨_, _, _, h, ?_, ((Grew.refl w).drew).alloc _⟩
  refine ⟨_, _, rfl, grownCap_ge _ _ _ _, grownCap_le_maxLen _ _ _ _ (by unfold maxLen; omega), (fun h => by cases h), Or.inr ⟨w.heap.size, 0, rfl, fun j hj => ?_⟩⟩
  have hsz : (strOfNums l).data.size = l.length := strOfNums_size l
  rw [Nat.zero_add]
  refine (World.cell?_alloc_mark w.drew _ _ _ j).trans ?_
  rw [bytesRow_at _ _ j (by omega)]
  have := str_at l hb j (by rw [strOfNums_size]; exact hj)
  rw [← this]; rfl
theorem Has.grewW {w w' : World} {v : Value} {l : List Int} (h : Has w.heap.size w w' v l) : Grew w w' := ⟨h.2.1, h.2.2⟩
/- Why a text is no name; its bytes. -/
def nf (l : List Int) : Int := if 65536 < l.length then 2 else if (U l).2 = true then 0 else 21
def nb (l : List Int) : List Int := PU l.length ++ l
def pn (l : List Int) : List Int := if nf l = 0 then nb l else []
theorem byt_PU (n : Int) (h0 : 0 ≤ n) (h1 : n ≤ 18446744073709551615) : Byt (PU n) := by
  have h : ∀ f n, 0 ≤ n → n < 128 * 128 ^ f → ∀ x ∈ putU f n, 0 ≤ x ∧ x ≤ 255 := by
    intro f
    induction f with
    | zero => intro n h0 h1 x hx; simp [putU] at hx; omega
    | succ f ih =>
      intro n h0 h1 x hx
      simp only [putU] at hx
      split at hx
      · rcases List.mem_cons.1 hx with rfl | hx
        · omega
        · refine ih (n / 128) (by omega) ?_ x hx
          rw [Int.pow_succ] at h1
          omega
      · simp at hx; omega
  exact Byt.of_mem (h 10 n h0 (by have : (128 : Int) * 128 ^ 10 = 151115727451828646838272 := by decide
                                  omega))
set_option maxRecDepth 100000 in
theorem nf_any (l : List Int) (w : World) (hb : Byt l) (hlen : l.length ≤ 140737488351232) :
    Calls Tryz.prog 79 #[.string (strOfNums l)] w fun en w' => en = .returned (.int .i64 (nf l)) ∧ Grew w w' := by
  have hsz := strOfNums_size l
  have c := fun w => wf_any l w hb hlen
  by_cases hl : 65536 < l.length
  · have e : nf l = 2 := by unfold nf; rw [if_pos hl]
    rw [e]
    clear e hb c
    generalize strOfNums l = s at *
    go_enter Tryz.func79, Tryz.ntmps79
    go_wp2_with fail
    go_ret
    exact ⟨rfl, Grew.refl w⟩
  · obtain ⟨i, g, hu⟩ : ∃ i g, U l = (i, g) := ⟨_, _, rfl⟩
    rw [hu] at c
    cases g with
    | true =>
      have e : nf l = 0 := by unfold nf; rw [if_neg hl, hu]; rfl
      rw [e]
      clear e hb hu
      generalize strOfNums l = s at *
      go_enter Tryz.func79, Tryz.ntmps79
      go_wp2_with fail
      refine (c _).mono ?_
      rintro en w1 ⟨rfl, hg⟩
      clear c
      go_wp2_with fail
      go_ret
      exact ⟨rfl, hg⟩
    | false =>
      have e : nf l = 21 := by unfold nf; rw [if_neg hl, hu]; rfl
      rw [e]
      clear e hb hu
      generalize strOfNums l = s at *
      go_enter Tryz.func79, Tryz.ntmps79
      go_wp2_with fail
      refine (c _).mono ?_
      rintro en w1 ⟨rfl, hg⟩
      clear c
      go_wp2_with fail
      go_ret
      exact ⟨rfl, hg⟩
set_option maxRecDepth 100000 in
theorem nb_any (l : List Int) (w : World) (hb : Byt l) (hlen : l.length ≤ 140737488351232) :
    Calls Tryz.prog 80 #[.string (strOfNums l)] w fun en w' => ∃ v, en = .returned v ∧ Has w.heap.size w w' v (nb l) := by
  have hsz := strOfNums_size l
  have c := fun w => putU_any (l.length : Int) w (by omega) (by omega)
  have hpl := PU_len l.length
  have HB : Hid (Byt l) := hb
  have HS : Hid (strOfNums l = strOfNums l) := rfl
  clear hb
  unfold nb
  obtain ⟨s, hs⟩ : ∃ s, s = strOfNums l := ⟨_, rfl⟩
  rw [← hs] at hsz ⊢
  have HE : Hid (s = strOfNums l) := hs
  clear hs HS
  go_enter Tryz.func80, Tryz.ntmps80
  go_wp2_with fail
  refine (c _).mono ?_
  rintro en w1 ⟨v1, rfl, hh⟩
  clear c
  go_wp2_with (at_builtin; refine wp_appStr rfl _ _ rfl rfl (congrArg Value.string HE.out) hh HB.out (by omega) ?_; intro v' w2 hh2)
  go_ret
  exact ⟨_, rfl, hh2⟩
set_option maxRecDepth 100000 in
theorem putName_any (l : List Int) (w : World) (hb : Byt l) (hlen : l.length ≤ 140737488351232) :
    Calls Tryz.prog 48 #[.string (strOfNums l)] w fun en w' => ∃ v, en = .returned (.tuple #[v, .int .i64 (nf l)]) ∧ Reads w' v (pn l) ∧ Grew w w' := by
  have c := fun w => nf_any l w hb hlen
  have c2 := fun w => nb_any l w hb hlen
  unfold pn
  generalize strOfNums l = s at *
  obtain ⟨e, he⟩ : ∃ e, e = nf l := ⟨_, rfl⟩
  rw [← he] at c ⊢
  clear he hb
  by_cases h0 : e = 0
  · rw [if_pos h0]
    subst h0
    go_enter Tryz.func48, Tryz.ntmps48
    go_wp2_with fail
    refine (c _).mono ?_
    rintro en w1 ⟨rfl, hg⟩
    clear c
    go_wp2_with fail
    refine (c2 _).mono ?_
    rintro en w2 ⟨v2, rfl, hh⟩
    clear c2
    go_wp2_with fail
    go_ret2
    exact ⟨v2, rfl, hh.reads, hg.trans hh.grewW⟩
  · rw [if_neg h0]
    have h0' : (e != 0) = true := by simpa using h0
    clear c2 h0
    go_enter Tryz.func48, Tryz.ntmps48
    go_wp2_with fail
    refine (c _).mono ?_
    rintro en w1 ⟨rfl, hg⟩
    clear c
    go_wp2_with fail
    go_ret2
    exact ⟨_, rfl, ⟨none, 0, rfl, Nat.le_refl _, Nat.zero_le _, fun _ => rfl, Or.inl rfl⟩, hg⟩
theorem reads_nil (w : World) : Reads w (.slice none 0 0) [] := ⟨none, 0, rfl, Nat.le_refl _, Nat.zero_le _, fun _ => rfl, Or.inl rfl⟩
end Go.Proofs.YtchehejjdinifaaGreatDoor

namespace Go.Proofs.YtchehejjdinifaaGreatDoor
open Go.RowKit
set_option linter.unusedVariables false
set_option linter.unusedSimpArgs false
set_option linter.constructorNameAsVariable false

def nameW (s : List Int) : Except Nat (List Int) := if nf s = 0 then .ok (nb s) else .error (nf s).toNat
theorem nf_ways (s : List Int) : nf s = 0 ∨ nf s = 2 ∨ nf s = 21 := by
  unfold nf
  split
  · omega
  · split <;> omega
theorem nb_len {s : List Int} (h : nf s = 0) : (nb s).length ≤ 65547 := by
  unfold nf at h
  split at h
  · omega
  · have := PU_len s.length
    unfold nb
    rw [List.length_append]
    omega
theorem pn_len (s : List Int) : (pn s).length ≤ 65547 := by
  unfold pn
  split
  · exact nb_len (by assumption)
  · simp
set_option maxRecDepth 100000 in
set_option maxHeartbeats 1000000 in
theorem name2 {b B : Nat} {w : World} {l : List Int} (h : WS b B w l) (s : List Int) (hB : Byt s) (hs : s.length ≤ 140737488351232) (hl : l.length ≤ 17592186040000) :
    Calls Tryz.prog 31 #[.pointer (some ⟨b, 0, none⟩), .string (strOfNums s)] w (W2 b B w l (nameW s)) := by
  have H : Hid (WS b B w l) := h
  have hb : b < w.heap.size := h.blt
  have C := putName_any s w hB hs
  clear h
  unfold nameW
  generalize hst : strOfNums s = str at *
  clear hst
  by_cases h0 : nf s = 0
  · rw [if_pos h0]
    have hp : pn s = nb s := by unfold pn; rw [if_pos h0]
    have hbd := nb_len h0
    rw [h0, hp] at C
    clear hp h0
    generalize nb s = r at *
    go_enter Tryz.func31, Tryz.ntmps31
    go_wp2_with fail
    refine C.mono ?_
    rintro en w1 ⟨v, rfl, r1, g1⟩
    obtain ⟨va, vc, hv⟩ := r1.len
    subst hv
    have S1 : Hid (WS b B w1 l) := H.out.grew g1
    have T1 : Hid (WT b B w w1) := WT.of_grew g1
    have R1 : Hid (Reads w1 (.slice va r.length vc) r) := r1
    clear C g1 r1
    go_wp2_with fail
    refine (W2.okc (put2 S1.out R1.out (by omega)) rfl).mono ?_
    rintro en w2 ⟨rfl, t2, s2⟩
    have T2 : Hid (WT b B w w2) := T1.out.trans t2
    have S2 : Hid (WS b B w2 (l ++ r)) := s2
    clear t2 s2
    go_wp2_with fail
    go_end0
    exact ⟨rfl, T2.out, S2.out⟩
  · rw [if_neg h0]
    obtain ⟨k, hk, hk0⟩ : ∃ k : Nat, nf s = k ∧ k ≠ 0 := by
      rcases nf_ways s with h | h | h
      · exact absurd h h0
      · exact ⟨2, h, by decide⟩
      · exact ⟨21, h, by decide⟩
    rw [hk] at C ⊢
    have he : ((k : Int) != 0) = true := by simp; omega
    rw [Int.toNat_natCast]
    clear h0 hk
    generalize pn s = r at *
    go_enter Tryz.func31, Tryz.ntmps31
    go_wp2_with fail
    refine C.mono ?_
    rintro en w1 ⟨v, rfl, r1, g1⟩
    obtain ⟨va, vc, hv⟩ := r1.len
    subst hv
    have T1 : Hid (WT b B w w1) := WT.of_grew g1
    obtain ⟨o, h1, h2⟩ := (H.out.grew g1).ex
    obtain ⟨a, c, rfl⟩ := row_one h2
    have c0 := cell_of h1 0
    simp at c0
    clear C g1 r1 h1 h2
    go_wp2_with fail
    refine (giveUp_any _ _ _).mono ?_
    rintro en w9 ⟨rfl, h9⟩
    obtain rfl := h9.symm
    go_wp2_with fail
    exact ⟨rfl, ⟨_, rfl⟩, T1.out⟩
end Go.Proofs.YtchehejjdinifaaGreatDoor
