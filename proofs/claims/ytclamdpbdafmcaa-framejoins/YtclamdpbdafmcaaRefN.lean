/-
  The walks of the document's named and Name, and of the statements' own wide and kept; no statement is proved here.
-/
import Derived.Test.YtclamdpbdafmcaaName
import Derived.Test.YtclamdpbdafmcaaRefU
namespace Go.Proofs.Ytclamdpbdafmcaa
open Go.RowKit
set_option linter.unusedVariables false

theorem ret_name {a a' : List Int} {p p' e e' : Int} (h1 : a = a') (h2 : p = p') (h3 : e = e') :
    Ending.returned (.tuple #[.string (strOfNums a), .int .i64 p, .int .i64 e]) = .returned (.tuple #[.string (strOfNums a'), .int .i64 p', .int .i64 e']) := by rw [h1, h2, h3]
theorem str_nil : strOfNums [] = ⟨#[]⟩ := rfl

set_option maxRecDepth 100000 in
set_option maxHeartbeats 1000000 in
theorem named_any (v : Value) (l : List Int) (p : Int) (E : Nat) (w : World) (hR : Reads w v l) (hb : Byt l) (hlen : l.length ≤ 140737488351232) (hE : E ≤ l.length) :
    Calls Try.prog 36 #[v, .int .i64 p, .int .i64 E] w fun en w' => en = .returned (.tuple #[.string (strOfNums (nm (l.take E) p).1), .int .i64 (nm (l.take E) p).2.1, .int .i64 (nm (l.take E) p).2.2]) ∧ Grew w w' := by
  have hl : (l.take E).length = E := by simp; omega
  have c := refU32_any v l p E w hR hb hlen
  obtain ⟨a, cap, rfl⟩ := hR.len
  have hrt := rd_take 32 false l p E hE
  have hcs := nm_cases (l.take E) p
  rw [hl] at hcs
  rw [← hrt] at c
  rcases hcs with ⟨n, q, e, h1, he, h2⟩ | ⟨n, N, Q, h1, hN, hp0, hp, hQ, ⟨hN1, hN2, h2⟩ | ⟨hN', hs, h2⟩ | ⟨hN', hs, i, ⟨hu, h2⟩ | ⟨hu, h2⟩⟩⟩ <;> rw [h1] at c <;> rw [h2] <;> simp only at c ⊢
  · have he' : (e != 0) = true := by simpa using he
    rw [str_nil]
    clear hR hb hrt h1 h2 he
    generalize n % 4294967296 = n' at *
    go_enter Try.func36, Try.ntmps36
    go_wp2_with fail
    refine c.mono ?_
    rintro en w1 ⟨rfl, rfl⟩
    clear c
    go_wp2_with fail
    go_ret3
    exact ⟨rfl, Grew.refl _⟩
  · rw [hN] at c
    rw [str_nil]
    clear hR hb hrt h1 h2 hN
    go_enter Try.func36, Try.ntmps36
    go_wp2_with fail
    refine c.mono ?_
    rintro en w1 ⟨rfl, rfl⟩
    clear c
    go_wp2_with fail
    go_ret3
    exact ⟨rfl, Grew.refl _⟩
  · rw [hN] at c
    rw [str_nil]
    have hd : decide ((E : Int) - Q < N) = true := by simp; omega
    clear hR hb hrt h1 h2 hN
    go_enter Try.func36, Try.ntmps36
    go_wp2_with fail
    refine c.mono ?_
    rintro en w1 ⟨rfl, rfl⟩
    clear c
    go_wp2_with fail
    go_ret3
    exact ⟨rfl, Grew.refl _⟩
  · rw [hN] at c
    rw [str_nil]
    have hd : decide ((E : Int) - Q < N) = false := by simp; omega
    have htt : (l.take E).take (Q + N) = l.take (Q + N) := by rw [List.take_take, Nat.min_eq_left hs]
    rw [htt] at hu
    obtain ⟨a', c', hsl, hr'⟩ := hR.mid_ Q (Q + N) (by omega) (by omega)
    rw [Nat.add_sub_cancel_left] at hsl hr'
    have hsl' : ∀ (w' : World), (Instr.slice 22 (.slice a l.length cap) (some (.int .i64 Q)) (some (.int .i64 ((Q : Int) + N))) none).run Try.prog w' = .ok (.slice a' N c') w' := by
      intro w'; have := hsl w'; rwa [show ((Q + N : Nat) : Int) = (Q : Int) + N from by omega] at this
    have c2 := refU_any _ _ w hr' ((hb.take _).drop _) (by simp; omega)
    have hbd := U_bd ((l.take (Q + N)).drop Q)
    rw [hu] at c2 hbd
    have hi : 0 ≤ i ∧ i ≤ N + 4 := by simp at hbd; omega
    clear hR hb hrt h1 h2 hN hsl hr' hu htt hbd
    go_enter Try.func36, Try.ntmps36
    go_wp2_with fail
    refine c.mono ?_
    rintro en w1 ⟨rfl, rfl⟩
    clear c
    go_wp2_with fail
    refine c2.mono ?_
    rintro en w2 ⟨rfl, hg⟩
    clear c2
    go_wp2_with fail
    go_ret3
    exact ⟨rfl, hg⟩
  · rw [hN] at c
    have hd : decide ((E : Int) - Q < N) = false := by simp; omega
    have htt : (l.take E).take (Q + N) = l.take (Q + N) := by rw [List.take_take, Nat.min_eq_left hs]
    rw [htt] at hu ⊢
    obtain ⟨a', c', hsl, hr'⟩ := hR.mid_ Q (Q + N) (by omega) (by omega)
    rw [Nat.add_sub_cancel_left] at hsl hr'
    have hsl' : ∀ (w' : World), (Instr.slice 22 (.slice a l.length cap) (some (.int .i64 Q)) (some (.int .i64 ((Q : Int) + N))) none).run Try.prog w' = .ok (.slice a' N c') w' := by
      intro w'; have := hsl w'; rwa [show ((Q + N : Nat) : Int) = (Q : Int) + N from by omega] at this
    have c2 := refU_any _ _ w hr' ((hb.take _).drop _) (by simp; omega)
    rw [hu] at c2
    have HR : Hid (Reads w (.slice a' N c') ((l.take (Q + N)).drop Q)) := hr'
    clear hR hb hrt h1 h2 hN hsl hr' hu htt
    go_enter Try.func36, Try.ntmps36
    go_wp2_with fail
    refine c.mono ?_
    rintro en w1 ⟨rfl, rfl⟩
    clear c
    go_wp2_with fail
    refine c2.mono ?_
    rintro en w2 ⟨rfl, hg⟩
    clear c2
    have hstr := (hg.reads HR.out).str
    go_wp2_with fail
    go_ret3
    exact ⟨rfl, hg⟩

theorem nm_arg {l : List Int} {p : Int} (h : ¬ (0 ≤ p ∧ p ≤ l.length)) : nm l p = ([], 0, 1) := nm_rd (rd_out (by omega)) (by decide)
set_option maxRecDepth 100000 in
theorem refName_any (v : Value) (l : List Int) (p : Int) (w : World) (hR : Reads w v l) (hb : Byt l) (hlen : l.length ≤ 140737488351232) :
    Calls Try.prog 13 #[v, .int .i64 p] w fun en w' => en = .returned (.tuple #[.string (strOfNums (nm l p).1), .int .i64 (nm l p).2.1, .int .i64 (nm l p).2.2]) ∧ Grew w w' := by
  obtain ⟨a, cap, rfl⟩ := hR.len
  have c := fun p => named_any _ l p l.length w hR hb hlen (Nat.le_refl _)
  rw [List.take_length] at c
  by_cases h0 : 0 ≤ p
  · by_cases h1 : p ≤ l.length
    · have cp := c p
      have d0 : decide (p < 0) = false := by simp; omega
      have d1 : decide ((l.length : Int) < p) = false := by simp; omega
      clear hR hb c h0 h1
      generalize nm l p = r at *
      generalize strOfNums r.1 = s at *
      go_enter Try.func13, Try.ntmps13
      go_wp2_with fail
      refine cp.mono ?_
      rintro en w1 ⟨rfl, hg⟩
      clear cp
      go_wp2_with fail
      go_ret3
      exact ⟨rfl, hg⟩
    · rw [nm_arg (by omega)]
      have d0 : decide (p < 0) = false := by simp; omega
      have d1 : decide ((l.length : Int) < p) = true := by simp; omega
      clear hR hb c
      simp only [str_nil]
      go_enter Try.func13, Try.ntmps13
      go_wp2_with fail
      go_ret3
      exact ⟨rfl, Grew.refl _⟩
  · rw [nm_arg (by omega)]
    have d0 : decide (p < 0) = true := by simp; omega
    clear hR hb c
    simp only [str_nil]
    go_enter Try.func13, Try.ntmps13
    go_wp2_with fail
    go_ret3
    exact ⟨rfl, Grew.refl _⟩

/- One byte more, at whatever length the arguments reach. -/
theorem wp_app9 {w0 w : World} {ops : Array Oper} {rest : List Oper} {o : Oper} {a : Act} {Q : Exit → Act → World → Prop} (hgd : o.guard = none) (s x : Operand)
    (ho : o.op = .call { callee := .builtin .append, args := #[s, x], argTypes := #[22, 22] }) {base : Nat} {v : Value} {l : List Int} {c : Int} {t : TypeId}
    (hs : a.eval s = v) (hx : a.eval x = .slice (some ⟨w.heap.size, 0, none⟩) 1 1) (hh : Has base w0 w v l) (hlen : l.length ≤ 140737488351300)
    (h : ∀ v' w', Has base w0 w' v' (l ++ [c]) → wpList Try.prog ops Q rest (a.put o.dst v') w') :
    wpList Try.prog ops Q (o :: rest) a (w.alloc (.cells #[.int .u8 c] t)) := by
  obtain ⟨i0, hi, hz0, hz1, hz2⟩ := info_parts Try.info5
  obtain ⟨hown, hb, hle⟩ := hh
  refine wpList_append_own _ hgd s x 22 ho base 5 i0 (.int .u8 0) 1 1 Try.underlying22 hi hz0 hz1 hz2 rfl (by decide) v l.length (U8 l) hs (hown.alloc _) ⟨w.heap.size, 0, none⟩ 1 1 [.int .u8 c] hx rfl (cell_one_new _ _ _) (by simp [Value.oneCell']) (by unfold maxLen; omega) (by omega) (by simp; omega) ?_
  intro v' w' ho' hg _
  refine h v' w' ⟨?_, (hb.alloc hle _).grown hg (by simp; omega) (fun k hk => (hown.lt k hk).1), ?_⟩
  · rw [U8_snoc, List.length_append]; exact ho'
  · have := hg.size; simp at this; omega
/- Nine marked bytes behind. -/
def wd (k : Nat) : List Int := (List.range k).map fun (i : Nat) => (200 : Int) + i
theorem wd_succ (k : Nat) : wd (k + 1) = wd k ++ [200 + (k : Int)] := by simp [wd, List.range_succ]
theorem wd_len (k : Nat) : (wd k).length = k := by simp [wd]
set_option maxRecDepth 100000 in
set_option maxHeartbeats 1000000 in
theorem wide_any (v : Value) (l : List Int) (w : World) (hR : Reads w v l) (hlen : l.length ≤ 140737488351232) :
    Calls Try.prog 9 #[v] w fun en w' => ∃ v', en = .returned v' ∧ Has w.heap.size w w' v' (l ++ wd 9) := by
  have hh := Has.nil w
  obtain ⟨a, cap, rfl⟩ := hR.len
  have HR : Hid (Reads w (.slice a l.length cap) l) := hR
  clear hR
  go_enter Try.func9, Try.ntmps9
  go_wp2_with (at_builtin; refine wp_appS rfl _ _ rfl rfl rfl hh HR.out (by simp; omega) ?_; intro v' w1 hh1)
  clear hh
  simp only [List.nil_append] at hh1
  go_loopw [3, 4] (fun o i wr => ∃ k : Nat, k ≤ 9 ∧ i = .int .i64 k ∧ Has w.heap.size w wr o (l ++ wd k)) (fun _ i _ => 9 - (intOf i).toNat)
  case atStart => exact ⟨0, by omega, rfl, by simpa [wd] using hh1⟩
  case round =>
    obtain ⟨k, hk, rfl, hh⟩ := hrel
    clear hh1
    have hl9 : (l ++ wd k).length = l.length + k := by rw [List.length_append, wd_len]
    by_cases h9 : k < 9
    · go_wp2_with (at_builtin; refine wp_app9 rfl _ _ rfl rfl rfl hh (by omega) ?_; intro v' w1 hh1)
      go_roundw
      case rel => exact ⟨k + 1, by omega, by go_num, by rw [wd_succ, ← List.append_assoc]; exact hh1⟩
      case measure => simp [intOf]; omega
    · go_wp2_with fail
      go_ret
      have : k = 9 := by omega
      subst this
      exact ⟨_, rfl, hh⟩
end Go.Proofs.Ytclamdpbdafmcaa
