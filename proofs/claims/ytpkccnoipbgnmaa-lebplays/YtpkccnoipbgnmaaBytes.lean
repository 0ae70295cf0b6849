/-
  The walks of the cursor's Byte and Bytes; no statement is proved here.
-/
import Derived.Test.YtpkccnoipbgnmaaNext
namespace Go.Proofs.Ytpkccnoipbgnmaa
open Go.RowKit
set_option linter.unusedVariables false
set_option maxHeartbeats 400000 in
theorem rest_mid (b0 g len cap F T : Nat) (cs : Array Value) (ty : TypeId) (w : World) (h : w.heap[b0]? = some (.cells cs ty (0, 0))) (h0 : cs[0]? = some (.slice (some ⟨g, 0, none⟩) len cap))
    (h1 : cs[1]? = some (.int .i64 (F : Int))) (h2 : cs[2]? = some (.int .i64 (T : Int))) (hft : F < T) (ht : T ≤ len) (hlc : len ≤ cap) (hm : cap ≤ maxLen) :
    Calls Try.prog 61 #[.pointer (some ⟨b0, 0, none⟩)] w fun en w' => en = .returned (.slice (some ⟨g, F, none⟩) (T - F) (cap - F)) ∧ ∃ n, w' = w.drewN n := by
  unfold maxLen at hm
  have c0 := (cell_of h 0).trans h0
  have c1 := (cell_of h 1).trans h1
  have c2 := (cell_of h 2).trans h2
  clear h h0 h1 h2
  have q1 : (F : Int) ≤ (T : Int) := by omega
  have q2 : (T : Int) ≤ (cap : Int) := by omega
  have q3 : (0 : Int) ≤ (F : Int) := by omega
  go_enter Try.func61, Try.ntmps61
  go_wp2
  go_quiet (fail)
  go_wp2
  go_ret
  exact ⟨rfl, _, rfl⟩
set_option maxHeartbeats 400000 in
theorem rest_emp (b0 g len cap F : Nat) (cs : Array Value) (ty : TypeId) (w : World) (h : w.heap[b0]? = some (.cells cs ty (0, 0))) (h0 : cs[0]? = some (.slice (some ⟨g, 0, none⟩) len cap))
    (h1 : cs[1]? = some (.int .i64 (F : Int))) (h2 : cs[2]? = some (.int .i64 (F : Int))) (ht : F ≤ len) (hlc : len ≤ cap) (hm : cap ≤ maxLen) :
    Calls Try.prog 61 #[.pointer (some ⟨b0, 0, none⟩)] w fun en w' => ∃ v, en = .returned v ∧ Reads w' v [] ∧ ∃ n, w' = w.drewN n := by
  have hm' := hm
  unfold maxLen at hm
  have c0 := (cell_of h 0).trans h0
  have c1 := (cell_of h 1).trans h1
  have c2 := (cell_of h 2).trans h2
  clear h h0 h1 h2
  have q2 : (F : Int) ≤ (cap : Int) := by omega
  have q3 : (0 : Int) ≤ (F : Int) := by omega
  go_enter Try.func61, Try.ntmps61
  go_wp2
  go_quiet (fail)
  go_wp2
  all_goals go_ret
  · exact ⟨_, rfl, ⟨_, _, rfl, Nat.zero_le _, Nat.zero_le _, (fun h => by cases h), Or.inl rfl⟩, _, rfl⟩
  · exact ⟨_, rfl, ⟨_, _, rfl, Nat.zero_le _, by unfold maxLen; omega, (fun h => by cases h), Or.inl rfl⟩, _, rfl⟩
set_option maxHeartbeats 400000 in
theorem rest_nil (b0 : Nat) (cs : Array Value) (ty : TypeId) (w : World) (h : w.heap[b0]? = some (.cells cs ty (0, 0))) (h0 : cs[0]? = some (.slice none 0 0))
    (h1 : cs[1]? = some (.int .i64 0)) (h2 : cs[2]? = some (.int .i64 0)) :
    Calls Try.prog 61 #[.pointer (some ⟨b0, 0, none⟩)] w fun en w' => ∃ v, en = .returned v ∧ Reads w' v [] ∧ ∃ n, w' = w.drewN n := by
  have c0 := (cell_of h 0).trans h0
  have c1 := (cell_of h 1).trans h1
  have c2 := (cell_of h 2).trans h2
  clear h h0 h1 h2
  go_enter Try.func61, Try.ntmps61
  go_wp2
  go_quiet (fail)
  go_wp2
  go_ret
  exact ⟨_, rfl, ⟨_, _, rfl, Nat.zero_le _, Nat.zero_le _, (fun _ => rfl), Or.inl rfl⟩, _, rfl⟩

/- The bytes of a cursor that New made: nil, or a row of its own. -/
def OwnB (w : World) (v : Value) (l : List Int) : Prop := Reads w v l ∧ ((v = .slice none 0 0 ∧ l = []) ∨ ∃ g cap, v = .slice (some ⟨g, 0, none⟩) l.length cap)
theorem seg_len {l : List Int} {F T : Nat} (h1 : F ≤ T) (h2 : T ≤ l.length) : (seg l F T).length = T - F := by simp [seg]; omega
theorem seg_getD {l : List Int} {F T j : Nat} (h : j < T - F) : (seg l F T).getD j 0 = l.getD (F + j) 0 := by
  unfold seg
  simp only [List.getD, List.getElem?_drop, List.getElem?_take]
  rw [if_pos (by omega)]
theorem rest_any (b0 F T : Nat) (l : List Int) (v : Value) (cs : Array Value) (ty : TypeId) (w : World) (h : w.heap[b0]? = some (.cells cs ty (0, 0))) (h0 : cs[0]? = some v)
    (h1 : cs[1]? = some (.int .i64 (F : Int))) (h2 : cs[2]? = some (.int .i64 (T : Int))) (hft : F ≤ T) (ht : T ≤ l.length) (hO : OwnB w v l) :
    Calls Try.prog 61 #[.pointer (some ⟨b0, 0, none⟩)] w fun en w' => ∃ v', en = .returned v' ∧ Reads w' v' (seg l F T) ∧ ∃ n, w' = w.drewN n := by
  obtain ⟨hR, hO⟩ := hO
  rcases hO with ⟨rfl, rfl⟩ | ⟨g, cap, rfl⟩
  · simp at ht
    obtain rfl : T = 0 := by omega
    obtain rfl : F = 0 := by omega
    have e : seg [] 0 0 = [] := rfl
    rw [e]
    exact rest_nil b0 cs ty w h h0 h1 h2
  · obtain ⟨a, cap', hv, hlc, hm, hn, hc⟩ := hR
    injection hv with ha _ hcap
    subst ha; subst hcap
    by_cases hlt : F < T
    · refine (rest_mid b0 g l.length cap F T cs ty w h h0 h1 h2 hlt ht hlc hm).mono ?_
      rintro en w' ⟨rfl, n, rfl⟩
      refine ⟨_, rfl, ⟨_, cap - F, by rw [seg_len hft ht], by rw [seg_len hft ht]; omega, by omega, (fun h => by cases h), Or.inr ⟨g, F, rfl, fun j hj => ?_⟩⟩, n, rfl⟩
      rw [seg_len hft ht] at hj
      rcases hc with rfl | ⟨b, off, hb, hc⟩
      · simp at ht; omega
      · simp only [Option.some.injEq, Addr.mk.injEq] at hb
        obtain ⟨rfl, rfl, _⟩ := hb
        have := hc (F + j) (by omega)
        rw [Nat.zero_add] at this
        rw [seg_getD hj]
        exact this
    · obtain rfl : F = T := by omega
      have e : seg l F F = [] := by simp [seg]
      rw [e]
      exact rest_emp b0 g l.length cap F cs ty w h h0 h1 h2 ht hlc hm
theorem OwnB.below {w w' : World} {v : Value} {l : List Int} (h : OwnB w v l) (hb : Below w.heap.size w w') : OwnB w' v l := ⟨h.1.below hb, h.2⟩
theorem OwnB.form {w : World} {v : Value} {l : List Int} (h : OwnB w v l) : ∃ a cap, v = .slice a l.length cap := h.1.len
theorem OwnB.put {w w' : World} {v : Value} {l : List Int} {bc : Nat} {a : Option Addr} {n c : Nat} {f t pl wy : Int} {o : Obj} (h : OwnB w v l) (hb : w.heap[bc]? = some (ccur (.slice a n c) f t pl wy)) (hp : Put bc o w w') : OwnB w' v l :=
  ⟨h.1.put hb ccur_no hp, h.2⟩
theorem OwnB.putD {w w' : World} {v : Value} {l : List Int} {bc : Nat} {a : Option Addr} {n c : Nat} {f t pl wy : Int} {o : Obj} (h : OwnB w v l) (hb : w.heap[bc]? = some (dcur (.slice a n c) f t pl wy)) (hp : Put bc o w w') : OwnB w' v l :=
  ⟨h.1.put hb dcur_no hp, h.2⟩

theorem seg_one {l : List Int} {F : Nat} (h : F < l.length) : seg l F (F + 1) = [l.getD F 0] := by
  have h1 := seg_step (l := l) (a := F) (e := F + 1) (k := 0) (by omega) (by omega)
  have h2 := seg_end (l := l) (a := F) (e := F + 1) (k := 0 + 1) (by omega)
  rw [h2, List.drop_zero, Nat.add_zero] at h1
  exact h1
set_option maxHeartbeats 1000000 in
theorem byte_good (bc : Nat) (l : List Int) (F T : Nat) (pl : Int) (v : Value) (w : World) (h : w.heap[bc]? = some (ccur v F T pl 0)) (hO : OwnB w v l) (hft : F < T) (ht : T ≤ l.length) (hlen : l.length ≤ 140737488351232) :
    Calls Try.prog 51 #[.pointer (some ⟨bc, 0, none⟩)] w fun en w' => en = .returned (.int .u8 (l.getD F 0)) ∧ Put bc (ccur v ((F : Int) + 1) T pl 0) w w' := by
  obtain ⟨a, cap, rfl⟩ := hO.form
  have hp := Put.refl h
  have hlt := lt_of_obj h
  have HO : Hid (OwnB w (.slice a l.length cap) l) := hO
  have HH : Hid (w.heap[bc]? = some (ccur (.slice a l.length cap) F T pl 0)) := h
  have TK := take_good bc F T pl 1 a l.length cap w h (by omega) (by omega) (by omega) (by omega) (by omega) (by omega)
  clear h hO
  go_enter Try.func51, Try.ntmps51
  go_wp2_with fail
  refine TK.mono ?_
  rintro en w1 ⟨rfl, hq⟩
  clear TK
  have O1 := HO.out.put HH.out hq
  have B1 : Below w1.heap.size w1 (w1.alloc (.cells #[.slice a l.length cap, .int .i64 F, .int .i64 ((F : Int) + 1)] 70)) := (Below.refl _ _).alloc (Nat.le_refl _) _
  have RS := rest_any w1.heap.size F (F + 1) l (.slice a l.length cap) _ 70 _ (new_obj w1 (.cells #[.slice a l.length cap, .int .i64 F, .int .i64 ((F : Int) + 1)] 70)) rfl rfl (by simp) (by omega) (by omega) (O1.below B1)
  clear O1 B1
  go_wp2_with fail
  refine RS.mono ?_
  rintro en w2 ⟨v2, rfl, hR2, k, rfl⟩
  clear RS
  obtain ⟨a2, c2, rfl, h1, h2, h3, h4⟩ := hR2
  have e := seg_one (l := l) (F := F) (by omega)
  rw [e] at h1 h4 ⊢
  rcases h4 with h4 | ⟨b, off, rfl, hc⟩
  · cases h4
  · have hc0 := hc 0 (by simp)
    simp at hc0
    simp only [List.length_singleton]
    clear hc h3 e h1
    go_wp2
    go_ret
    exact ⟨by simp, (hq.alloc _).drewN _⟩
set_option maxHeartbeats 1000000 in
theorem byte_short (bc : Nat) (v : Value) (f t pl : Int) (w : World) (h : w.heap[bc]? = some (ccur v f t pl 0)) (hf : 0 ≤ f) (hft : f ≤ t) (ht : t ≤ 140737488351232) (hs : t - f < 1) :
    Calls Try.prog 51 #[.pointer (some ⟨bc, 0, none⟩)] w fun en w' => en = .returned (.int .u8 0) ∧ Put bc (ccur v f t t 3) w w' := by
  have TK := take_short bc v f t pl 1 w h hf hft ht (by omega) (by omega) hs
  clear h
  go_enter Try.func51, Try.ntmps51
  go_wp2_with fail
  refine TK.mono ?_
  rintro en w1 ⟨rfl, hq⟩
  clear TK
  go_wp2_with fail
  go_ret
  exact ⟨rfl, hq.alloc _⟩
set_option maxHeartbeats 1000000 in
theorem byte_bad (bc : Nat) (v : Value) (f t pl wy : Int) (w : World) (h : w.heap[bc]? = some (ccur v f t pl wy)) (hw : ¬ wy = 0) :
    Calls Try.prog 51 #[.pointer (some ⟨bc, 0, none⟩)] w fun en w' => en = .returned (.int .u8 0) ∧ Put bc (ccur v f t pl wy) w w' := by
  have TK := take_bad bc v f t pl wy 1 w h hw
  clear h hw
  go_enter Try.func51, Try.ntmps51
  go_wp2_with fail
  refine TK.mono ?_
  rintro en w1 ⟨rfl, hq⟩
  clear TK
  go_wp2_with fail
  go_ret
  exact ⟨rfl, hq.alloc _⟩
theorem fx1_in {l : List Int} {F T : Nat} (hft : F < T) (ht : T ≤ l.length) : fx 1 l F T = (l.getD F 0, (F : Int) + 1, 0) := by
  rw [fx_in ht (by omega)]; simp [gv]
theorem fx1_end {l : List Int} {F T : Nat} (hft : F ≤ T) (ht : T ≤ l.length) (h : ¬ F < T) : fx 1 l F T = (0, (T : Int), 3) := fx_short hft ht (by omega)
theorem byte_step (bc : Nat) (l : List Int) (F T : Nat) (pl wy : Int) (v : Value) (w : World) (h : w.heap[bc]? = some (ccur v F T pl wy)) (hO : OwnB w v l) (hft : F ≤ T) (ht : T ≤ l.length) (hlen : l.length ≤ 140737488351232) :
    Calls Try.prog 51 #[.pointer (some ⟨bc, 0, none⟩)] w fun en w' => en = .returned (.int .u8 (stepN (fx 1 l F T) F pl wy).1) ∧
      Put bc (ccur v (stepN (fx 1 l F T) F pl wy).2.1 T (stepN (fx 1 l F T) F pl wy).2.2.1 (stepN (fx 1 l F T) F pl wy).2.2.2) w w' := by
  by_cases hw : wy = 0
  · subst hw
    by_cases hlt : F < T
    · rw [fx1_in hlt ht]
      exact byte_good bc l F T pl v w h hO hlt ht hlen
    · rw [fx1_end hft ht hlt]
      exact byte_short bc v F T pl w h (by omega) (by omega) (by omega) (by omega)
  · have e : stepN (fx 1 l F T) F pl wy = (0, (F : Int), pl, wy) := by simp [stepN, hw]
    rw [e]
    exact byte_bad bc v F T pl wy w h hw

/- What reading so many bytes does to a cursor. -/
def stepB (l : List Int) (n F T : Nat) (pl wy : Int) : List Int × Int × Int × Int :=
  if wy = 0 then (if n ≤ T - F then (seg l F (F + n), (F : Int) + n, pl, wy) else ([], (F : Int), (T : Int), 3)) else ([], (F : Int), pl, wy)
theorem reads_nil (w : World) : Reads w (.slice none 0 0) [] := ⟨none, 0, rfl, Nat.le_refl _, Nat.zero_le _, fun _ => rfl, Or.inl rfl⟩
set_option maxHeartbeats 1000000 in
theorem bytes_bad (bc : Nat) (v : Value) (f t pl wy n : Int) (w : World) (h : w.heap[bc]? = some (ccur v f t pl wy)) (hw : ¬ wy = 0) :
    Calls Try.prog 28 #[.pointer (some ⟨bc, 0, none⟩), .int .u32 n] w fun en w' => ∃ v', en = .returned v' ∧ Reads w' v' [] ∧ Put bc (ccur v f t pl wy) w w' := by
  have TK := take_bad bc v f t pl wy n w h hw
  clear h hw
  go_enter Try.func28, Try.ntmps28
  go_wp2_with fail
  refine TK.mono ?_
  rintro en w1 ⟨rfl, hq⟩
  clear TK
  go_wp2_with fail
  go_ret
  exact ⟨_, rfl, reads_nil _, hq.alloc _⟩
set_option maxHeartbeats 1000000 in
theorem bytes_short (bc : Nat) (v : Value) (f t pl n : Int) (w : World) (h : w.heap[bc]? = some (ccur v f t pl 0)) (hf : 0 ≤ f) (hft : f ≤ t) (ht : t ≤ 140737488351232) (hn : 0 ≤ n) (hn' : n ≤ 4294967295) (hs : t - f < n) :
    Calls Try.prog 28 #[.pointer (some ⟨bc, 0, none⟩), .int .u32 n] w fun en w' => ∃ v', en = .returned v' ∧ Reads w' v' [] ∧ Put bc (ccur v f t t 3) w w' := by
  have TK := take_short bc v f t pl n w h hf hft ht hn hn' hs
  clear h
  go_enter Try.func28, Try.ntmps28
  go_wp2_with fail
  refine TK.mono ?_
  rintro en w1 ⟨rfl, hq⟩
  clear TK
  go_wp2_with fail
  go_ret
  exact ⟨_, rfl, reads_nil _, hq.alloc _⟩
set_option maxHeartbeats 1000000 in
theorem bytes_good (bc : Nat) (l : List Int) (F T n : Nat) (pl : Int) (v : Value) (w : World) (h : w.heap[bc]? = some (ccur v F T pl 0)) (hO : OwnB w v l) (hft : F + n ≤ T) (ht : T ≤ l.length) (hlen : l.length ≤ 140737488351232) (hn' : n ≤ 4294967295) :
    Calls Try.prog 28 #[.pointer (some ⟨bc, 0, none⟩), .int .u32 n] w fun en w' => ∃ v', en = .returned v' ∧ Reads w' v' (seg l F (F + n)) ∧ Put bc (ccur v ((F : Int) + n) T pl 0) w w' := by
  obtain ⟨a, cap, rfl⟩ := hO.form
  have hp := Put.refl h
  have hlt := lt_of_obj h
  have HO : Hid (OwnB w (.slice a l.length cap) l) := hO
  have HH : Hid (w.heap[bc]? = some (ccur (.slice a l.length cap) F T pl 0)) := h
  have TK := take_good bc F T pl n a l.length cap w h (by omega) (by omega) (by omega) (by omega) (by omega) (by omega)
  clear h hO
  go_enter Try.func28, Try.ntmps28
  go_wp2_with fail
  refine TK.mono ?_
  rintro en w1 ⟨rfl, hq⟩
  clear TK
  have O1 := HO.out.put HH.out hq
  have B1 : Below w1.heap.size w1 (w1.alloc (.cells #[.slice a l.length cap, .int .i64 F, .int .i64 ((F : Int) + n)] 70)) := (Below.refl _ _).alloc (Nat.le_refl _) _
  have RS := rest_any w1.heap.size F (F + n) l (.slice a l.length cap) _ 70 _ (new_obj w1 (.cells #[.slice a l.length cap, .int .i64 F, .int .i64 ((F : Int) + n)] 70)) rfl rfl (by simp) (by omega) (by omega) (O1.below B1)
  clear O1 B1
  go_wp2_with fail
  refine RS.mono ?_
  rintro en w2 ⟨v2, rfl, hR2, k, rfl⟩
  clear RS
  have hl2 : ([] : List Int).length + (seg l F (F + n)).length ≤ 140737488355328 := by rw [seg_len (by omega) (by omega)]; simp; omega
  have HR2 : Hid (Reads _ v2 (seg l F (F + n))) := hR2
  have HL : Hid (([] : List Int).length + (seg l F (F + n)).length ≤ 140737488355328) := hl2
  clear hR2 hl2
  go_wp2_with (at_builtin; refine wp_appS rfl _ _ rfl rfl rfl (Has.nil _) HR2.out HL.out ?_; intro v3 w3 g3)
  go_ret
  exact ⟨_, rfl, g3.reads, ((hq.alloc _).drewN _).trans (Put.of_below g3.below ((hq.alloc _).drewN _).now)⟩
theorem bytes_step (bc : Nat) (l : List Int) (F T n : Nat) (pl wy : Int) (v : Value) (w : World) (h : w.heap[bc]? = some (ccur v F T pl wy)) (hO : OwnB w v l) (hft : F ≤ T) (ht : T ≤ l.length) (hlen : l.length ≤ 140737488351232) (hn' : n ≤ 4294967295) :
    Calls Try.prog 28 #[.pointer (some ⟨bc, 0, none⟩), .int .u32 n] w fun en w' => ∃ v', en = .returned v' ∧ Reads w' v' (stepB l n F T pl wy).1 ∧
      Put bc (ccur v (stepB l n F T pl wy).2.1 T (stepB l n F T pl wy).2.2.1 (stepB l n F T pl wy).2.2.2) w w' := by
  by_cases hw : wy = 0
  · subst hw
    by_cases hn : n ≤ T - F
    · have e : stepB l n F T pl 0 = (seg l F (F + n), (F : Int) + n, pl, 0) := by simp [stepB, hn]
      rw [e]
      exact bytes_good bc l F T n pl v w h hO (by omega) ht hlen hn'
    · have e : stepB l n F T pl 0 = ([], (F : Int), (T : Int), 3) := by simp [stepB, hn]
      rw [e]
      exact bytes_short bc v F T pl n w h (by omega) (by omega) (by omega) (by omega) (by omega) (by omega)
  · have e : stepB l n F T pl wy = ([], (F : Int), pl, wy) := by simp [stepB, hw]
    rw [e]
    exact bytes_bad bc v F T pl wy n w h hw
end Go.Proofs.Ytpkccnoipbgnmaa
