/-
  The writer: what it turns; the walks of put, putCode, plain, and of numbers and types; no statement is proved here.
-/
import Derived.Test.YtfnfbioenngjoaaDoorWrB
import Derived.Test.YtfnfbioenngjoaaDoorPutU
namespace Go.Proofs.YtfnfbioenngjoaaDoor
open Go.RowKit
set_option linter.unusedVariables false
set_option linter.unusedSimpArgs false
set_option linter.constructorNameAsVariable false

/- Only the writer's block and rows of bytes of the call's own have turned. -/
structure WT (b B : Nat) (w w' : World) : Prop where
  os : w'.os = w.os
  tape : w'.tape = w.tape
  output : w'.output = w.output
  size : w.heap.size ≤ w'.heap.size
  block : ∀ k, k < w.heap.size → k ≠ b → (k < B ∨ NoT w k 5) → w'.heap[k]? = w.heap[k]?
theorem WT.refl (b B : Nat) (w : World) : WT b B w w := ⟨rfl, rfl, rfl, Nat.le_refl _, fun _ _ _ _ => rfl⟩
theorem NoT.same {w w' : World} {x : Nat} {e : TypeId} (h : NoT w x e) (he : w'.heap[x]? = w.heap[x]?) : NoT w' x e := fun cs f hh => h cs f (he ▸ hh)
theorem WT.trans {b B : Nat} {x y z : World} (h : WT b B x y) (k : WT b B y z) : WT b B x z :=
  ⟨k.os.trans h.os, k.tape.trans h.tape, k.output.trans h.output, Nat.le_trans h.size k.size, fun i hi h1 h2 =>
    (k.block i (Nat.lt_of_lt_of_le hi h.size) h1 (h2.imp_right fun hn => hn.same (h.block i hi h1 (Or.inr hn)))).trans (h.block i hi h1 h2)⟩
theorem WT.of_grew {b B : Nat} {w w' : World} (g : Grew w w') : WT b B w w' := ⟨g.1.os, g.1.tape, g.1.output, g.2, fun k hk _ _ => g.1.block k hk⟩
theorem WT.other {b B : Nat} {w w' : World} (h : WT b B w w') {x : Nat} {o : Obj} (ho : w.heap[x]? = some o) (h1 : x ≠ b) (h2 : NoT w x 5) : w'.heap[x]? = some o := (h.block x (lt_of_obj ho) h1 (Or.inr h2)).trans ho
/- What lay in w0 is as it was. -/
theorem WT.grew0 {b B : Nat} {w0 w w' : World} (h : WT b B w w') (g : Grew w0 w) (hb : w0.heap.size ≤ b) (hB : w0.heap.size ≤ B) : Grew w0 w' :=
  ⟨⟨h.os.trans g.1.os, h.tape.trans g.1.tape, h.output.trans g.1.output, Nat.le_trans g.2 h.size, fun k hk => (h.block k (Nat.lt_of_lt_of_le hk g.2) (by omega) (Or.inl (by omega))).trans (g.1.block k hk)⟩, Nat.le_trans g.2 h.size⟩
def W2 (b B : Nat) (w : World) (l : List Int) (r : Except Nat (List Int)) (en : Ending) (w' : World) : Prop := match r with
  | .ok m => en = .returned (.tuple #[]) ∧ WT b B w w' ∧ WS b B w' (l ++ m)
  | .error e => (∃ p : Int, en = .panicked (flt p e)) ∧ WT b B w w'
theorem W2.okc {b B : Nat} {w : World} {l : List Int} {r : Except Nat (List Int)} {m : List Int} {n : FuncId} {args : Array Value} (h : Calls Tryd.prog n args w (W2 b B w l r)) (hr : r = .ok m) : Calls Tryd.prog n args w fun en w' => en = .returned (.tuple #[]) ∧ WT b B w w' ∧ WS b B w' (l ++ m) := by subst hr; exact h
theorem W2.erc {b B : Nat} {w : World} {l : List Int} {r : Except Nat (List Int)} {e : Nat} {n : FuncId} {args : Array Value} (h : Calls Tryd.prog n args w (W2 b B w l r)) (hr : r = .error e) : Calls Tryd.prog n args w fun en w' => (∃ p : Int, en = .panicked (flt p e)) ∧ WT b B w w' := by subst hr; exact h
/- Bytes read from a slice, appended to a slice of the call's own; nothing else has turned. -/
theorem wp_appG {w : World} {ops : Array Oper} {rest : List Oper} {o : Oper} {a : Act} {Q : Exit → Act → World → Prop} (hgd : o.guard = none) (s x : Operand)
    (ho : o.op = .call { callee := .builtin .append, args := #[s, x], argTypes := #[38, 38] }) {base : Nat} {v u : Value} {l r : List Int}
    (hs : a.eval s = v) (hx : a.eval x = u) (hown : w.ownsRow base 5 1 v l.length (U8 l)) (hle : base ≤ w.heap.size) (hR : Reads w u r) (hlen : l.length + r.length ≤ 140737488355328)
    (h : ∀ v' w', w'.ownsRow base 5 1 v' (l ++ r).length (U8 (l ++ r)) → w.grownBy w' v.ownBlock → wpList Tryd.prog ops Q rest (a.put o.dst v') w') :
    wpList Tryd.prog ops Q (o :: rest) a w := by
  obtain ⟨i0, hi, hz0, hz1, hz2⟩ := info_parts infoB
  have main : ∀ (ad : Addr) (c : Nat), u = .slice (some ad) r.length c → (∀ (j : Nat) (z : Value), (U8 r)[j]? = some z → w.cell? (ad.add j) = some z) → wpList Tryd.prog ops Q (o :: rest) a w := by
    intro ad c hu hn
    refine wpList_append_own _ hgd s x 38 ho base 5 i0 (.int .u8 0) 1 1 Tryd.underlying38 hi hz0 hz1 hz2 rfl (by decide) v l.length (U8 l) hs hown ad r.length c (U8 r) (hx.trans hu) (by simp [U8]) hn (by simp [U8, Value.oneCell']) (by unfold maxLen; omega) (by omega) hle ?_
    intro v' w' ho' hg _
    refine h v' w' ?_ hg
    rw [List.length_append, show U8 (l ++ r) = U8 l ++ U8 r from by simp [U8]]; exact ho'
  obtain ⟨ad, cap, hu, _, _, hn, hr⟩ := hR
  rcases hr with rfl | ⟨b, off, rfl, hc⟩
  · cases ad with
    | none =>
      have hc0 := hn rfl
      subst hc0
      refine wpList_append_own_none hgd s x 38 ho base 5 i0 1 Tryd.underlying38 hi v l.length (U8 l) hs hown (hx.trans hu) ?_
      rw [List.append_nil] at h
      exact h v w hown ⟨rfl, rfl, rfl, Nat.le_refl _, fun _ _ _ => rfl⟩
    | some ad => exact main ad cap hu (fun j z hz => by simp [U8] at hz)
  · refine main _ cap hu (fun j z hz => ?_)
    obtain ⟨hj, hz⟩ := List.getElem?_eq_some_iff.1 hz
    have hj' : j < r.length := by simpa [U8] using hj
    have := hc j hj'
    have e : (Addr.add ⟨b, off, none⟩ j) = ⟨b, off + j, none⟩ := by simp [Addr.add]
    rw [e, this, ← hz]
    simp [U8, List.getD, hj']
set_option maxRecDepth 100000 in
set_option maxHeartbeats 1000000 in
theorem put2 {b B : Nat} {w : World} {l r : List Int} {u : Value} (h : WS b B w l) (hu : Reads w u r) (hl : l.length + r.length ≤ 140737488355328) :
    Calls Tryd.prog 51 #[.pointer (some ⟨b, 0, none⟩), u] w (W2 b B w l (.ok r)) := by
  have H : Hid (WS b B w l) := h
  obtain ⟨o, h1, h2⟩ := h.ex
  obtain ⟨a, c, rfl⟩ := row_one h2
  obtain ⟨ua, uc, rfl⟩ := hu.len
  have c0 := cell_of h1 0
  simp at c0
  have HH : Hid (w.ownsRow B 5 1 (.slice a l.length c) l.length (U8 l)) := h2
  have HU : Hid (Reads w (.slice ua r.length uc) r) := hu
  have HO : Hid (w.heap[b]? = some (wob (.slice a l.length c))) := h1
  have hlt := h.lt
  have hle := h.le
  clear h h1 h2 hu
  go_enter Tryd.func51, Tryd.ntmps51
  go_wp2_with (
    at_builtin
    refine wp_appG (v := .slice a l.length c) (u := .slice ua r.length uc) rfl _ _ rfl rfl rfl HH.out hle HU.out hl ?_
    intro v1 w1 ho1 hg1
    have hnb : some b ≠ (Value.slice a l.length c).ownBlock := fun hh => by have := (World.ownsRow.lt HH.out b hh.symm).1; omega
    have o1 : w1.heap[b]? = some (wob (.slice a l.length c)) := (hg1.block b (by omega) hnb).trans HO.out
    have e0 := cell_of o1 0
    have z0 := free_of o1 0
    simp at e0
    have T1 : Hid (WT b B w w1) := ⟨hg1.os, hg1.tape, hg1.output, hg1.size, fun k hk _ h2 => hg1.block k hk (fun hh => by
      rcases h2 with h2 | h2
      · have := (World.ownsRow.lt HH.out k hh.symm).1; omega
      · obtain ⟨_, ⟨e, _⟩ | ⟨g, cap, cur, e, _, hgg, _⟩⟩ := HH.out
        · rw [e] at hh; cases hh
        · rw [e] at hh
          have : k = g := by simpa [Value.ownBlock] using hh
          subst this
          exact h2 _ _ hgg)⟩
    have O1 : Hid (w1.heap[b]? = some (wob (.slice a l.length c))) := o1
    have W1 : Hid (w1.ownsRow B 5 1 v1 (l ++ r).length (U8 (l ++ r))) := ho1
    obtain ⟨a1, cc1, hv1⟩ := row_one ho1
    subst hv1
    clear ho1 hg1 o1 hnb)
  go_end0
  have ts : WT b B w1 (w1.setCell ⟨b, 0, none⟩ (.slice a1 (l.length + r.length) cc1)) := by
    have t := (Turn.refl [b] w1).set (p := ⟨b, 0, none⟩) (Or.inl (by simp)) (.slice a1 (l.length + r.length) cc1)
    exact ⟨t.os, t.tape, t.output, t.size, fun k hk h1 _ => t.block k hk (by simpa using h1)⟩
  have t := T1.out.trans ts
  have hw := W1.out
  rw [List.length_append] at hw
  refine ⟨rfl, t, ⟨.slice a1 (l.length + r.length) cc1, by rw [heap_set O1.out]; rfl, ?_⟩, hlt, Nat.le_trans hle t.size, fun j v hj => ?_, H.out.ne, H.out.gl⟩
  · rw [List.length_append]
    exact row_set hw (NoT.of O1.out (by decide)) _
  · rw [← H.out.tab j v hj]
    exact World.cell?_of_block (w := w) (a := ⟨0, j, none⟩) (t.block _ H.out.tab.pos H.out.ne (Or.inl H.out.gl))
set_option maxRecDepth 100000 in
set_option maxHeartbeats 1000000 in
theorem putCode2 {b B : Nat} {w : World} {l : List Int} (h : WS b B w l) (kd n : Int) (hl : l.length ≤ 17592186044416)  :
    Calls Tryd.prog 59 #[.pointer (some ⟨b, 0, none⟩), .int .i64 kd, .int .i64 n] w (W2 b B w l (codeR kd n)) := by
  have H : Hid (WS b B w l) := h
  have hb : b < w.heap.size := h.blt
  clear h
  have C := fun w1 (u : WS b B w1 l) => codeOf_any kd n w1 u.tab
  cases hx : codeW kd n with
  | none =>
    rw [codeR_none hx]
    rw [hx] at C
    simp only [Option.getD, Option.isSome] at C
    have S0 : Hid (WS b B w l) := H.out
    have T0 : Hid (WT b B w w) := WT.refl _ _ _
    go_enter Tryd.func59, Tryd.ntmps59
    go_wp2_with fail
    refine (C _ S0.out).mono ?_
    rintro en w1 ⟨rfl, g1⟩
    have T1 : Hid (WT b B w w1) := T0.out.trans (WT.of_grew g1)
    have S1 : Hid (WS b B w1 l) := S0.out.grew g1
    clear g1 T0 S0
    go_wp2_with fail
    refine (need_no S1.out).mono ?_
    rintro en w9 ⟨⟨p, rfl⟩, h9⟩
    obtain rfl := h9.symm
    go_wp2_with fail
    exact ⟨rfl, ⟨p, rfl⟩, T1.out⟩
  | some c =>
    rw [codeR_some hx]
    rw [hx] at C
    simp only [Option.getD, Option.isSome] at C
    have S0 : Hid (WS b B w l) := H.out
    have T0 : Hid (WT b B w w) := WT.refl _ _ _
    go_enter Tryd.func59, Tryd.ntmps59
    go_wp2_with fail
    refine (C _ S0.out).mono ?_
    rintro en w1 ⟨rfl, g1⟩
    have T1 : Hid (WT b B w w1) := T0.out.trans (WT.of_grew g1)
    have S1 : Hid (WS b B w1 l) := S0.out.grew g1
    clear g1 T0 S0
    go_wp2_with fail
    refine (need_yes S1.out).mono ?_
    rintro en w9 ⟨rfl, h9⟩
    obtain rfl := h9.symm
    clear h9
    go_wp2_with fail
    have AL : Grew w1 (w1.alloc (.cells #[.int .u8 c] 5)) := (Grew.refl w1).alloc _
    refine (W2.okc (put2 (r := [c]) (S1.out.grew ((Grew.refl w1).alloc _)) (reads_new _ c _) (by simp; omega)) rfl).mono ?_
    rintro en w2 ⟨rfl, t2, s2⟩
    have T2 : Hid (WT b B w w2) := (T1.out.trans (WT.of_grew ((Grew.refl w1).alloc _))).trans t2
    have S2 : Hid (WS b B w2 (l ++ [c])) := s2
    clear t2 s2 AL
    go_wp2_with fail
    go_end0
    exact ⟨rfl, T2.out, by have := S2.out; simpa [List.append_assoc] using this⟩
set_option maxRecDepth 100000 in
set_option maxHeartbeats 1000000 in
theorem plain2 {b B : Nat} {w : World} {l : List Int} (h : WS b B w l) (kd : Int) (t : VT) (hl : l.length ≤ 17592186044416)  :
    Calls Tryd.prog 61 #[.pointer (some ⟨b, 0, none⟩), .int .i64 kd, t.v] w (W2 b B w l (plainW kd t)) := by
  have H : Hid (WS b B w l) := h
  have hb : b < w.heap.size := h.blt
  clear h
  obtain ⟨n, nul, hp⟩ := t
  unfold plainW VT.v vt
  simp only
  by_cases hc : nul = false ∧ hp = 0
  · rw [if_pos hc]
    obtain ⟨rfl, rfl⟩ := hc
    have E : ∀ W, (binOp .eql 23 (.agg #[.int .i64 n, .bool false, .int .i64 0]) (.agg #[.int .i64 n, .bool false, .int .i64 0])).run Tryd.prog W = .ok (.bool true) W := fun W => by rw [eqV]; simp
    cases hx : codeR kd n with
    | error e =>
      have S0 : Hid (WS b B (w.alloc (.cells #[.int .i64 n, .bool false, .int .i64 0] 23)) l) := H.out.grew ((Grew.refl w).alloc _)
      have T0 : Hid (WT b B w (w.alloc (.cells #[.int .i64 n, .bool false, .int .i64 0] 23))) := WT.of_grew ((Grew.refl w).alloc _)
      have N0 : Hid ((w.alloc (.cells #[.int .i64 n, .bool false, .int .i64 0] 23)).heap[w.heap.size]? = some (.cells #[.int .i64 n, .bool false, .int .i64 0] 23 (0, 0))) := heap_alloc_last _ _
      go_enter Tryd.func61, Tryd.ntmps61
      go_wp2_with fail
      have n0_0 := cell_of N0.out 0
      have n1_0 := cell_of N0.out 1
      have n2_0 := cell_of N0.out 2
      simp at n0_0 n1_0 n2_0
      refine (need_yes S0.out).mono ?_
      rintro en w9 ⟨rfl, h9⟩
      obtain rfl := h9.symm
      clear h9
      go_wp2_with fail
      refine (W2.erc (putCode2 S0.out kd n hl) hx).mono ?_
      rintro en w1 ⟨⟨p, rfl⟩, t1⟩
      have T1 : Hid (WT b B w w1) := T0.out.trans t1
      clear t1
      go_wp2_with fail
      exact ⟨rfl, ⟨p, rfl⟩, T1.out⟩
    | ok m =>
      have S0 : Hid (WS b B (w.alloc (.cells #[.int .i64 n, .bool false, .int .i64 0] 23)) l) := H.out.grew ((Grew.refl w).alloc _)
      have T0 : Hid (WT b B w (w.alloc (.cells #[.int .i64 n, .bool false, .int .i64 0] 23))) := WT.of_grew ((Grew.refl w).alloc _)
      have N0 : Hid ((w.alloc (.cells #[.int .i64 n, .bool false, .int .i64 0] 23)).heap[w.heap.size]? = some (.cells #[.int .i64 n, .bool false, .int .i64 0] 23 (0, 0))) := heap_alloc_last _ _
      go_enter Tryd.func61, Tryd.ntmps61
      go_wp2_with fail
      have n0_0 := cell_of N0.out 0
      have n1_0 := cell_of N0.out 1
      have n2_0 := cell_of N0.out 2
      simp at n0_0 n1_0 n2_0
      refine (need_yes S0.out).mono ?_
      rintro en w9 ⟨rfl, h9⟩
      obtain rfl := h9.symm
      clear h9
      go_wp2_with fail
      refine (W2.okc (putCode2 S0.out kd n hl) hx).mono ?_
      rintro en w1 ⟨rfl, t1, s1⟩
      have T1 : Hid (WT b B w w1) := T0.out.trans t1
      have S1 : Hid (WS b B w1 (l ++ m)) := s1
      have N1 : Hid (w1.heap[w.heap.size]? = some (.cells #[.int .i64 n, .bool false, .int .i64 0] 23 (0, 0))) := t1.other N0.out (by simp; omega) (NoT.of N0.out (by decide))
      clear t1 s1 T0 S0 N0
      go_wp2_with fail
      go_end0
      exact ⟨rfl, T1.out, by have := S1.out; simpa [List.append_assoc] using this⟩
  · rw [if_neg hc]
    have E : ∀ W, (binOp .eql 23 (.agg #[.int .i64 n, .bool nul, .int .i64 hp]) (.agg #[.int .i64 n, .bool false, .int .i64 0])).run Tryd.prog W = .ok (.bool false) W := fun W => by
      rw [eqV]
      have : (n == n && (nul == false && hp == 0)) = false := by
        cases nul with
        | true => simp
        | false =>
          have : hp ≠ 0 := fun h => hc ⟨rfl, h⟩
          simpa using this
      rw [this]
    clear hc
    have S0 : Hid (WS b B (w.alloc (.cells #[.int .i64 n, .bool nul, .int .i64 hp] 23)) l) := H.out.grew ((Grew.refl w).alloc _)
    have T0 : Hid (WT b B w (w.alloc (.cells #[.int .i64 n, .bool nul, .int .i64 hp] 23))) := WT.of_grew ((Grew.refl w).alloc _)
    have N0 : Hid ((w.alloc (.cells #[.int .i64 n, .bool nul, .int .i64 hp] 23)).heap[w.heap.size]? = some (.cells #[.int .i64 n, .bool nul, .int .i64 hp] 23 (0, 0))) := heap_alloc_last _ _
    go_enter Tryd.func61, Tryd.ntmps61
    go_wp2_with fail
    have n0_0 := cell_of N0.out 0
    have n1_0 := cell_of N0.out 1
    have n2_0 := cell_of N0.out 2
    simp at n0_0 n1_0 n2_0
    refine (need_no S0.out).mono ?_
    rintro en w9 ⟨⟨p, rfl⟩, h9⟩
    obtain rfl := h9.symm
    go_wp2_with fail
    exact ⟨rfl, ⟨p, rfl⟩, T0.out⟩
theorem putU_len : ∀ (f : Nat) (n : Int), (putU f n).length ≤ f + 1
  | 0, n => by simp [putU]
  | f + 1, n => by
    rw [putU]
    split
    · have := putU_len f (n / 128)
      simp
      omega
    · simp
theorem PU_len (n : Int) : (PU n).length ≤ 11 := putU_len 10 n
set_option maxRecDepth 100000 in
set_option maxHeartbeats 1000000 in
theorem unsigned2 {b B : Nat} {w : World} {l : List Int} (h : WS b B w l) (n : Int) (hl : l.length ≤ 17592186044416) (h0 : 0 ≤ n) (h1 : n ≤ 18446744073709551615) :
    Calls Tryd.prog 40 #[.pointer (some ⟨b, 0, none⟩), .int .u64 n] w (W2 b B w l (.ok (PU n))) := by
  have H : Hid (WS b B w l) := h
  have hb : b < w.heap.size := h.blt
  clear h
  have S0 : Hid (WS b B w l) := H.out
  have T0 : Hid (WT b B w w) := WT.refl _ _ _
  go_enter Tryd.func40, Tryd.ntmps40
  go_wp2_with fail
  refine (putU_any n w h0 h1).mono ?_
  rintro en w1 ⟨v1, rfl, hh1⟩
  have g1 : Grew w w1 := ⟨hh1.2.1, hh1.2.2⟩
  have T1 : Hid (WT b B w w1) := WT.of_grew g1
  have S1 : Hid (WS b B w1 l) := S0.out.grew g1
  have R1 : Hid (Reads w1 v1 (PU n)) := hh1.reads
  have hlen := PU_len n
  obtain ⟨va, vc, hv⟩ := hh1.reads.len
  subst hv
  clear hh1 g1 S0 T0
  go_wp2_with fail
  refine (W2.okc (put2 S1.out R1.out (by omega)) rfl).mono ?_
  rintro en w2 ⟨rfl, t2, s2⟩
  have T2 : Hid (WT b B w w2) := T1.out.trans t2
  have S2 : Hid (WS b B w2 (l ++ PU n)) := s2
  clear t2 s2
  go_wp2_with fail
  go_end0
  exact ⟨rfl, T2.out, by have := S2.out; simpa [List.append_assoc] using this⟩
end Go.Proofs.YtfnfbioenngjoaaDoor
