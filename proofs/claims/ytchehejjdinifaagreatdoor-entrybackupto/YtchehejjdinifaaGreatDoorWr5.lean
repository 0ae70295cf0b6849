/-
  The writer: the walks of isWhole, compType, declared, subType, putList at types, recType; no statement is proved here.
-/
import Derived.Test.YtchehejjdinifaaGreatDoorPutU
import Derived.Test.YtchehejjdinifaaGreatDoorTopV
namespace Go.Proofs.YtchehejjdinifaaGreatDoor
open Go.RowKit
set_option linter.unusedVariables false
set_option linter.unusedSimpArgs false
set_option linter.constructorNameAsVariable false

/- Only the writer's block and rows of bytes of the call's own have turned. -/
structure WT (b B : Nat) (w w' : World) : Prop where
  os : w'.os = w.os
  tape : w'.tape = w.tape
  output : w'.output = w.output
  size : w.heap.size ≤ w'.heap.size
  block : ∀ k, k < w.heap.size → k ≠ b → (k < B ∨ NoT w k 5) → w'.heap[k]? = w.heap[k]?
theorem WT.refl (b B : Nat) (w : World) : WT b B w w := ⟨rfl, rfl, rfl, Nat.le_refl _, fun _ _ _ _ => rfl⟩
theorem NoT.same {w w' : World} {x : Nat} {e : TypeId} (h : NoT w x e) (he : w'.heap[x]? = w.heap[x]?) : NoT w' x e := fun cs f hh => h cs f (he ▸ hh)
theorem WT.trans {b B : Nat} {x y z : World} (h : WT b B x y) (k : WT b B y z) : WT b B x z :=
  ⟨k.os.trans h.os, k.tape.trans h.tape, k.output.trans h.output, Nat.le_trans h.size k.size, fun i hi h1 h2 =>
    (k.block i (Nat.lt_of_lt_of_le hi h.size) h1 (h2.imp_right fun hn => hn.same (h.block i hi h1 (Or.inr hn)))).trans (h.block i hi h1 h2)⟩
theorem WT.of_grew {b B : Nat} {w w' : World} (g : Grew w w') : WT b B w w' := ⟨g.1.os, g.1.tape, g.1.output, g.2, fun k hk _ _ => g.1.block k hk⟩
theorem WT.other {b B : Nat} {w w' : World} (h : WT b B w w') {x : Nat} {o : Obj} (ho : w.heap[x]? = some o) (h1 : x ≠ b) (h2 : NoT w x 5) : w'.heap[x]? = some o := (h.block x (lt_of_obj ho) h1 (Or.inr h2)).trans ho
/- What lay in w0 is as it was. -/
theorem WT.grew0 {b B : Nat} {w0 w w' : World} (h : WT b B w w') (g : Grew w0 w) (hb : w0.heap.size ≤ b) (hB : w0.heap.size ≤ B) : Grew w0 w' :=
  ⟨⟨h.os.trans g.1.os, h.tape.trans g.1.tape, h.output.trans g.1.output, Nat.le_trans g.2 h.size, fun k hk => (h.block k (Nat.lt_of_lt_of_le hk g.2) (by omega) (Or.inl (by omega))).trans (g.1.block k hk)⟩, Nat.le_trans g.2 h.size⟩
def W2 (b B : Nat) (w : World) (l : List Int) (r : Except Nat (List Int)) (en : Ending) (w' : World) : Prop := match r with
  | .ok m => en = .returned (.tuple #[]) ∧ WT b B w w' ∧ WS b B w' (l ++ m)
  | .error e => (∃ p : Int, en = .panicked (flt p e)) ∧ WT b B w w'
theorem W2.okc {b B : Nat} {w : World} {l : List Int} {r : Except Nat (List Int)} {m : List Int} {n : FuncId} {args : Array Value} (h : Calls Tryz.prog n args w (W2 b B w l r)) (hr : r = .ok m) : Calls Tryz.prog n args w fun en w' => en = .returned (.tuple #[]) ∧ WT b B w w' ∧ WS b B w' (l ++ m) := by subst hr; exact h
theorem W2.erc {b B : Nat} {w : World} {l : List Int} {r : Except Nat (List Int)} {e : Nat} {n : FuncId} {args : Array Value} (h : Calls Tryz.prog n args w (W2 b B w l r)) (hr : r = .error e) : Calls Tryz.prog n args w fun en w' => (∃ p : Int, en = .panicked (flt p e)) ∧ WT b B w w' := by subst hr; exact h
/- Bytes read from a slice, appended to a slice of the call's own; nothing else has turned. -/
theorem wp_appG {w : World} {ops : Array Oper} {rest : List Oper} {o : Oper} {a : Act} {Q : Exit → Act → World → Prop} (hgd : o.guard = none) (s x : Operand)
    (ho : o.op = .call { callee := .builtin .append, args := #[s, x], argTypes := #[38, 38] }) {base : Nat} {v u : Value} {l r : List Int}
    (hs : a.eval s = v) (hx : a.eval x = u) (hown : w.ownsRow base 5 1 v l.length (U8 l)) (hle : base ≤ w.heap.size) (hR : Reads w u r) (hlen : l.length + r.length ≤ 140737488355328)
    (h : ∀ v' w', w'.ownsRow base 5 1 v' (l ++ r).length (U8 (l ++ r)) → w.grownBy w' v.ownBlock → wpList Tryz.prog ops Q rest (a.put o.dst v') w') :
    wpList Tryz.prog ops Q (o :: rest) a w := by
  obtain ⟨i0, hi, hz0, hz1, hz2⟩ := info_parts infoB
  have main : ∀ (ad : Addr) (c : Nat), u = .slice (some ad) r.length c → (∀ (j : Nat) (z : Value), (U8 r)[j]? = some z → w.cell? (ad.add j) = some z) → wpList Tryz.prog ops Q (o :: rest) a w := by
    intro ad c hu hn
    refine wpList_append_own _ hgd s x 38 ho base 5 i0 (.int .u8 0) 1 1 Tryz.underlying38 hi hz0 hz1 hz2 rfl (by decide) v l.length (U8 l) hs hown ad r.length c (U8 r) (hx.trans hu) (by simp [U8]) hn (by simp [U8, Value.oneCell']) (by unfold maxLen; omega) (by omega) hle ?_
    intro v' w' ho' hg _
    refine h v' w' ?_ hg
    rw [List.length_append, show U8 (l ++ r) = U8 l ++ U8 r from by simp [U8]]; exact ho'
  obtain ⟨ad, cap, hu, _, _, hn, hr⟩ := hR
  rcases hr with rfl | ⟨b, off, rfl, hc⟩
  · cases ad with
    | none =>
      have hc0 := hn rfl
      subst hc0
      refine wpList_append_own_none hgd s x 38 ho base 5 i0 1 Tryz.underlying38 hi v l.length (U8 l) hs hown (hx.trans hu) ?_
      rw [List.append_nil] at h
      exact h v w hown ⟨rfl, rfl, rfl, Nat.le_refl _, fun _ _ _ => rfl⟩
    | some ad => exact main ad cap hu (fun j z hz => by simp [U8] at hz)
  · refine main _ cap hu (fun j z hz => ?_)
    obtain ⟨hj, hz⟩ := List.getElem?_eq_some_iff.1 hz
    have hj' : j < r.length := by simpa [U8] using hj
    have := hc j hj'
    have e : (Addr.add ⟨b, off, none⟩ j) = ⟨b, off + j, none⟩ := by simp [Addr.add]
    rw [e, this, ← hz]
    simp [U8, List.getD, hj']
set_option maxRecDepth 100000 in
set_option maxHeartbeats 1000000 in
theorem put2 {b B : Nat} {w : World} {l r : List Int} {u : Value} (h : WS b B w l) (hu : Reads w u r) (hl : l.length + r.length ≤ 140737488355328) :
    Calls Tryz.prog 22 #[.pointer (some ⟨b, 0, none⟩), u] w (W2 b B w l (.ok r)) := by
  have H : Hid (WS b B w l) := h
  obtain ⟨o, h1, h2⟩ := h.ex
  obtain ⟨a, c, rfl⟩ := row_one h2
  obtain ⟨ua, uc, rfl⟩ := hu.len
  have c0 := cell_of h1 0
  simp at c0
  have HH : Hid (w.ownsRow B 5 1 (.slice a l.length c) l.length (U8 l)) := h2
  have HU : Hid (Reads w (.slice ua r.length uc) r) := hu
  have HO : Hid (w.heap[b]? = some (wob (.slice a l.length c))) := h1
  have hlt := h.lt
  have hle := h.le
  clear h h1 h2 hu
  go_enter Tryz.func22, Tryz.ntmps22
  go_wp2_with (
    at_builtin
    refine wp_appG (v := .slice a l.length c) (u := .slice ua r.length uc) rfl _ _ rfl rfl rfl HH.out hle HU.out hl ?_
    intro v1 w1 ho1 hg1
    have hnb : some b ≠ (Value.slice a l.length c).ownBlock := fun hh => by have := (World.ownsRow.lt HH.out b hh.symm).1; omega
    have o1 : w1.heap[b]? = some (wob (.slice a l.length c)) := (hg1.block b (by omega) hnb).trans HO.out
    have e0 := cell_of o1 0
    have z0 := free_of o1 0
    simp at e0
    have T1 : Hid (WT b B w w1) := ⟨hg1.os, hg1.tape, hg1.output, hg1.size, fun k hk _ h2 => hg1.block k hk (fun hh => by
      rcases h2 with h2 | h2
      · have := (World.ownsRow.lt HH.out k hh.symm).1; omega
      · obtain ⟨_, ⟨e, _⟩ | ⟨g, cap, cur, e, _, hgg, _⟩⟩ := HH.out
        · rw [e] at hh; cases hh
        · rw [e] at hh
          have : k = g := by simpa [Value.ownBlock] using hh
          subst this
          exact h2 _ _ hgg)⟩
    have O1 : Hid (w1.heap[b]? = some (wob (.slice a l.length c))) := o1
    have W1 : Hid (w1.ownsRow B 5 1 v1 (l ++ r).length (U8 (l ++ r))) := ho1
    obtain ⟨a1, cc1, hv1⟩ := row_one ho1
    subst hv1
    clear ho1 hg1 o1 hnb)
  go_end0
  have ts : WT b B w1 (w1.setCell ⟨b, 0, none⟩ (.slice a1 (l.length + r.length) cc1)) := by
    have t := (Turn.refl [b] w1).set (p := ⟨b, 0, none⟩) (Or.inl (by simp)) (.slice a1 (l.length + r.length) cc1)
    exact ⟨t.os, t.tape, t.output, t.size, fun k hk h1 _ => t.block k hk (by simpa using h1)⟩
  have t := T1.out.trans ts
  have hw := W1.out
  rw [List.length_append] at hw
  refine ⟨rfl, t, ⟨.slice a1 (l.length + r.length) cc1, by rw [heap_set O1.out]; rfl, ?_⟩, hlt, Nat.le_trans hle t.size, fun j v hj => ?_, H.out.ne, H.out.gl⟩
  · rw [List.length_append]
    exact row_set hw (NoT.of O1.out (by decide)) _
  · rw [← H.out.tab j v hj]
    exact World.cell?_of_block (w := w) (a := ⟨0, j, none⟩) (t.block _ H.out.tab.pos H.out.ne (Or.inl H.out.gl))
set_option maxRecDepth 100000 in
set_option maxHeartbeats 1000000 in
theorem putCode2 {b B : Nat} {w : World} {l : List Int} (h : WS b B w l) (kd n : Int) (hl : l.length ≤ 17592186044416)  :
    Calls Tryz.prog 68 #[.pointer (some ⟨b, 0, none⟩), .int .i64 kd, .int .i64 n] w (W2 b B w l (codeR kd n)) := by
  have H : Hid (WS b B w l) := h
  have hb : b < w.heap.size := h.blt
  clear h
  have C := fun w1 (u : WS b B w1 l) => codeOf_any kd n w1 u.tab
  cases hx : codeW kd n with
  | none =>
    rw [codeR_none hx]
    rw [hx] at C
    simp only [Option.getD, Option.isSome] at C
    have S0 : Hid (WS b B w l) := H.out
    have T0 : Hid (WT b B w w) := WT.refl _ _ _
    go_enter Tryz.func68, Tryz.ntmps68
    go_wp2_with fail
    refine (C _ S0.out).mono ?_
    rintro en w1 ⟨rfl, g1⟩
    have T1 : Hid (WT b B w w1) := T0.out.trans (WT.of_grew g1)
    have S1 : Hid (WS b B w1 l) := S0.out.grew g1
    clear g1 T0 S0
    go_wp2_with fail
    refine (need_no S1.out).mono ?_
    rintro en w9 ⟨⟨p, rfl⟩, h9⟩
    obtain rfl := h9.symm
    go_wp2_with fail
    exact ⟨rfl, ⟨p, rfl⟩, T1.out⟩
  | some c =>
    rw [codeR_some hx]
    rw [hx] at C
    simp only [Option.getD, Option.isSome] at C
    have S0 : Hid (WS b B w l) := H.out
    have T0 : Hid (WT b B w w) := WT.refl _ _ _
    go_enter Tryz.func68, Tryz.ntmps68
    go_wp2_with fail
    refine (C _ S0.out).mono ?_
    rintro en w1 ⟨rfl, g1⟩
    have T1 : Hid (WT b B w w1) := T0.out.trans (WT.of_grew g1)
    have S1 : Hid (WS b B w1 l) := S0.out.grew g1
    clear g1 T0 S0
    go_wp2_with fail
    refine (need_yes S1.out).mono ?_
    rintro en w9 ⟨rfl, h9⟩
    obtain rfl := h9.symm
    clear h9
    go_wp2_with fail
    have AL : Grew w1 (w1.alloc (.cells #[.int .u8 c] 5)) := (Grew.refl w1).alloc _
    refine (W2.okc (put2 (r := [c]) (S1.out.grew ((Grew.refl w1).alloc _)) (reads_new _ c _) (by simp; omega)) rfl).mono ?_
    rintro en w2 ⟨rfl, t2, s2⟩
    have T2 : Hid (WT b B w w2) := (T1.out.trans (WT.of_grew ((Grew.refl w1).alloc _))).trans t2
    have S2 : Hid (WS b B w2 (l ++ [c])) := s2
    clear t2 s2 AL
    go_wp2_with fail
    go_end0
    exact ⟨rfl, T2.out, by have := S2.out; simpa [List.append_assoc] using this⟩
set_option maxRecDepth 100000 in
set_option maxHeartbeats 1000000 in
theorem plain2 {b B : Nat} {w : World} {l : List Int} (h : WS b B w l) (kd : Int) (t : VT) (hl : l.length ≤ 17592186044416)  :
    Calls Tryz.prog 65 #[.pointer (some ⟨b, 0, none⟩), .int .i64 kd, t.v] w (W2 b B w l (plainW kd t)) := by
  have H : Hid (WS b B w l) := h
  have hb : b < w.heap.size := h.blt
  clear h
  obtain ⟨n, nul, hp⟩ := t
  unfold plainW VT.v vt
  simp only
  by_cases hc : nul = false ∧ hp = 0
  · rw [if_pos hc]
    obtain ⟨rfl, rfl⟩ := hc
    have E : ∀ W, (binOp .eql 26 (.agg #[.int .i64 n, .bool false, .int .i64 0]) (.agg #[.int .i64 n, .bool false, .int .i64 0])).run Tryz.prog W = .ok (.bool true) W := fun W => by rw [eqV]; simp
    cases hx : codeR kd n with
    | error e =>
      have S0 : Hid (WS b B (w.alloc (.cells #[.int .i64 n, .bool false, .int .i64 0] 26)) l) := H.out.grew ((Grew.refl w).alloc _)
      have T0 : Hid (WT b B w (w.alloc (.cells #[.int .i64 n, .bool false, .int .i64 0] 26))) := WT.of_grew ((Grew.refl w).alloc _)
      have N0 : Hid ((w.alloc (.cells #[.int .i64 n, .bool false, .int .i64 0] 26)).heap[w.heap.size]? = some (.cells #[.int .i64 n, .bool false, .int .i64 0] 26 (0, 0))) := heap_alloc_last _ _
      go_enter Tryz.func65, Tryz.ntmps65
      go_wp2_with fail
      have n0_0 := cell_of N0.out 0
      have n1_0 := cell_of N0.out 1
      have n2_0 := cell_of N0.out 2
      simp at n0_0 n1_0 n2_0
      refine (need_yes S0.out).mono ?_
      rintro en w9 ⟨rfl, h9⟩
      obtain rfl := h9.symm
      clear h9
      go_wp2_with fail
      refine (W2.erc (putCode2 S0.out kd n hl) hx).mono ?_
      rintro en w1 ⟨⟨p, rfl⟩, t1⟩
      have T1 : Hid (WT b B w w1) := T0.out.trans t1
      clear t1
      go_wp2_with fail
      exact ⟨rfl, ⟨p, rfl⟩, T1.out⟩
    | ok m =>
      have S0 : Hid (WS b B (w.alloc (.cells #[.int .i64 n, .bool false, .int .i64 0] 26)) l) := H.out.grew ((Grew.refl w).alloc _)
      have T0 : Hid (WT b B w (w.alloc (.cells #[.int .i64 n, .bool false, .int .i64 0] 26))) := WT.of_grew ((Grew.refl w).alloc _)
      have N0 : Hid ((w.alloc (.cells #[.int .i64 n, .bool false, .int .i64 0] 26)).heap[w.heap.size]? = some (.cells #[.int .i64 n, .bool false, .int .i64 0] 26 (0, 0))) := heap_alloc_last _ _
      go_enter Tryz.func65, Tryz.ntmps65
      go_wp2_with fail
      have n0_0 := cell_of N0.out 0
      have n1_0 := cell_of N0.out 1
      have n2_0 := cell_of N0.out 2
      simp at n0_0 n1_0 n2_0
      refine (need_yes S0.out).mono ?_
      rintro en w9 ⟨rfl, h9⟩
      obtain rfl := h9.symm
      clear h9
      go_wp2_with fail
      refine (W2.okc (putCode2 S0.out kd n hl) hx).mono ?_
      rintro en w1 ⟨rfl, t1, s1⟩
      have T1 : Hid (WT b B w w1) := T0.out.trans t1
      have S1 : Hid (WS b B w1 (l ++ m)) := s1
      have N1 : Hid (w1.heap[w.heap.size]? = some (.cells #[.int .i64 n, .bool false, .int .i64 0] 26 (0, 0))) := t1.other N0.out (by simp; omega) (NoT.of N0.out (by decide))
      clear t1 s1 T0 S0 N0
      go_wp2_with fail
      go_end0
      exact ⟨rfl, T1.out, by have := S1.out; simpa [List.append_assoc] using this⟩
  · rw [if_neg hc]
    have E : ∀ W, (binOp .eql 26 (.agg #[.int .i64 n, .bool nul, .int .i64 hp]) (.agg #[.int .i64 n, .bool false, .int .i64 0])).run Tryz.prog W = .ok (.bool false) W := fun W => by
      rw [eqV]
      have : (n == n && (nul == false && hp == 0)) = false := by
        cases nul with
        | true => simp
        | false =>
          have : hp ≠ 0 := fun h => hc ⟨rfl, h⟩
          simpa using this
      rw [this]
    clear hc
    have S0 : Hid (WS b B (w.alloc (.cells #[.int .i64 n, .bool nul, .int .i64 hp] 26)) l) := H.out.grew ((Grew.refl w).alloc _)
    have T0 : Hid (WT b B w (w.alloc (.cells #[.int .i64 n, .bool nul, .int .i64 hp] 26))) := WT.of_grew ((Grew.refl w).alloc _)
    have N0 : Hid ((w.alloc (.cells #[.int .i64 n, .bool nul, .int .i64 hp] 26)).heap[w.heap.size]? = some (.cells #[.int .i64 n, .bool nul, .int .i64 hp] 26 (0, 0))) := heap_alloc_last _ _
    go_enter Tryz.func65, Tryz.ntmps65
    go_wp2_with fail
    have n0_0 := cell_of N0.out 0
    have n1_0 := cell_of N0.out 1
    have n2_0 := cell_of N0.out 2
    simp at n0_0 n1_0 n2_0
    refine (need_no S0.out).mono ?_
    rintro en w9 ⟨⟨p, rfl⟩, h9⟩
    obtain rfl := h9.symm
    go_wp2_with fail
    exact ⟨rfl, ⟨p, rfl⟩, T0.out⟩
theorem putU_len : ∀ (f : Nat) (n : Int), (putU f n).length ≤ f + 1
  | 0, n => by simp [putU]
  | f + 1, n => by
    rw [putU]
    split
    · have := putU_len f (n / 128)
      simp
      omega
    · simp
theorem PU_len (n : Int) : (PU n).length ≤ 11 := putU_len 10 n
set_option maxRecDepth 100000 in
set_option maxHeartbeats 1000000 in
theorem unsigned2 {b B : Nat} {w : World} {l : List Int} (h : WS b B w l) (n : Int) (hl : l.length ≤ 17592186044416) (h0 : 0 ≤ n) (h1 : n ≤ 18446744073709551615) :
    Calls Tryz.prog 41 #[.pointer (some ⟨b, 0, none⟩), .int .u64 n] w (W2 b B w l (.ok (PU n))) := by
  have H : Hid (WS b B w l) := h
  have hb : b < w.heap.size := h.blt
  clear h
  have S0 : Hid (WS b B w l) := H.out
  have T0 : Hid (WT b B w w) := WT.refl _ _ _
  go_enter Tryz.func41, Tryz.ntmps41
  go_wp2_with fail
  refine (putU_any n w h0 h1).mono ?_
  rintro en w1 ⟨v1, rfl, hh1⟩
  have g1 : Grew w w1 := ⟨hh1.2.1, hh1.2.2⟩
  have T1 : Hid (WT b B w w1) := WT.of_grew g1
  have S1 : Hid (WS b B w1 l) := S0.out.grew g1
  have R1 : Hid (Reads w1 v1 (PU n)) := hh1.reads
  have hlen := PU_len n
  obtain ⟨va, vc, hv⟩ := hh1.reads.len
  subst hv
  clear hh1 g1 S0 T0
  go_wp2_with fail
  refine (W2.okc (put2 S1.out R1.out (by omega)) rfl).mono ?_
  rintro en w2 ⟨rfl, t2, s2⟩
  have T2 : Hid (WT b B w w2) := T1.out.trans t2
  have S2 : Hid (WS b B w2 (l ++ PU n)) := s2
  clear t2 s2
  go_wp2_with fail
  go_end0
  exact ⟨rfl, T2.out, by have := S2.out; simpa [List.append_assoc] using this⟩
end Go.Proofs.YtchehejjdinifaaGreatDoor

namespace Go.Proofs.YtchehejjdinifaaGreatDoor
open Go.RowKit
set_option linter.unusedVariables false
set_option linter.unusedSimpArgs false
set_option linter.constructorNameAsVariable false

def thenW (a b : Except Nat (List Int)) : Except Nat (List Int) := match a with
  | .error e => .error e
  | .ok m => match b with
    | .error e => .error e
    | .ok n => .ok (m ++ n)
theorem thenW_er {a b : Except Nat (List Int)} {e : Nat} (h : a = .error e) : thenW a b = .error e := by subst h; rfl
theorem thenW_ee {a b : Except Nat (List Int)} {m : List Int} {e : Nat} (h : a = .ok m) (h2 : b = .error e) : thenW a b = .error e := by subst h; subst h2; rfl
theorem thenW_ok {a b : Except Nat (List Int)} {m n : List Int} (h : a = .ok m) (h2 : b = .ok n) : thenW a b = .ok (m ++ n) := by subst h; subst h2; rfl
def fitT (n : Int) : Prop := 0 ≤ n ∧ n ≤ 2147483647
def uidxW (n : Int) : Except Nat (List Int) := if 0 ≤ n ∧ n ≤ 2147483647 then .ok (PU n) else .error 4
def sidxW (n : Int) : Except Nat (List Int) := if 0 ≤ n ∧ n ≤ 2147483647 then .ok (PS n) else .error 4
def heapW (h : Int) : Except Nat (List Int) := if 0 ≤ h then sidxW h else codeR 4 h
def refW (t : VT) : Except Nat (List Int) := if t.num = 5 then thenW (if t.null = false then codeR 5 0 else if 0 ≤ t.heap then codeR 5 1 else .ok []) (heapW t.heap) else .error 4
def valW (t : VT) : Except Nat (List Int) := if t.num = 5 then refW t else plainW 1 t
def storW (t : VT) : Except Nat (List Int) := if t.num = 6 ∨ t.num = 7 then plainW 3 t else valW t
def flagB (x : Bool) : List Int := [if x then 1 else 0]
def fieldW (f : FT) : Except Nat (List Int) := thenW (storW f.ty) (.ok (flagB f.mut_))
theorem code_50 : codeR 5 0 = .ok [100] := rfl
theorem code_51 : codeR 5 1 = .ok [99] := rfl
theorem putS_len : ∀ (f : Nat) (n : Int), (putS f n).length ≤ f + 1
  | 0, n => by simp [putS]
  | f + 1, n => by
    rw [putS]
    split
    · have := putS_len f (n / 128)
      simp
      omega
    · simp
theorem PS_len (n : Int) : (PS n).length ≤ 11 := putS_len 10 n
set_option maxRecDepth 100000 in
theorem needType_yes {b B : Nat} {w : World} {l : List Int} (h : WS b B w l) (n : Int) (hn : 0 ≤ n ∧ n ≤ 2147483647) :
    Calls Tryz.prog 81 #[.pointer (some ⟨b, 0, none⟩), .int .i64 n] w fun en w' => en = .returned (.tuple #[]) ∧ w' = w := by
  have d0 : decide (0 ≤ n) = true := by simp; omega
  have d1 : decide (n ≤ 2147483647) = true := by simp; omega
  have C := need_yes h
  clear h
  go_enter Tryz.func81, Tryz.ntmps81
  go_wp2_with fail
  refine C.mono ?_
  rintro en w1 ⟨rfl, h1⟩
  obtain rfl := h1.symm
  go_wp2_with fail
  go_end0
  exact ⟨rfl, rfl⟩
set_option maxRecDepth 100000 in
theorem needType_no {b B : Nat} {w : World} {l : List Int} (h : WS b B w l) (n : Int) (hn : ¬ (0 ≤ n ∧ n ≤ 2147483647)) :
    Calls Tryz.prog 81 #[.pointer (some ⟨b, 0, none⟩), .int .i64 n] w fun en w' => (∃ p : Int, en = .panicked (flt p 4)) ∧ w' = w := by
  have C := need_no h
  clear h
  by_cases h0 : 0 ≤ n
  · have d0 : decide (0 ≤ n) = true := by simpa using h0
    have d1 : decide (n ≤ 2147483647) = false := by simp; omega
    go_enter Tryz.func81, Tryz.ntmps81
    go_wp2_with fail
    refine C.mono ?_
    rintro en w1 ⟨⟨p, rfl⟩, h1⟩
    obtain rfl := h1.symm
    go_wp2_with fail
    exact ⟨rfl, ⟨p, rfl⟩, rfl⟩
  · have d0 : decide (0 ≤ n) = false := by simpa using h0
    go_enter Tryz.func81, Tryz.ntmps81
    go_wp2_with fail
    refine C.mono ?_
    rintro en w1 ⟨⟨p, rfl⟩, h1⟩
    obtain rfl := h1.symm
    go_wp2_with fail
    exact ⟨rfl, ⟨p, rfl⟩, rfl⟩
set_option maxRecDepth 100000 in
set_option maxHeartbeats 1000000 in
theorem index2 {b B : Nat} {w : World} {l : List Int} (h : WS b B w l) (n : Int) (hl : l.length ≤ 17592186044416)  :
    Calls Tryz.prog 52 #[.pointer (some ⟨b, 0, none⟩), .int .i64 n] w (W2 b B w l (uidxW n)) := by
  have H : Hid (WS b B w l) := h
  have hb : b < w.heap.size := h.blt
  clear h
  unfold uidxW
  by_cases hn : 0 ≤ n ∧ n ≤ 2147483647
  · rw [if_pos hn]
    have cv : IntKind.u64.wrap n = n := by rw [IntKind.wrap_u64]; omega
    have S0 : Hid (WS b B w l) := H.out
    have T0 : Hid (WT b B w w) := WT.refl _ _ _
    go_enter Tryz.func52, Tryz.ntmps52
    go_wp2_with fail
    refine (needType_yes S0.out n hn).mono ?_
    rintro en w9 ⟨rfl, h9⟩
    obtain rfl := h9.symm
    clear h9
    go_wp2_with fail
    refine (W2.okc (unsigned2 S0.out n hl (by omega) (by omega)) rfl).mono ?_
    rintro en w1 ⟨rfl, t1, s1⟩
    have T1 : Hid (WT b B w w1) := T0.out.trans t1
    have S1 : Hid (WS b B w1 (l ++ PU n)) := s1
    clear t1 s1 T0 S0
    go_wp2_with fail
    go_end0
    exact ⟨rfl, T1.out, by have := S1.out; simpa [List.append_assoc] using this⟩
  · rw [if_neg hn]
    have S0 : Hid (WS b B w l) := H.out
    have T0 : Hid (WT b B w w) := WT.refl _ _ _
    go_enter Tryz.func52, Tryz.ntmps52
    go_wp2_with fail
    refine (needType_no S0.out n hn).mono ?_
    rintro en w9 ⟨⟨p, rfl⟩, h9⟩
    obtain rfl := h9.symm
    go_wp2_with fail
    exact ⟨rfl, ⟨p, rfl⟩, T0.out⟩
set_option maxRecDepth 100000 in
set_option maxHeartbeats 1000000 in
theorem signedIndex2 {b B : Nat} {w : World} {l : List Int} (h : WS b B w l) (n : Int) (hl : l.length ≤ 17592186044416)  :
    Calls Tryz.prog 108 #[.pointer (some ⟨b, 0, none⟩), .int .i64 n] w (W2 b B w l (sidxW n)) := by
  have H : Hid (WS b B w l) := h
  have hb : b < w.heap.size := h.blt
  clear h
  unfold sidxW
  by_cases hn : 0 ≤ n ∧ n ≤ 2147483647
  · rw [if_pos hn]
    have S0 : Hid (WS b B w l) := H.out
    have T0 : Hid (WT b B w w) := WT.refl _ _ _
    go_enter Tryz.func108, Tryz.ntmps108
    go_wp2_with fail
    refine (needType_yes S0.out n hn).mono ?_
    rintro en w9 ⟨rfl, h9⟩
    obtain rfl := h9.symm
    clear h9
    go_wp2_with fail
    refine (putS_any n w (by omega) (by omega)).mono ?_
    rintro en w1 ⟨v1, rfl, hh1⟩
    have g1 : Grew w w1 := ⟨hh1.2.1, hh1.2.2⟩
    have T1 : Hid (WT b B w w1) := WT.of_grew g1
    have S1 : Hid (WS b B w1 l) := S0.out.grew g1
    have R1 : Hid (Reads w1 v1 (PS n)) := hh1.reads
    have hlen := PS_len n
    obtain ⟨va, vc, hv⟩ := hh1.reads.len
    subst hv
    clear hh1 g1 S0 T0
    go_wp2_with fail
    refine (W2.okc (put2 S1.out R1.out (by omega)) rfl).mono ?_
    rintro en w2 ⟨rfl, t2, s2⟩
    have T2 : Hid (WT b B w w2) := T1.out.trans t2
    have S2 : Hid (WS b B w2 (l ++ PS n)) := s2
    clear t2 s2
    go_wp2_with fail
    go_end0
    exact ⟨rfl, T2.out, by have := S2.out; simpa [List.append_assoc] using this⟩
  · rw [if_neg hn]
    have S0 : Hid (WS b B w l) := H.out
    have T0 : Hid (WT b B w w) := WT.refl _ _ _
    go_enter Tryz.func108, Tryz.ntmps108
    go_wp2_with fail
    refine (needType_no S0.out n hn).mono ?_
    rintro en w9 ⟨⟨p, rfl⟩, h9⟩
    obtain rfl := h9.symm
    go_wp2_with fail
    exact ⟨rfl, ⟨p, rfl⟩, T0.out⟩
set_option maxRecDepth 100000 in
set_option maxHeartbeats 1000000 in
theorem flag2 {b B : Nat} {w : World} {l : List Int} (h : WS b B w l) (x : Bool) (hl : l.length ≤ 17592186044416)  :
    Calls Tryz.prog 82 #[.pointer (some ⟨b, 0, none⟩), .bool x] w (W2 b B w l (.ok (flagB x))) := by
  have H : Hid (WS b B w l) := h
  have hb : b < w.heap.size := h.blt
  clear h
  cases x with
  | true =>
    have S0 : Hid (WS b B w l) := H.out
    have T0 : Hid (WT b B w w) := WT.refl _ _ _
    go_enter Tryz.func82, Tryz.ntmps82
    go_wp2_with fail
    refine (W2.okc (put2 (r := [1]) (S0.out.grew ((Grew.refl w).alloc _)) (reads_new _ 1 _) (by simp; omega)) rfl).mono ?_
    rintro en w1 ⟨rfl, t1, s1⟩
    have T1 : Hid (WT b B w w1) := (T0.out.trans (WT.of_grew ((Grew.refl w).alloc _))).trans t1
    have S1 : Hid (WS b B w1 (l ++ [1])) := s1
    clear t1 s1
    go_wp2_with fail
    go_end0
    exact ⟨rfl, T1.out, S1.out⟩
  | false =>
    have S0 : Hid (WS b B w l) := H.out
    have T0 : Hid (WT b B w w) := WT.refl _ _ _
    go_enter Tryz.func82, Tryz.ntmps82
    go_wp2_with fail
    refine (W2.okc (put2 (r := [0]) (S0.out.grew ((Grew.refl w).alloc _)) (reads_new _ 0 _) (by simp; omega)) rfl).mono ?_
    rintro en w1 ⟨rfl, t1, s1⟩
    have T1 : Hid (WT b B w w1) := (T0.out.trans (WT.of_grew ((Grew.refl w).alloc _))).trans t1
    have S1 : Hid (WS b B w1 (l ++ [0])) := s1
    clear t1 s1
    go_wp2_with fail
    go_end0
    exact ⟨rfl, T1.out, S1.out⟩
set_option maxRecDepth 100000 in
set_option maxHeartbeats 1000000 in
theorem heapType2 {b B : Nat} {w : World} {l : List Int} (h : WS b B w l) (n : Int) (hl : l.length ≤ 17592186044416)  :
    Calls Tryz.prog 90 #[.pointer (some ⟨b, 0, none⟩), .int .i64 n] w (W2 b B w l (heapW n)) := by
  have H : Hid (WS b B w l) := h
  have hb : b < w.heap.size := h.blt
  clear h
  unfold heapW
  by_cases hn : 0 ≤ n
  · rw [if_pos hn]
    have d : decide (0 ≤ n) = true := by simpa using hn
    cases hx : sidxW n with
    | error e =>
      have S0 : Hid (WS b B w l) := H.out
      have T0 : Hid (WT b B w w) := WT.refl _ _ _
      go_enter Tryz.func90, Tryz.ntmps90
      go_wp2_with fail
      refine (W2.erc (signedIndex2 S0.out n hl) hx).mono ?_
      rintro en w1 ⟨⟨p, rfl⟩, t1⟩
      have T1 : Hid (WT b B w w1) := T0.out.trans t1
      clear t1
      go_wp2_with fail
      exact ⟨rfl, ⟨p, rfl⟩, T1.out⟩
    | ok m =>
      have S0 : Hid (WS b B w l) := H.out
      have T0 : Hid (WT b B w w) := WT.refl _ _ _
      go_enter Tryz.func90, Tryz.ntmps90
      go_wp2_with fail
      refine (W2.okc (signedIndex2 S0.out n hl) hx).mono ?_
      rintro en w1 ⟨rfl, t1, s1⟩
      have T1 : Hid (WT b B w w1) := T0.out.trans t1
      have S1 : Hid (WS b B w1 (l ++ m)) := s1
      clear t1 s1 T0 S0
      go_wp2_with fail
      go_end0
      exact ⟨rfl, T1.out, by have := S1.out; simpa [List.append_assoc] using this⟩
  · rw [if_neg hn]
    have d : decide (0 ≤ n) = false := by simpa using hn
    cases hx : codeR 4 n with
    | error e =>
      have S0 : Hid (WS b B w l) := H.out
      have T0 : Hid (WT b B w w) := WT.refl _ _ _
      go_enter Tryz.func90, Tryz.ntmps90
      go_wp2_with fail
      refine (W2.erc (putCode2 S0.out 4 n hl) hx).mono ?_
      rintro en w1 ⟨⟨p, rfl⟩, t1⟩
      have T1 : Hid (WT b B w w1) := T0.out.trans t1
      clear t1
      go_wp2_with fail
      exact ⟨rfl, ⟨p, rfl⟩, T1.out⟩
    | ok m =>
      have S0 : Hid (WS b B w l) := H.out
      have T0 : Hid (WT b B w w) := WT.refl _ _ _
      go_enter Tryz.func90, Tryz.ntmps90
      go_wp2_with fail
      refine (W2.okc (putCode2 S0.out 4 n hl) hx).mono ?_
      rintro en w1 ⟨rfl, t1, s1⟩
      have T1 : Hid (WT b B w w1) := T0.out.trans t1
      have S1 : Hid (WS b B w1 (l ++ m)) := s1
      clear t1 s1 T0 S0
      go_wp2_with fail
      go_end0
      exact ⟨rfl, T1.out, by have := S1.out; simpa [List.append_assoc] using this⟩
set_option maxRecDepth 100000 in
set_option maxHeartbeats 1000000 in
theorem refType2 {b B : Nat} {w : World} {l : List Int} (h : WS b B w l) (t : VT) (hl : l.length ≤ 17592186044000)  :
    Calls Tryz.prog 64 #[.pointer (some ⟨b, 0, none⟩), t.v] w (W2 b B w l (refW t)) := by
  have H : Hid (WS b B w l) := h
  have hb : b < w.heap.size := h.blt
  clear h
  obtain ⟨n, nul, hp⟩ := t
  unfold refW VT.v vt
  simp only
  by_cases hn : n = 5
  · rw [if_pos hn]
    have d5 : (n == 5) = true := by simpa using hn
    clear hn
    cases nul with
    | false =>
      rw [if_pos rfl, code_50]
      cases hx : heapW hp with
      | error e =>
        rw [thenW_ee rfl rfl]
        have S0 : Hid (WS b B (w.alloc (.cells #[.int .i64 n, .bool false, .int .i64 hp] 26)) l) := H.out.grew ((Grew.refl w).alloc _)
        have T0 : Hid (WT b B w (w.alloc (.cells #[.int .i64 n, .bool false, .int .i64 hp] 26))) := WT.of_grew ((Grew.refl w).alloc _)
        have N0 : Hid ((w.alloc (.cells #[.int .i64 n, .bool false, .int .i64 hp] 26)).heap[w.heap.size]? = some (.cells #[.int .i64 n, .bool false, .int .i64 hp] 26 (0, 0))) := heap_alloc_last _ _
        go_enter Tryz.func64, Tryz.ntmps64
        go_wp2_with fail
        have n0_0 := cell_of N0.out 0
        have n1_0 := cell_of N0.out 1
        have n2_0 := cell_of N0.out 2
        simp at n0_0 n1_0 n2_0
        refine (need_yes S0.out).mono ?_
        rintro en w9 ⟨rfl, h9⟩
        obtain rfl := h9.symm
        clear h9
        go_wp2_with fail
        refine (W2.okc (putCode2 S0.out 5 0 (by omega)) code_50).mono ?_
        rintro en w1 ⟨rfl, t1, s1⟩
        have T1 : Hid (WT b B w w1) := T0.out.trans t1
        have S1 : Hid (WS b B w1 (l ++ [100])) := s1
        have N1 : Hid (w1.heap[w.heap.size]? = some (.cells #[.int .i64 n, .bool false, .int .i64 hp] 26 (0, 0))) := t1.other N0.out (by simp; omega) (NoT.of N0.out (by decide))
        clear t1 s1 T0 S0 N0
        have n0_1 := cell_of N1.out 0
        have n1_1 := cell_of N1.out 1
        have n2_1 := cell_of N1.out 2
        simp at n0_1 n1_1 n2_1
        go_wp2_with fail
        refine (W2.erc (heapType2 S1.out hp (by simp; omega)) hx).mono ?_
        rintro en w2 ⟨⟨p, rfl⟩, t2⟩
        have T2 : Hid (WT b B w w2) := T1.out.trans t2
        clear t2
        go_wp2_with fail
        exact ⟨rfl, ⟨p, rfl⟩, T2.out⟩
      | ok m =>
        rw [thenW_ok rfl rfl]
        have S0 : Hid (WS b B (w.alloc (.cells #[.int .i64 n, .bool false, .int .i64 hp] 26)) l) := H.out.grew ((Grew.refl w).alloc _)
        have T0 : Hid (WT b B w (w.alloc (.cells #[.int .i64 n, .bool false, .int .i64 hp] 26))) := WT.of_grew ((Grew.refl w).alloc _)
        have N0 : Hid ((w.alloc (.cells #[.int .i64 n, .bool false, .int .i64 hp] 26)).heap[w.heap.size]? = some (.cells #[.int .i64 n, .bool false, .int .i64 hp] 26 (0, 0))) := heap_alloc_last _ _
        go_enter Tryz.func64, Tryz.ntmps64
        go_wp2_with fail
        have n0_0 := cell_of N0.out 0
        have n1_0 := cell_of N0.out 1
        have n2_0 := cell_of N0.out 2
        simp at n0_0 n1_0 n2_0
        refine (need_yes S0.out).mono ?_
        rintro en w9 ⟨rfl, h9⟩
        obtain rfl := h9.symm
        clear h9
        go_wp2_with fail
        refine (W2.okc (putCode2 S0.out 5 0 (by omega)) code_50).mono ?_
        rintro en w1 ⟨rfl, t1, s1⟩
        have T1 : Hid (WT b B w w1) := T0.out.trans t1
        have S1 : Hid (WS b B w1 (l ++ [100])) := s1
        have N1 : Hid (w1.heap[w.heap.size]? = some (.cells #[.int .i64 n, .bool false, .int .i64 hp] 26 (0, 0))) := t1.other N0.out (by simp; omega) (NoT.of N0.out (by decide))
        clear t1 s1 T0 S0 N0
        have n0_1 := cell_of N1.out 0
        have n1_1 := cell_of N1.out 1
        have n2_1 := cell_of N1.out 2
        simp at n0_1 n1_1 n2_1
        go_wp2_with fail
        refine (W2.okc (heapType2 S1.out hp (by simp; omega)) hx).mono ?_
        rintro en w2 ⟨rfl, t2, s2⟩
        have T2 : Hid (WT b B w w2) := T1.out.trans t2
        have S2 : Hid (WS b B w2 ((l ++ [100]) ++ m)) := s2
        have N2 : Hid (w2.heap[w.heap.size]? = some (.cells #[.int .i64 n, .bool false, .int .i64 hp] 26 (0, 0))) := t2.other N1.out (by simp; omega) (NoT.of N1.out (by decide))
        clear t2 s2 T1 S1 N1
        go_wp2_with fail
        go_end0
        exact ⟨rfl, T2.out, by have := S2.out; simpa [List.append_assoc] using this⟩
    | true =>
      rw [if_neg (by simp)]
      by_cases h0 : 0 ≤ hp
      · rw [if_pos h0, code_51]
        have d0 : decide (0 ≤ hp) = true := by simpa using h0
        cases hx : heapW hp with
        | error e =>
          rw [thenW_ee rfl rfl]
          have S0 : Hid (WS b B (w.alloc (.cells #[.int .i64 n, .bool true, .int .i64 hp] 26)) l) := H.out.grew ((Grew.refl w).alloc _)
          have T0 : Hid (WT b B w (w.alloc (.cells #[.int .i64 n, .bool true, .int .i64 hp] 26))) := WT.of_grew ((Grew.refl w).alloc _)
          have N0 : Hid ((w.alloc (.cells #[.int .i64 n, .bool true, .int .i64 hp] 26)).heap[w.heap.size]? = some (.cells #[.int .i64 n, .bool true, .int .i64 hp] 26 (0, 0))) := heap_alloc_last _ _
          go_enter Tryz.func64, Tryz.ntmps64
          go_wp2_with fail
          have n0_0 := cell_of N0.out 0
          have n1_0 := cell_of N0.out 1
          have n2_0 := cell_of N0.out 2
          simp at n0_0 n1_0 n2_0
          refine (need_yes S0.out).mono ?_
          rintro en w9 ⟨rfl, h9⟩
          obtain rfl := h9.symm
          clear h9
          go_wp2_with fail
          refine (W2.okc (putCode2 S0.out 5 1 (by omega)) code_51).mono ?_
          rintro en w1 ⟨rfl, t1, s1⟩
          have T1 : Hid (WT b B w w1) := T0.out.trans t1
          have S1 : Hid (WS b B w1 (l ++ [99])) := s1
          have N1 : Hid (w1.heap[w.heap.size]? = some (.cells #[.int .i64 n, .bool true, .int .i64 hp] 26 (0, 0))) := t1.other N0.out (by simp; omega) (NoT.of N0.out (by decide))
          clear t1 s1 T0 S0 N0
          have n0_1 := cell_of N1.out 0
          have n1_1 := cell_of N1.out 1
          have n2_1 := cell_of N1.out 2
          simp at n0_1 n1_1 n2_1
          go_wp2_with fail
          refine (W2.erc (heapType2 S1.out hp (by simp; omega)) hx).mono ?_
          rintro en w2 ⟨⟨p, rfl⟩, t2⟩
          have T2 : Hid (WT b B w w2) := T1.out.trans t2
          clear t2
          go_wp2_with fail
          exact ⟨rfl, ⟨p, rfl⟩, T2.out⟩
        | ok m =>
          rw [thenW_ok rfl rfl]
          have S0 : Hid (WS b B (w.alloc (.cells #[.int .i64 n, .bool true, .int .i64 hp] 26)) l) := H.out.grew ((Grew.refl w).alloc _)
          have T0 : Hid (WT b B w (w.alloc (.cells #[.int .i64 n, .bool true, .int .i64 hp] 26))) := WT.of_grew ((Grew.refl w).alloc _)
          have N0 : Hid ((w.alloc (.cells #[.int .i64 n, .bool true, .int .i64 hp] 26)).heap[w.heap.size]? = some (.cells #[.int .i64 n, .bool true, .int .i64 hp] 26 (0, 0))) := heap_alloc_last _ _
          go_enter Tryz.func64, Tryz.ntmps64
          go_wp2_with fail
          have n0_0 := cell_of N0.out 0
          have n1_0 := cell_of N0.out 1
          have n2_0 := cell_of N0.out 2
          simp at n0_0 n1_0 n2_0
          refine (need_yes S0.out).mono ?_
          rintro en w9 ⟨rfl, h9⟩
          obtain rfl := h9.symm
          clear h9
          go_wp2_with fail
          refine (W2.okc (putCode2 S0.out 5 1 (by omega)) code_51).mono ?_
          rintro en w1 ⟨rfl, t1, s1⟩
          have T1 : Hid (WT b B w w1) := T0.out.trans t1
          have S1 : Hid (WS b B w1 (l ++ [99])) := s1
          have N1 : Hid (w1.heap[w.heap.size]? = some (.cells #[.int .i64 n, .bool true, .int .i64 hp] 26 (0, 0))) := t1.other N0.out (by simp; omega) (NoT.of N0.out (by decide))
          clear t1 s1 T0 S0 N0
          have n0_1 := cell_of N1.out 0
          have n1_1 := cell_of N1.out 1
          have n2_1 := cell_of N1.out 2
          simp at n0_1 n1_1 n2_1
          go_wp2_with fail
          refine (W2.okc (heapType2 S1.out hp (by simp; omega)) hx).mono ?_
          rintro en w2 ⟨rfl, t2, s2⟩
          have T2 : Hid (WT b B w w2) := T1.out.trans t2
          have S2 : Hid (WS b B w2 ((l ++ [99]) ++ m)) := s2
          have N2 : Hid (w2.heap[w.heap.size]? = some (.cells #[.int .i64 n, .bool true, .int .i64 hp] 26 (0, 0))) := t2.other N1.out (by simp; omega) (NoT.of N1.out (by decide))
          clear t2 s2 T1 S1 N1
          go_wp2_with fail
          go_end0
          exact ⟨rfl, T2.out, by have := S2.out; simpa [List.append_assoc] using this⟩
      · rw [if_neg h0]
        have d0 : decide (0 ≤ hp) = false := by simpa using h0
        cases hx : heapW hp with
        | error e =>
          rw [thenW_ee rfl rfl]
          have S0 : Hid (WS b B (w.alloc (.cells #[.int .i64 n, .bool true, .int .i64 hp] 26)) l) := H.out.grew ((Grew.refl w).alloc _)
          have T0 : Hid (WT b B w (w.alloc (.cells #[.int .i64 n, .bool true, .int .i64 hp] 26))) := WT.of_grew ((Grew.refl w).alloc _)
          have N0 : Hid ((w.alloc (.cells #[.int .i64 n, .bool true, .int .i64 hp] 26)).heap[w.heap.size]? = some (.cells #[.int .i64 n, .bool true, .int .i64 hp] 26 (0, 0))) := heap_alloc_last _ _
          go_enter Tryz.func64, Tryz.ntmps64
          go_wp2_with fail
          have n0_0 := cell_of N0.out 0
          have n1_0 := cell_of N0.out 1
          have n2_0 := cell_of N0.out 2
          simp at n0_0 n1_0 n2_0
          refine (need_yes S0.out).mono ?_
          rintro en w9 ⟨rfl, h9⟩
          obtain rfl := h9.symm
          clear h9
          go_wp2_with fail
          refine (W2.erc (heapType2 S0.out hp (by omega)) hx).mono ?_
          rintro en w1 ⟨⟨p, rfl⟩, t1⟩
          have T1 : Hid (WT b B w w1) := T0.out.trans t1
          clear t1
          go_wp2_with fail
          exact ⟨rfl, ⟨p, rfl⟩, T1.out⟩
        | ok m =>
          rw [thenW_ok rfl rfl]
          have S0 : Hid (WS b B (w.alloc (.cells #[.int .i64 n, .bool true, .int .i64 hp] 26)) l) := H.out.grew ((Grew.refl w).alloc _)
          have T0 : Hid (WT b B w (w.alloc (.cells #[.int .i64 n, .bool true, .int .i64 hp] 26))) := WT.of_grew ((Grew.refl w).alloc _)
          have N0 : Hid ((w.alloc (.cells #[.int .i64 n, .bool true, .int .i64 hp] 26)).heap[w.heap.size]? = some (.cells #[.int .i64 n, .bool true, .int .i64 hp] 26 (0, 0))) := heap_alloc_last _ _
          go_enter Tryz.func64, Tryz.ntmps64
          go_wp2_with fail
          have n0_0 := cell_of N0.out 0
          have n1_0 := cell_of N0.out 1
          have n2_0 := cell_of N0.out 2
          simp at n0_0 n1_0 n2_0
          refine (need_yes S0.out).mono ?_
          rintro en w9 ⟨rfl, h9⟩
          obtain rfl := h9.symm
          clear h9
          go_wp2_with fail
          refine (W2.okc (heapType2 S0.out hp (by omega)) hx).mono ?_
          rintro en w1 ⟨rfl, t1, s1⟩
          have T1 : Hid (WT b B w w1) := T0.out.trans t1
          have S1 : Hid (WS b B w1 (l ++ m)) := s1
          have N1 : Hid (w1.heap[w.heap.size]? = some (.cells #[.int .i64 n, .bool true, .int .i64 hp] 26 (0, 0))) := t1.other N0.out (by simp; omega) (NoT.of N0.out (by decide))
          clear t1 s1 T0 S0 N0
          go_wp2_with fail
          go_end0
          exact ⟨rfl, T1.out, by have := S1.out; simpa [List.append_assoc] using this⟩
  · rw [if_neg hn]
    have d5 : (n == 5) = false := by simpa using hn
    clear hn
    have S0 : Hid (WS b B (w.alloc (.cells #[.int .i64 n, .bool nul, .int .i64 hp] 26)) l) := H.out.grew ((Grew.refl w).alloc _)
    have T0 : Hid (WT b B w (w.alloc (.cells #[.int .i64 n, .bool nul, .int .i64 hp] 26))) := WT.of_grew ((Grew.refl w).alloc _)
    have N0 : Hid ((w.alloc (.cells #[.int .i64 n, .bool nul, .int .i64 hp] 26)).heap[w.heap.size]? = some (.cells #[.int .i64 n, .bool nul, .int .i64 hp] 26 (0, 0))) := heap_alloc_last _ _
    go_enter Tryz.func64, Tryz.ntmps64
    go_wp2_with fail
    have n0_0 := cell_of N0.out 0
    have n1_0 := cell_of N0.out 1
    have n2_0 := cell_of N0.out 2
    simp at n0_0 n1_0 n2_0
    refine (need_no S0.out).mono ?_
    rintro en w9 ⟨⟨p, rfl⟩, h9⟩
    obtain rfl := h9.symm
    go_wp2_with fail
    exact ⟨rfl, ⟨p, rfl⟩, T0.out⟩
set_option maxRecDepth 100000 in
set_option maxHeartbeats 1000000 in
theorem valType2 {b B : Nat} {w : World} {l : List Int} (h : WS b B w l) (t : VT) (hl : l.length ≤ 17592186044000)  :
    Calls Tryz.prog 37 #[.pointer (some ⟨b, 0, none⟩), t.v] w (W2 b B w l (valW t)) := by
  have H : Hid (WS b B w l) := h
  have hb : b < w.heap.size := h.blt
  clear h
  have C1 : Hid (∀ w1, WS b B w1 l → Calls Tryz.prog 64 #[.pointer (some ⟨b, 0, none⟩), t.v] w1 (W2 b B w1 l (refW t))) := fun w1 u => refType2 u t hl
  have C2 : Hid (∀ w1, WS b B w1 l → Calls Tryz.prog 65 #[.pointer (some ⟨b, 0, none⟩), .int .i64 1, t.v] w1 (W2 b B w1 l (plainW 1 t))) := fun w1 u => plain2 u 1 t (by omega)
  unfold valW
  generalize refW t = R1 at *
  generalize plainW 1 t = R2 at *
  obtain ⟨n, nul, hp⟩ := t
  unfold VT.v vt at *
  simp only at *
  by_cases hn : n = 5
  · rw [if_pos hn]
    have d5 : (n == 5) = true := by simpa using hn
    clear hn
    cases hx : R1 with
    | error e =>
      have S0 : Hid (WS b B (w.alloc (.cells #[.int .i64 n, .bool nul, .int .i64 hp] 26)) l) := H.out.grew ((Grew.refl w).alloc _)
      have T0 : Hid (WT b B w (w.alloc (.cells #[.int .i64 n, .bool nul, .int .i64 hp] 26))) := WT.of_grew ((Grew.refl w).alloc _)
      have N0 : Hid ((w.alloc (.cells #[.int .i64 n, .bool nul, .int .i64 hp] 26)).heap[w.heap.size]? = some (.cells #[.int .i64 n, .bool nul, .int .i64 hp] 26 (0, 0))) := heap_alloc_last _ _
      go_enter Tryz.func37, Tryz.ntmps37
      go_wp2_with fail
      refine (W2.erc (C1.out _ S0.out) hx).mono ?_
      rintro en w1 ⟨⟨p, rfl⟩, t1⟩
      have T1 : Hid (WT b B w w1) := T0.out.trans t1
      clear t1
      go_wp2_with fail
      exact ⟨rfl, ⟨p, rfl⟩, T1.out⟩
    | ok m =>
      have S0 : Hid (WS b B (w.alloc (.cells #[.int .i64 n, .bool nul, .int .i64 hp] 26)) l) := H.out.grew ((Grew.refl w).alloc _)
      have T0 : Hid (WT b B w (w.alloc (.cells #[.int .i64 n, .bool nul, .int .i64 hp] 26))) := WT.of_grew ((Grew.refl w).alloc _)
      have N0 : Hid ((w.alloc (.cells #[.int .i64 n, .bool nul, .int .i64 hp] 26)).heap[w.heap.size]? = some (.cells #[.int .i64 n, .bool nul, .int .i64 hp] 26 (0, 0))) := heap_alloc_last _ _
      go_enter Tryz.func37, Tryz.ntmps37
      go_wp2_with fail
      refine (W2.okc (C1.out _ S0.out) hx).mono ?_
      rintro en w1 ⟨rfl, t1, s1⟩
      have T1 : Hid (WT b B w w1) := T0.out.trans t1
      have S1 : Hid (WS b B w1 (l ++ m)) := s1
      have N1 : Hid (w1.heap[w.heap.size]? = some (.cells #[.int .i64 n, .bool nul, .int .i64 hp] 26 (0, 0))) := t1.other N0.out (by simp; omega) (NoT.of N0.out (by decide))
      clear t1 s1 T0 S0 N0
      go_wp2_with fail
      go_end0
      exact ⟨rfl, T1.out, by have := S1.out; simpa [List.append_assoc] using this⟩
  · rw [if_neg hn]
    have d5 : (n == 5) = false := by simpa using hn
    clear hn
    cases hx : R2 with
    | error e =>
      have S0 : Hid (WS b B (w.alloc (.cells #[.int .i64 n, .bool nul, .int .i64 hp] 26)) l) := H.out.grew ((Grew.refl w).alloc _)
      have T0 : Hid (WT b B w (w.alloc (.cells #[.int .i64 n, .bool nul, .int .i64 hp] 26))) := WT.of_grew ((Grew.refl w).alloc _)
      have N0 : Hid ((w.alloc (.cells #[.int .i64 n, .bool nul, .int .i64 hp] 26)).heap[w.heap.size]? = some (.cells #[.int .i64 n, .bool nul, .int .i64 hp] 26 (0, 0))) := heap_alloc_last _ _
      go_enter Tryz.func37, Tryz.ntmps37
      go_wp2_with fail
      refine (W2.erc (C2.out _ S0.out) hx).mono ?_
      rintro en w1 ⟨⟨p, rfl⟩, t1⟩
      have T1 : Hid (WT b B w w1) := T0.out.trans t1
      clear t1
      go_wp2_with fail
      exact ⟨rfl, ⟨p, rfl⟩, T1.out⟩
    | ok m =>
      have S0 : Hid (WS b B (w.alloc (.cells #[.int .i64 n, .bool nul, .int .i64 hp] 26)) l) := H.out.grew ((Grew.refl w).alloc _)
      have T0 : Hid (WT b B w (w.alloc (.cells #[.int .i64 n, .bool nul, .int .i64 hp] 26))) := WT.of_grew ((Grew.refl w).alloc _)
      have N0 : Hid ((w.alloc (.cells #[.int .i64 n, .bool nul, .int .i64 hp] 26)).heap[w.heap.size]? = some (.cells #[.int .i64 n, .bool nul, .int .i64 hp] 26 (0, 0))) := heap_alloc_last _ _
      go_enter Tryz.func37, Tryz.ntmps37
      go_wp2_with fail
      refine (W2.okc (C2.out _ S0.out) hx).mono ?_
      rintro en w1 ⟨rfl, t1, s1⟩
      have T1 : Hid (WT b B w w1) := T0.out.trans t1
      have S1 : Hid (WS b B w1 (l ++ m)) := s1
      have N1 : Hid (w1.heap[w.heap.size]? = some (.cells #[.int .i64 n, .bool nul, .int .i64 hp] 26 (0, 0))) := t1.other N0.out (by simp; omega) (NoT.of N0.out (by decide))
      clear t1 s1 T0 S0 N0
      go_wp2_with fail
      go_end0
      exact ⟨rfl, T1.out, by have := S1.out; simpa [List.append_assoc] using this⟩
set_option maxRecDepth 100000 in
set_option maxHeartbeats 1000000 in
theorem storage2 {b B : Nat} {w : World} {l : List Int} (h : WS b B w l) (t : VT) (hl : l.length ≤ 17592186044000)  :
    Calls Tryz.prog 93 #[.pointer (some ⟨b, 0, none⟩), t.v] w (W2 b B w l (storW t)) := by
  have H : Hid (WS b B w l) := h
  have hb : b < w.heap.size := h.blt
  clear h
  have C1 : Hid (∀ w1, WS b B w1 l → Calls Tryz.prog 65 #[.pointer (some ⟨b, 0, none⟩), .int .i64 3, t.v] w1 (W2 b B w1 l (plainW 3 t))) := fun w1 u => plain2 u 3 t (by omega)
  have C2 : Hid (∀ w1, WS b B w1 l → Calls Tryz.prog 37 #[.pointer (some ⟨b, 0, none⟩), t.v] w1 (W2 b B w1 l (valW t))) := fun w1 u => valType2 u t hl
  unfold storW
  generalize plainW 3 t = R1 at *
  generalize valW t = R2 at *
  obtain ⟨n, nul, hp⟩ := t
  unfold VT.v vt at *
  simp only at *
  by_cases h6 : n = 6
  · rw [if_pos (Or.inl h6)]
    have d6 : (n == 6) = true := by simpa using h6
    clear h6
    cases hx : R1 with
    | error e =>
      have S0 : Hid (WS b B (w.alloc (.cells #[.int .i64 n, .bool nul, .int .i64 hp] 26)) l) := H.out.grew ((Grew.refl w).alloc _)
      have T0 : Hid (WT b B w (w.alloc (.cells #[.int .i64 n, .bool nul, .int .i64 hp] 26))) := WT.of_grew ((Grew.refl w).alloc _)
      have N0 : Hid ((w.alloc (.cells #[.int .i64 n, .bool nul, .int .i64 hp] 26)).heap[w.heap.size]? = some (.cells #[.int .i64 n, .bool nul, .int .i64 hp] 26 (0, 0))) := heap_alloc_last _ _
      go_enter Tryz.func93, Tryz.ntmps93
      go_wp2_with fail
      refine (W2.erc (C1.out _ S0.out) hx).mono ?_
      rintro en w1 ⟨⟨p, rfl⟩, t1⟩
      have T1 : Hid (WT b B w w1) := T0.out.trans t1
      clear t1
      go_wp2_with fail
      exact ⟨rfl, ⟨p, rfl⟩, T1.out⟩
    | ok m =>
      have S0 : Hid (WS b B (w.alloc (.cells #[.int .i64 n, .bool nul, .int .i64 hp] 26)) l) := H.out.grew ((Grew.refl w).alloc _)
      have T0 : Hid (WT b B w (w.alloc (.cells #[.int .i64 n, .bool nul, .int .i64 hp] 26))) := WT.of_grew ((Grew.refl w).alloc _)
      have N0 : Hid ((w.alloc (.cells #[.int .i64 n, .bool nul, .int .i64 hp] 26)).heap[w.heap.size]? = some (.cells #[.int .i64 n, .bool nul, .int .i64 hp] 26 (0, 0))) := heap_alloc_last _ _
      go_enter Tryz.func93, Tryz.ntmps93
      go_wp2_with fail
      refine (W2.okc (C1.out _ S0.out) hx).mono ?_
      rintro en w1 ⟨rfl, t1, s1⟩
      have T1 : Hid (WT b B w w1) := T0.out.trans t1
      have S1 : Hid (WS b B w1 (l ++ m)) := s1
      have N1 : Hid (w1.heap[w.heap.size]? = some (.cells #[.int .i64 n, .bool nul, .int .i64 hp] 26 (0, 0))) := t1.other N0.out (by simp; omega) (NoT.of N0.out (by decide))
      clear t1 s1 T0 S0 N0
      go_wp2_with fail
      go_end0
      exact ⟨rfl, T1.out, by have := S1.out; simpa [List.append_assoc] using this⟩
  · have d6 : (n == 6) = false := by simpa using h6
    by_cases h7 : n = 7
    · rw [if_pos (Or.inr h7)]
      have d7 : (n == 7) = true := by simpa using h7
      clear h6 h7
      cases hx : R1 with
      | error e =>
        have S0 : Hid (WS b B (w.alloc (.cells #[.int .i64 n, .bool nul, .int .i64 hp] 26)) l) := H.out.grew ((Grew.refl w).alloc _)
        have T0 : Hid (WT b B w (w.alloc (.cells #[.int .i64 n, .bool nul, .int .i64 hp] 26))) := WT.of_grew ((Grew.refl w).alloc _)
        have N0 : Hid ((w.alloc (.cells #[.int .i64 n, .bool nul, .int .i64 hp] 26)).heap[w.heap.size]? = some (.cells #[.int .i64 n, .bool nul, .int .i64 hp] 26 (0, 0))) := heap_alloc_last _ _
        go_enter Tryz.func93, Tryz.ntmps93
        go_wp2_with fail
        refine (W2.erc (C1.out _ S0.out) hx).mono ?_
        rintro en w1 ⟨⟨p, rfl⟩, t1⟩
        have T1 : Hid (WT b B w w1) := T0.out.trans t1
        clear t1
        go_wp2_with fail
        exact ⟨rfl, ⟨p, rfl⟩, T1.out⟩
      | ok m =>
        have S0 : Hid (WS b B (w.alloc (.cells #[.int .i64 n, .bool nul, .int .i64 hp] 26)) l) := H.out.grew ((Grew.refl w).alloc _)
        have T0 : Hid (WT b B w (w.alloc (.cells #[.int .i64 n, .bool nul, .int .i64 hp] 26))) := WT.of_grew ((Grew.refl w).alloc _)
        have N0 : Hid ((w.alloc (.cells #[.int .i64 n, .bool nul, .int .i64 hp] 26)).heap[w.heap.size]? = some (.cells #[.int .i64 n, .bool nul, .int .i64 hp] 26 (0, 0))) := heap_alloc_last _ _
        go_enter Tryz.func93, Tryz.ntmps93
        go_wp2_with fail
        refine (W2.okc (C1.out _ S0.out) hx).mono ?_
        rintro en w1 ⟨rfl, t1, s1⟩
        have T1 : Hid (WT b B w w1) := T0.out.trans t1
        have S1 : Hid (WS b B w1 (l ++ m)) := s1
        have N1 : Hid (w1.heap[w.heap.size]? = some (.cells #[.int .i64 n, .bool nul, .int .i64 hp] 26 (0, 0))) := t1.other N0.out (by simp; omega) (NoT.of N0.out (by decide))
        clear t1 s1 T0 S0 N0
        go_wp2_with fail
        go_end0
        exact ⟨rfl, T1.out, by have := S1.out; simpa [List.append_assoc] using this⟩
    · rw [if_neg (by omega)]
      have d7 : (n == 7) = false := by simpa using h7
      clear h6 h7
      cases hx : R2 with
      | error e =>
        have S0 : Hid (WS b B (w.alloc (.cells #[.int .i64 n, .bool nul, .int .i64 hp] 26)) l) := H.out.grew ((Grew.refl w).alloc _)
        have T0 : Hid (WT b B w (w.alloc (.cells #[.int .i64 n, .bool nul, .int .i64 hp] 26))) := WT.of_grew ((Grew.refl w).alloc _)
        have N0 : Hid ((w.alloc (.cells #[.int .i64 n, .bool nul, .int .i64 hp] 26)).heap[w.heap.size]? = some (.cells #[.int .i64 n, .bool nul, .int .i64 hp] 26 (0, 0))) := heap_alloc_last _ _
        go_enter Tryz.func93, Tryz.ntmps93
        go_wp2_with fail
        refine (W2.erc (C2.out _ S0.out) hx).mono ?_
        rintro en w1 ⟨⟨p, rfl⟩, t1⟩
        have T1 : Hid (WT b B w w1) := T0.out.trans t1
        clear t1
        go_wp2_with fail
        exact ⟨rfl, ⟨p, rfl⟩, T1.out⟩
      | ok m =>
        have S0 : Hid (WS b B (w.alloc (.cells #[.int .i64 n, .bool nul, .int .i64 hp] 26)) l) := H.out.grew ((Grew.refl w).alloc _)
        have T0 : Hid (WT b B w (w.alloc (.cells #[.int .i64 n, .bool nul, .int .i64 hp] 26))) := WT.of_grew ((Grew.refl w).alloc _)
        have N0 : Hid ((w.alloc (.cells #[.int .i64 n, .bool nul, .int .i64 hp] 26)).heap[w.heap.size]? = some (.cells #[.int .i64 n, .bool nul, .int .i64 hp] 26 (0, 0))) := heap_alloc_last _ _
        go_enter Tryz.func93, Tryz.ntmps93
        go_wp2_with fail
        refine (W2.okc (C2.out _ S0.out) hx).mono ?_
        rintro en w1 ⟨rfl, t1, s1⟩
        have T1 : Hid (WT b B w w1) := T0.out.trans t1
        have S1 : Hid (WS b B w1 (l ++ m)) := s1
        have N1 : Hid (w1.heap[w.heap.size]? = some (.cells #[.int .i64 n, .bool nul, .int .i64 hp] 26 (0, 0))) := t1.other N0.out (by simp; omega) (NoT.of N0.out (by decide))
        clear t1 s1 T0 S0 N0
        go_wp2_with fail
        go_end0
        exact ⟨rfl, T1.out, by have := S1.out; simpa [List.append_assoc] using this⟩
theorem codeR_len {kd n : Int} {m : List Int} (h : codeR kd n = .ok m) : m.length = 1 := by
  unfold codeR at h
  split at h
  · cases h; rfl
  · cases h
theorem plainW_len {kd : Int} {t : VT} {m : List Int} (h : plainW kd t = .ok m) : m.length = 1 := by
  unfold plainW at h
  split at h
  · exact codeR_len h
  · cases h
theorem heapW_len {n : Int} {m : List Int} (h : heapW n = .ok m) : m.length ≤ 11 := by
  unfold heapW at h
  split at h
  · unfold sidxW at h
    split at h
    · cases h; exact PS_len n
    · cases h
  · have := codeR_len h; omega
theorem refW_len {t : VT} {m : List Int} (h : refW t = .ok m) : m.length ≤ 12 := by
  unfold refW at h
  split at h
  · cases hy : heapW t.heap with
    | error e =>
      rw [hy] at h
      split at h
      · rw [code_50] at h; cases h
      · split at h
        · rw [code_51] at h; cases h
        · cases h
    | ok k =>
      have hk := heapW_len hy
      rw [hy] at h
      split at h
      · rw [code_50] at h; cases h; simp; omega
      · split at h
        · rw [code_51] at h; cases h; simp; omega
        · cases h; simp; omega
  · cases h
theorem valW_len {t : VT} {m : List Int} (h : valW t = .ok m) : m.length ≤ 12 := by
  unfold valW at h
  split at h
  · exact refW_len h
  · have := plainW_len h; omega
theorem storW_len {t : VT} {m : List Int} (h : storW t = .ok m) : m.length ≤ 12 := by
  unfold storW at h
  split at h
  · have := plainW_len h; omega
  · exact valW_len h
set_option maxRecDepth 100000 in
set_option maxHeartbeats 1000000 in
theorem field2 {b B : Nat} {w : World} {l : List Int} (h : WS b B w l) (f : FT) (hl : l.length ≤ 17592186043000)  :
    Calls Tryz.prog 71 #[.pointer (some ⟨b, 0, none⟩), f.v] w (W2 b B w l (fieldW f)) := by
  have H : Hid (WS b B w l) := h
  have hb : b < w.heap.size := h.blt
  clear h
  have C1 : Hid (∀ w1, WS b B w1 l → Calls Tryz.prog 93 #[.pointer (some ⟨b, 0, none⟩), f.ty.v] w1 (W2 b B w1 l (storW f.ty))) := fun w1 u => storage2 u f.ty (by omega)
  have HM : ∀ m, storW f.ty = .ok m → m.length ≤ 1000 := fun m h => by have := storW_len h; omega
  unfold fieldW
  generalize storW f.ty = R1 at *
  obtain ⟨⟨n, nul, hp⟩, mu⟩ := f
  unfold VT.v vt at C1
  unfold FT.v
  simp only at *
  cases hx : R1 with
  | error e =>
    rw [thenW_er rfl]
    have S0 : Hid (WS b B (w.alloc (.cells #[.int .i64 n, .bool nul, .int .i64 hp, .bool mu] 107)) l) := H.out.grew ((Grew.refl w).alloc _)
    have T0 : Hid (WT b B w (w.alloc (.cells #[.int .i64 n, .bool nul, .int .i64 hp, .bool mu] 107))) := WT.of_grew ((Grew.refl w).alloc _)
    have N0 : Hid ((w.alloc (.cells #[.int .i64 n, .bool nul, .int .i64 hp, .bool mu] 107)).heap[w.heap.size]? = some (.cells #[.int .i64 n, .bool nul, .int .i64 hp, .bool mu] 107 (0, 0))) := heap_alloc_last _ _
    go_enter Tryz.func71, Tryz.ntmps71
    go_wp2_with fail
    refine (W2.erc (C1.out _ S0.out) hx).mono ?_
    rintro en w1 ⟨⟨p, rfl⟩, t1⟩
    have T1 : Hid (WT b B w w1) := T0.out.trans t1
    clear t1
    go_wp2_with fail
    exact ⟨rfl, ⟨p, rfl⟩, T1.out⟩
  | ok m =>
    rw [thenW_ok rfl rfl]
    have S0 : Hid (WS b B (w.alloc (.cells #[.int .i64 n, .bool nul, .int .i64 hp, .bool mu] 107)) l) := H.out.grew ((Grew.refl w).alloc _)
    have T0 : Hid (WT b B w (w.alloc (.cells #[.int .i64 n, .bool nul, .int .i64 hp, .bool mu] 107))) := WT.of_grew ((Grew.refl w).alloc _)
    have N0 : Hid ((w.alloc (.cells #[.int .i64 n, .bool nul, .int .i64 hp, .bool mu] 107)).heap[w.heap.size]? = some (.cells #[.int .i64 n, .bool nul, .int .i64 hp, .bool mu] 107 (0, 0))) := heap_alloc_last _ _
    go_enter Tryz.func71, Tryz.ntmps71
    go_wp2_with fail
    refine (W2.okc (C1.out _ S0.out) hx).mono ?_
    rintro en w1 ⟨rfl, t1, s1⟩
    have T1 : Hid (WT b B w w1) := T0.out.trans t1
    have S1 : Hid (WS b B w1 (l ++ m)) := s1
    have N1 : Hid (w1.heap[w.heap.size]? = some (.cells #[.int .i64 n, .bool nul, .int .i64 hp, .bool mu] 107 (0, 0))) := t1.other N0.out (by simp; omega) (NoT.of N0.out (by decide))
    clear t1 s1 T0 S0 N0
    have hml : m.length ≤ 1000 := HM m hx
    have n0_1 := cell_of N1.out 0
    have n1_1 := cell_of N1.out 1
    have n2_1 := cell_of N1.out 2
    have n3_1 := cell_of N1.out 3
    simp at n0_1 n1_1 n2_1 n3_1
    go_wp2_with fail
    refine (W2.okc (flag2 S1.out mu (by simp; omega)) rfl).mono ?_
    rintro en w2 ⟨rfl, t2, s2⟩
    have T2 : Hid (WT b B w w2) := T1.out.trans t2
    have S2 : Hid (WS b B w2 ((l ++ m) ++ flagB mu)) := s2
    have N2 : Hid (w2.heap[w.heap.size]? = some (.cells #[.int .i64 n, .bool nul, .int .i64 hp, .bool mu] 107 (0, 0))) := t2.other N1.out (by simp; omega) (NoT.of N1.out (by decide))
    clear t2 s2 T1 S1 N1
    go_wp2_with fail
    go_end0
    exact ⟨rfl, T2.out, by have := S2.out; simpa [List.append_assoc] using this⟩
end Go.Proofs.YtchehejjdinifaaGreatDoor

namespace Go.Proofs.YtchehejjdinifaaGreatDoor
open Go.RowKit
set_option linter.unusedVariables false
set_option linter.unusedSimpArgs false
set_option linter.constructorNameAsVariable false

def manyW {α : Type} (wr : α → Except Nat (List Int)) : List α → Except Nat (List Int)
  | [] => .ok []
  | x :: r => thenW (wr x) (manyW wr r)
def listW {α : Type} (lim : Nat) (wr : α → Except Nat (List Int)) (xs : List α) : Except Nat (List Int) := if lim < xs.length then .error 2 else thenW (.ok (PU xs.length)) (manyW wr xs)
theorem thenW_nil (r : Except Nat (List Int)) : thenW r (.ok []) = r := by
  cases r with
  | error e => rfl
  | ok m => simp [thenW]
theorem thenW_assoc (a b c : Except Nat (List Int)) : thenW a (thenW b c) = thenW (thenW a b) c := by
  cases a with
  | error e => rfl
  | ok m =>
    cases b with
    | error e => rfl
    | ok n =>
      cases c with
      | error e => rfl
      | ok k => simp [thenW]
theorem manyW_drop {α : Type} {wr : α → Except Nat (List Int)} {xs : List α} {i : Nat} {x : α} (hx : xs[i]? = some x) (m : List Int) : thenW (.ok m) (manyW wr (xs.drop i)) = thenW (thenW (.ok m) (wr x)) (manyW wr (xs.drop (i + 1))) := by
  obtain ⟨h1, e1⟩ := List.getElem?_eq_some_iff.1 hx
  rw [List.drop_eq_getElem_cons h1, e1, manyW, thenW_assoc]
theorem uidxW_len {n : Int} {m : List Int} (h : uidxW n = .ok m) : m.length ≤ 11 := by
  unfold uidxW at h
  split at h
  · cases h; exact PU_len n
  · cases h
theorem fieldW_len {f : FT} {m : List Int} (h : fieldW f = .ok m) : m.length ≤ 13 := by
  unfold fieldW at h
  cases hx : storW f.ty with
  | error e => rw [hx] at h; cases h
  | ok k =>
    have := storW_len hx
    rw [hx] at h
    cases h
    simp [flagB]
    omega
set_option maxRecDepth 100000 in
set_option maxHeartbeats 1000000 in
theorem putListV2 {b B : Nat} {w w0 : World} {l : List Int} (h : WS b B w l) (g0 : Grew w0 w) (hb0 : w0.heap.size ≤ b) (v : Value) (xs : List VT) (hv : LV w0 v xs) (lim : Nat) (hlim : lim ≤ 10000) (hl : l.length ≤ 17000000000000) :
    Calls Tryz.prog 92 #[.pointer (some ⟨b, 0, none⟩), .int .i64 (lim : Int), v, .func (.func 37) #[] #[]] w (W2 b B w l (listW lim valW xs)) := by
  have H : Hid (WS b B w l) := h
  have hblt := h.lt
  have hb : b < w.heap.size := h.blt
  have G0 : Hid (Grew w0 w) := g0
  have HV : Hid (LV w0 v xs) := hv
  obtain ⟨o, ho, hrow⟩ := h.ex
  obtain ⟨oa, oc, rfl⟩ := row_one hrow
  have q0 := cell_of ho 0
  simp at q0
  obtain ⟨a, cap, rfl, hlc, hm⟩ := hv.one
  have hxm : xs.length ≤ 9223372036854775807 := by unfold maxLen at hm; omega
  clear h g0 hv ho hrow
  unfold listW
  by_cases hlen : lim < xs.length
  · rw [if_pos hlen]
    have d1 : decide ((lim : Int) < (xs.length : Int)) = true := by simp; omega
    have d2 : decide (lim < xs.length) = true := by simpa using hlen
    go_enter Tryz.func92, Tryz.ntmps92
    go_wp2_with fail
    refine (giveUp_any _ 2 _).mono ?_
    rintro en w9 ⟨rfl, h9⟩
    obtain rfl := h9.symm
    go_wp2_with fail
    exact ⟨rfl, ⟨_, rfl⟩, WT.refl _ _ _⟩
  · rw [if_neg hlen]
    have d1 : decide ((lim : Int) < (xs.length : Int)) = false := by simp; omega
    have d2 : decide (lim < xs.length) = false := by simpa using hlen
    have cv : IntKind.u64.wrap (xs.length : Int) = (xs.length : Int) := by rw [IntKind.wrap_u64]; omega
    have C := W2.okc (unsigned2 H.out (xs.length : Int) (by omega) (by omega) (by omega)) rfl
    have hpl := PU_len (xs.length : Int)
    obtain ⟨R, hR⟩ : ∃ R, R = thenW (.ok (PU xs.length)) (manyW valW xs) := ⟨_, rfl⟩
    rw [← hR]
    have HR : Hid (R = thenW (.ok (PU xs.length ++ [])) (manyW valW (xs.drop 0))) := by
      have : R = thenW (.ok (PU xs.length ++ [])) (manyW valW (xs.drop 0)) := by rw [hR]; simp
      exact this
    clear hR
    go_enter Tryz.func92, Tryz.ntmps92
    go_wp2_with fail
    refine C.mono ?_
    rintro en w1 ⟨rfl, t1, s1⟩
    have T1 : Hid (WT b B w w1) := t1
    have S1 : Hid (WS b B w1 (l ++ PU xs.length)) := s1
    clear C t1 s1 q0
    go_wp2_with fail
    go_loopw [27] (fun i_ wr => ∃ (i : Nat) (m : List Int), i_ = .int .i64 i ∧ i ≤ xs.length ∧ m.length ≤ 12 * i ∧ Hid (WT b B w wr) ∧ Hid (WS b B wr (l ++ (PU xs.length ++ m))) ∧ Hid (R = thenW (.ok (PU xs.length ++ m)) (manyW valW (xs.drop i)))) (fun i_ _ => xs.length - (intOf i_).toNat)
    case atStart => exact ⟨0, [], rfl, by omega, by simp, T1, by simpa using S1, HR⟩
    case round =>
      obtain ⟨i, m, rfl, hi, hml, TR, SR, HE⟩ := hrel
      by_cases hlt : i < xs.length
      · obtain ⟨x, hx⟩ : ∃ x, xs[i]? = some x := ⟨_, List.getElem?_eq_getElem hlt⟩
        have d3 : decide ((i : Int) < (xs.length : Int)) = true := by simp; omega
        have d4 : decide (i < xs.length) = true := by simpa using hlt
        have GR : Grew w0 wr := TR.out.grew0 G0.out hb0 (by omega)
        obtain ⟨bb, off, ea, _, hc⟩ := (HV.out.grew GR).get (by omega)
        have hce := hc i x hx
        subst ea
        have HE2 := HE.out
        rw [manyW_drop hx] at HE2
        have hlx : (l ++ (PU xs.length ++ m)).length ≤ 17000000000000 + 1000000 := by simp; omega
        have D := fun (w1 : World) (u : WS b B w1 (l ++ (PU xs.length ++ m))) => valType2 u x (by omega)
        obtain ⟨vn, vb, vh⟩ := x
        obtain ⟨p0, p1, p2⟩ := hce
        unfold VT.v vt at D
        simp only at p0 p1 p2 D
        cases hy : valW ⟨vn, vb, vh⟩ with
        | error e =>
          have HE3 : Hid (R = .error e) := by
            have : R = .error e := by rw [HE2, hy]; rfl
            exact this
          have D2 := W2.erc (D (wr.alloc (.cells #[.int .i64 vn, .bool vb, .int .i64 vh] 26)) (SR.out.grew ((Grew.refl wr).alloc _))) hy
          clear hc HE HE2 D hx GR
          go_wp2_with fail
          refine D2.mono ?_
          rintro en w2 ⟨⟨p, rfl⟩, t2⟩
          have T2 : Hid (WT b B w w2) := (TR.out.trans (WT.of_grew ((Grew.refl wr).alloc _))).trans t2
          clear D2 t2
          go_wp2_with fail
          exact ⟨rfl, by rw [HE3.out]; exact ⟨⟨p, rfl⟩, T2.out⟩⟩
        | ok n =>
          have hnl := valW_len hy
          have HE3 : Hid (R = thenW (.ok (PU xs.length ++ (m ++ n))) (manyW valW (xs.drop (i + 1)))) := by
            have : R = thenW (.ok (PU xs.length ++ (m ++ n))) (manyW valW (xs.drop (i + 1))) := by rw [HE2, hy, ← List.append_assoc]; rfl
            exact this
          have D2 := W2.okc (D (wr.alloc (.cells #[.int .i64 vn, .bool vb, .int .i64 vh] 26)) (SR.out.grew ((Grew.refl wr).alloc _))) hy
          clear hc HE HE2 D hx GR hy
          go_wp2_with fail
          refine D2.mono ?_
          rintro en w2 ⟨rfl, t2, s2⟩
          have T2 : Hid (WT b B w w2) := (TR.out.trans (WT.of_grew ((Grew.refl wr).alloc _))).trans t2
          have s3 : WS b B w2 (l ++ (PU xs.length ++ (m ++ n))) := by simpa [List.append_assoc] using s2
          have S2 : Hid (WS b B w2 (l ++ (PU xs.length ++ (m ++ n)))) := s3
          clear D2 t2 s2 s3 TR SR
          go_wp2_with fail
          go_roundw
          case rel => exact ⟨i + 1, m ++ n, by go_num, by omega, by simp; omega, T2, S2, HE3⟩
          case measure => simp [intOf]; omega
      · have d3 : decide ((i : Int) < (xs.length : Int)) = false := by simp; omega
        have d4 : decide (i < xs.length) = false := by simpa using hlt
        have HE3 : Hid (R = .ok (PU xs.length ++ m)) := by
          have : R = .ok (PU xs.length ++ m) := by rw [HE.out, List.drop_eq_nil_of_le (by omega)]; simp [manyW, thenW]
          exact this
        go_wp2_with fail
        go_end0
        rw [HE3.out]
        exact ⟨rfl, TR.out, SR.out⟩
set_option maxRecDepth 100000 in
set_option maxHeartbeats 1000000 in
theorem valTypes2 {b B : Nat} {w w0 : World} {l : List Int} (h : WS b B w l) (g0 : Grew w0 w) (hb0 : w0.heap.size ≤ b) (v : Value) (xs : List VT) (hv : LV w0 v xs) (hl : l.length ≤ 17000000000000) :
    Calls Tryz.prog 69 #[.pointer (some ⟨b, 0, none⟩), v] w (W2 b B w l (listW 1000 valW xs)) := by
  have C := putListV2 h g0 hb0 v xs hv 1000 (by decide) hl
  obtain ⟨a, cap, rfl, _, _⟩ := hv.one
  clear h g0 hv
  generalize listW 1000 valW xs = R at *
  go_enter Tryz.func69, Tryz.ntmps69
  go_wp2_with fail
  refine C.mono ?_
  intro en w1 ha
  clear C
  cases R with
  | error e =>
    obtain ⟨⟨p, rfl⟩, t1⟩ := ha
    have T1 : Hid (WT b B w w1) := t1
    clear t1
    go_wp2_with fail
    exact ⟨rfl, ⟨p, rfl⟩, T1.out⟩
  | ok m =>
    obtain ⟨rfl, t1, s1⟩ := ha
    have F1 : Hid (WT b B w w1 ∧ WS b B w1 (l ++ m)) := ⟨t1, s1⟩
    clear t1 s1
    go_wp2_with fail
    go_end0
    exact ⟨rfl, F1.out⟩
set_option maxRecDepth 100000 in
set_option maxHeartbeats 1000000 in
theorem putListF2 {b B : Nat} {w w0 : World} {l : List Int} (h : WS b B w l) (g0 : Grew w0 w) (hb0 : w0.heap.size ≤ b) (v : Value) (xs : List FT) (hv : LF w0 v xs) (lim : Nat) (hlim : lim ≤ 10000) (hl : l.length ≤ 17000000000000) :
    Calls Tryz.prog 70 #[.pointer (some ⟨b, 0, none⟩), .int .i64 (lim : Int), v, .func (.func 71) #[] #[]] w (W2 b B w l (listW lim fieldW xs)) := by
  have H : Hid (WS b B w l) := h
  have hblt := h.lt
  have hb : b < w.heap.size := h.blt
  have G0 : Hid (Grew w0 w) := g0
  have HV : Hid (LF w0 v xs) := hv
  obtain ⟨o, ho, hrow⟩ := h.ex
  obtain ⟨oa, oc, rfl⟩ := row_one hrow
  have q0 := cell_of ho 0
  simp at q0
  obtain ⟨a, cap, rfl, hlc, hm⟩ := hv.one
  have hxm : xs.length ≤ 9223372036854775807 := by unfold maxLen at hm; omega
  clear h g0 hv ho hrow
  unfold listW
  by_cases hlen : lim < xs.length
  · rw [if_pos hlen]
    have d1 : decide ((lim : Int) < (xs.length : Int)) = true := by simp; omega
    have d2 : decide (lim < xs.length) = true := by simpa using hlen
    go_enter Tryz.func70, Tryz.ntmps70
    go_wp2_with fail
    refine (giveUp_any _ 2 _).mono ?_
    rintro en w9 ⟨rfl, h9⟩
    obtain rfl := h9.symm
    go_wp2_with fail
    exact ⟨rfl, ⟨_, rfl⟩, WT.refl _ _ _⟩
  · rw [if_neg hlen]
    have d1 : decide ((lim : Int) < (xs.length : Int)) = false := by simp; omega
    have d2 : decide (lim < xs.length) = false := by simpa using hlen
    have cv : IntKind.u64.wrap (xs.length : Int) = (xs.length : Int) := by rw [IntKind.wrap_u64]; omega
    have C := W2.okc (unsigned2 H.out (xs.length : Int) (by omega) (by omega) (by omega)) rfl
    have hpl := PU_len (xs.length : Int)
    obtain ⟨R, hR⟩ : ∃ R, R = thenW (.ok (PU xs.length)) (manyW fieldW xs) := ⟨_, rfl⟩
    rw [← hR]
    have HR : Hid (R = thenW (.ok (PU xs.length ++ [])) (manyW fieldW (xs.drop 0))) := by
      have : R = thenW (.ok (PU xs.length ++ [])) (manyW fieldW (xs.drop 0)) := by rw [hR]; simp
      exact this
    clear hR
    go_enter Tryz.func70, Tryz.ntmps70
    go_wp2_with fail
    refine C.mono ?_
    rintro en w1 ⟨rfl, t1, s1⟩
    have T1 : Hid (WT b B w w1) := t1
    have S1 : Hid (WS b B w1 (l ++ PU xs.length)) := s1
    clear C t1 s1 q0
    go_wp2_with fail
    go_loopw [27] (fun i_ wr => ∃ (i : Nat) (m : List Int), i_ = .int .i64 i ∧ i ≤ xs.length ∧ m.length ≤ 13 * i ∧ Hid (WT b B w wr) ∧ Hid (WS b B wr (l ++ (PU xs.length ++ m))) ∧ Hid (R = thenW (.ok (PU xs.length ++ m)) (manyW fieldW (xs.drop i)))) (fun i_ _ => xs.length - (intOf i_).toNat)
    case atStart => exact ⟨0, [], rfl, by omega, by simp, T1, by simpa using S1, HR⟩
    case round =>
      obtain ⟨i, m, rfl, hi, hml, TR, SR, HE⟩ := hrel
      by_cases hlt : i < xs.length
      · obtain ⟨x, hx⟩ : ∃ x, xs[i]? = some x := ⟨_, List.getElem?_eq_getElem hlt⟩
        have d3 : decide ((i : Int) < (xs.length : Int)) = true := by simp; omega
        have d4 : decide (i < xs.length) = true := by simpa using hlt
        have GR : Grew w0 wr := TR.out.grew0 G0.out hb0 (by omega)
        obtain ⟨bb, off, ea, _, hc⟩ := (HV.out.grew GR).get (by omega)
        have hce := hc i x hx
        subst ea
        have HE2 := HE.out
        rw [manyW_drop hx] at HE2
        have hlx : (l ++ (PU xs.length ++ m)).length ≤ 17000000000000 + 1000000 := by simp; omega
        have D := fun (w1 : World) (u : WS b B w1 (l ++ (PU xs.length ++ m))) => field2 u x (by omega)
        obtain ⟨⟨vn, vb, vh⟩, mu⟩ := x
        obtain ⟨⟨p0, p1, p2⟩, p3⟩ := hce
        unfold FT.v at D
        simp only at p0 p1 p2 p3 D
        cases hy : fieldW ⟨⟨vn, vb, vh⟩, mu⟩ with
        | error e =>
          have HE3 : Hid (R = .error e) := by
            have : R = .error e := by rw [HE2, hy]; rfl
            exact this
          have D2 := W2.erc (D (wr.alloc (.cells #[.int .i64 vn, .bool vb, .int .i64 vh, .bool mu] 107)) (SR.out.grew ((Grew.refl wr).alloc _))) hy
          clear hc HE HE2 D hx GR
          go_wp2_with fail
          refine D2.mono ?_
          rintro en w2 ⟨⟨p, rfl⟩, t2⟩
          have T2 : Hid (WT b B w w2) := (TR.out.trans (WT.of_grew ((Grew.refl wr).alloc _))).trans t2
          clear D2 t2
          go_wp2_with fail
          exact ⟨rfl, by rw [HE3.out]; exact ⟨⟨p, rfl⟩, T2.out⟩⟩
        | ok n =>
          have hnl := fieldW_len hy
          have HE3 : Hid (R = thenW (.ok (PU xs.length ++ (m ++ n))) (manyW fieldW (xs.drop (i + 1)))) := by
            have : R = thenW (.ok (PU xs.length ++ (m ++ n))) (manyW fieldW (xs.drop (i + 1))) := by rw [HE2, hy, ← List.append_assoc]; rfl
            exact this
          have D2 := W2.okc (D (wr.alloc (.cells #[.int .i64 vn, .bool vb, .int .i64 vh, .bool mu] 107)) (SR.out.grew ((Grew.refl wr).alloc _))) hy
          clear hc HE HE2 D hx GR hy
          go_wp2_with fail
          refine D2.mono ?_
          rintro en w2 ⟨rfl, t2, s2⟩
          have T2 : Hid (WT b B w w2) := (TR.out.trans (WT.of_grew ((Grew.refl wr).alloc _))).trans t2
          have s3 : WS b B w2 (l ++ (PU xs.length ++ (m ++ n))) := by simpa [List.append_assoc] using s2
          have S2 : Hid (WS b B w2 (l ++ (PU xs.length ++ (m ++ n)))) := s3
          clear D2 t2 s2 s3 TR SR
          go_wp2_with fail
          go_roundw
          case rel => exact ⟨i + 1, m ++ n, by go_num, by omega, by simp; omega, T2, S2, HE3⟩
          case measure => simp [intOf]; omega
      · have d3 : decide ((i : Int) < (xs.length : Int)) = false := by simp; omega
        have d4 : decide (i < xs.length) = false := by simpa using hlt
        have HE3 : Hid (R = .ok (PU xs.length ++ m)) := by
          have : R = .ok (PU xs.length ++ m) := by rw [HE.out, List.drop_eq_nil_of_le (by omega)]; simp [manyW, thenW]
          exact this
        go_wp2_with fail
        go_end0
        rw [HE3.out]
        exact ⟨rfl, TR.out, SR.out⟩
set_option maxRecDepth 100000 in
set_option maxHeartbeats 1000000 in
theorem putListI2 {b B : Nat} {w w0 : World} {l : List Int} (h : WS b B w l) (g0 : Grew w0 w) (hb0 : w0.heap.size ≤ b) (v : Value) (xs : List Int) (hv : LI w0 v xs) (lim : Nat) (hlim : lim ≤ 10000) (hl : l.length ≤ 17000000000000) :
    Calls Tryz.prog 66 #[.pointer (some ⟨b, 0, none⟩), .int .i64 (lim : Int), v, .func (.func 52) #[] #[]] w (W2 b B w l (listW lim uidxW xs)) := by
  have H : Hid (WS b B w l) := h
  have hblt := h.lt
  have hb : b < w.heap.size := h.blt
  have G0 : Hid (Grew w0 w) := g0
  have HV : Hid (LI w0 v xs) := hv
  obtain ⟨o, ho, hrow⟩ := h.ex
  obtain ⟨oa, oc, rfl⟩ := row_one hrow
  have q0 := cell_of ho 0
  simp at q0
  obtain ⟨a, cap, rfl, hlc, hm⟩ := hv.one
  have hxm : xs.length ≤ 9223372036854775807 := by unfold maxLen at hm; omega
  clear h g0 hv ho hrow
  unfold listW
  by_cases hlen : lim < xs.length
  · rw [if_pos hlen]
    have d1 : decide ((lim : Int) < (xs.length : Int)) = true := by simp; omega
    have d2 : decide (lim < xs.length) = true := by simpa using hlen
    go_enter Tryz.func66, Tryz.ntmps66
    go_wp2_with fail
    refine (giveUp_any _ 2 _).mono ?_
    rintro en w9 ⟨rfl, h9⟩
    obtain rfl := h9.symm
    go_wp2_with fail
    exact ⟨rfl, ⟨_, rfl⟩, WT.refl _ _ _⟩
  · rw [if_neg hlen]
    have d1 : decide ((lim : Int) < (xs.length : Int)) = false := by simp; omega
    have d2 : decide (lim < xs.length) = false := by simpa using hlen
    have cv : IntKind.u64.wrap (xs.length : Int) = (xs.length : Int) := by rw [IntKind.wrap_u64]; omega
    have C := W2.okc (unsigned2 H.out (xs.length : Int) (by omega) (by omega) (by omega)) rfl
    have hpl := PU_len (xs.length : Int)
    obtain ⟨R, hR⟩ : ∃ R, R = thenW (.ok (PU xs.length)) (manyW uidxW xs) := ⟨_, rfl⟩
    rw [← hR]
    have HR : Hid (R = thenW (.ok (PU xs.length ++ [])) (manyW uidxW (xs.drop 0))) := by
      have : R = thenW (.ok (PU xs.length ++ [])) (manyW uidxW (xs.drop 0)) := by rw [hR]; simp
      exact this
    clear hR
    go_enter Tryz.func66, Tryz.ntmps66
    go_wp2_with fail
    refine C.mono ?_
    rintro en w1 ⟨rfl, t1, s1⟩
    have T1 : Hid (WT b B w w1) := t1
    have S1 : Hid (WS b B w1 (l ++ PU xs.length)) := s1
    clear C t1 s1 q0
    go_wp2_with fail
    go_loopw [27] (fun i_ wr => ∃ (i : Nat) (m : List Int), i_ = .int .i64 i ∧ i ≤ xs.length ∧ m.length ≤ 11 * i ∧ Hid (WT b B w wr) ∧ Hid (WS b B wr (l ++ (PU xs.length ++ m))) ∧ Hid (R = thenW (.ok (PU xs.length ++ m)) (manyW uidxW (xs.drop i)))) (fun i_ _ => xs.length - (intOf i_).toNat)
    case atStart => exact ⟨0, [], rfl, by omega, by simp, T1, by simpa using S1, HR⟩
    case round =>
      obtain ⟨i, m, rfl, hi, hml, TR, SR, HE⟩ := hrel
      by_cases hlt : i < xs.length
      · obtain ⟨x, hx⟩ : ∃ x, xs[i]? = some x := ⟨_, List.getElem?_eq_getElem hlt⟩
        have d3 : decide ((i : Int) < (xs.length : Int)) = true := by simp; omega
        have d4 : decide (i < xs.length) = true := by simpa using hlt
        have GR : Grew w0 wr := TR.out.grew0 G0.out hb0 (by omega)
        obtain ⟨bb, off, ea, _, hc⟩ := (HV.out.grew GR).get (by omega)
        have hce := hc i x hx
        subst ea
        have HE2 := HE.out
        rw [manyW_drop hx] at HE2
        have hlx : (l ++ (PU xs.length ++ m)).length ≤ 17000000000000 + 1000000 := by simp; omega
        have D := fun (w1 : World) (u : WS b B w1 (l ++ (PU xs.length ++ m))) => index2 u x (by omega)
        skip
        have p0 : wr.cell? ⟨bb, off + i * 1, none⟩ = some (.int .i64 x) := hce
        rw [Nat.mul_one] at p0
        cases hy : uidxW x with
        | error e =>
          have HE3 : Hid (R = .error e) := by
            have : R = .error e := by rw [HE2, hy]; rfl
            exact this
          have D2 := W2.erc (D wr SR.out) hy
          clear hc HE HE2 D hx GR
          go_wp2_with fail
          refine D2.mono ?_
          rintro en w2 ⟨⟨p, rfl⟩, t2⟩
          have T2 : Hid (WT b B w w2) := TR.out.trans t2
          clear D2 t2
          go_wp2_with fail
          exact ⟨rfl, by rw [HE3.out]; exact ⟨⟨p, rfl⟩, T2.out⟩⟩
        | ok n =>
          have hnl := uidxW_len hy
          have HE3 : Hid (R = thenW (.ok (PU xs.length ++ (m ++ n))) (manyW uidxW (xs.drop (i + 1)))) := by
            have : R = thenW (.ok (PU xs.length ++ (m ++ n))) (manyW uidxW (xs.drop (i + 1))) := by rw [HE2, hy, ← List.append_assoc]; rfl
            exact this
          have D2 := W2.okc (D wr SR.out) hy
          clear hc HE HE2 D hx GR hy
          go_wp2_with fail
          refine D2.mono ?_
          rintro en w2 ⟨rfl, t2, s2⟩
          have T2 : Hid (WT b B w w2) := TR.out.trans t2
          have s3 : WS b B w2 (l ++ (PU xs.length ++ (m ++ n))) := by simpa [List.append_assoc] using s2
          have S2 : Hid (WS b B w2 (l ++ (PU xs.length ++ (m ++ n)))) := s3
          clear D2 t2 s2 s3 TR SR
          go_wp2_with fail
          go_roundw
          case rel => exact ⟨i + 1, m ++ n, by go_num, by omega, by simp; omega, T2, S2, HE3⟩
          case measure => simp [intOf]; omega
      · have d3 : decide ((i : Int) < (xs.length : Int)) = false := by simp; omega
        have d4 : decide (i < xs.length) = false := by simpa using hlt
        have HE3 : Hid (R = .ok (PU xs.length ++ m)) := by
          have : R = .ok (PU xs.length ++ m) := by rw [HE.out, List.drop_eq_nil_of_le (by omega)]; simp [manyW, thenW]
          exact this
        go_wp2_with fail
        go_end0
        rw [HE3.out]
        exact ⟨rfl, TR.out, SR.out⟩
end Go.Proofs.YtchehejjdinifaaGreatDoor

namespace Go.Proofs.YtchehejjdinifaaGreatDoor
open Go.RowKit
set_option linter.unusedVariables false
set_option linter.unusedSimpArgs false
set_option linter.constructorNameAsVariable false

def wholeC (c : CT) : Bool := if c.kind = 1 then decide (c.fields = []) else if c.kind = 2 then decide (c.params = [] ∧ c.results = []) else if c.kind = 3 then decide (c.params = [] ∧ c.results = [] ∧ c.fields.length = 1) else false
def compW (c : CT) : Except Nat (List Int) := if wholeC c = true then
    (if c.kind = 1 then thenW (.ok [96]) (thenW (listW 1000 valW c.params) (listW 1000 valW c.results))
     else if c.kind = 2 then thenW (.ok [95]) (listW 10000 fieldW c.fields)
     else thenW (.ok [94]) (fieldW (c.fields.headD ⟨⟨0, false, 0⟩, false⟩)))
  else .error 4
def declW (x : SB) : Except Nat (List Int) := thenW (.ok [if x.final_ then 79 else 80]) (listW 1000 uidxW x.supers)
def subW (x : SB) : Except Nat (List Int) := if x.final_ = false ∨ 0 < x.supers.length then thenW (declW x) (compW x.comp) else compW x.comp
def recW (g : RT) : Except Nat (List Int) := if g.types.length = 1 then subW (g.types.headD ⟨false, [], ⟨0, [], [], []⟩⟩) else thenW (.ok [78]) (listW 10000 subW g.types)
/- The composite type's rows read as these lists. -/
def CompR (w : World) (x : CT) (pv rv fv : Value) : Prop := LV w pv x.params ∧ LV w rv x.results ∧ LF w fv x.fields
theorem CompR.grew {w w' : World} {x : CT} {pv rv fv : Value} (h : CompR w x pv rv fv) (g : Grew w w') : CompR w' x pv rv fv := ⟨h.1.grew g, h.2.1.grew g, h.2.2.grew g⟩
set_option maxRecDepth 100000 in
set_option maxHeartbeats 1000000 in
theorem isWhole_any (kd : Int) (ps rs : List VT) (fs : List FT) (pa ra fa : Option Addr) (pc rc fc : Nat) (w : World) (hp : ps.length ≤ 4611686018427387903) (hr : rs.length ≤ 4611686018427387903) :
    Calls Tryz.prog 67 #[.agg #[.int .i64 kd, .slice pa ps.length pc, .slice ra rs.length rc, .slice fa fs.length fc]] w fun en w' => en = .returned (.bool (wholeC ⟨kd, ps, rs, fs⟩)) ∧ Grew w w' := by
  have hsum : ((ps.length : Int) + (rs.length : Int) == 0) = decide (ps = [] ∧ rs = []) := by
    by_cases h1 : ps = []
    · subst h1
      by_cases h2 : rs = []
      · subst h2; simp
      · have : rs.length ≠ 0 := fun h => h2 (List.eq_nil_of_length_eq_zero h)
        simp [h2]
    · have : ps.length ≠ 0 := fun h => h1 (List.eq_nil_of_length_eq_zero h)
      simp [h1]
      omega
  have hf0 : ((fs.length : Int) == 0) = decide (fs = []) := by
    by_cases h1 : fs = []
    · subst h1; simp
    · have : fs.length ≠ 0 := fun h => h1 (List.eq_nil_of_length_eq_zero h)
      simp [h1]
  have hf1 : ((fs.length : Int) == 1) = decide (fs.length = 1) := by
    by_cases h1 : fs.length = 1
    · simp [h1]
    · simp [h1]; omega
  have hw1 : IntKind.i64.wrap ((ps.length : Int) + (rs.length : Int)) = (ps.length : Int) + (rs.length : Int) := by rw [IntKind.wrap_i64]; omega
  have G : Hid (Grew w (w.alloc (.cells #[.int .i64 kd, .slice pa ps.length pc, .slice ra rs.length rc, .slice fa fs.length fc] 63))) := (Grew.refl w).alloc _
  generalize hx0 : (ps.length : Int) + (rs.length : Int) = N at *
  unfold wholeC
  simp only
  by_cases h1 : kd = 1
  · rw [if_pos h1]
    have e1 : (kd == 1) = true := by simpa using h1
    generalize decide (fs = []) = d0 at *
    clear h1
    go_enter Tryz.func67, Tryz.ntmps67
    go_wp2_with fail
    go_ret
    exact ⟨by first | rfl | (simp [hf0]; done), G.out⟩
  · rw [if_neg h1]
    have e1 : (kd == 1) = false := by simpa using h1
    by_cases h2 : kd = 2
    · rw [if_pos h2]
      have e2 : (kd == 2) = true := by simpa using h2
      clear h1 h2
      go_enter Tryz.func67, Tryz.ntmps67
      go_wp2_with fail
      go_ret
      exact ⟨by first | rfl | (rw [hsum]; done) | (simp [hsum]; done), G.out⟩
    · rw [if_neg h2]
      have e2 : (kd == 2) = false := by simpa using h2
      by_cases h3 : kd = 3
      · rw [if_pos h3]
        have e3 : (kd == 3) = true := by simpa using h3
        clear h1 h2 h3
        by_cases hz : ps = [] ∧ rs = []
        · have z : (N == 0) = true := by rw [hsum]; simpa using hz
          have ez : decide (ps = [] ∧ rs = [] ∧ fs.length = 1) = decide (fs.length = 1) := by simp [hz.1, hz.2]
          rw [ez]
          generalize decide (fs.length = 1) = d1 at *
          clear hsum hz ez
          go_enter Tryz.func67, Tryz.ntmps67
          go_wp2_with fail
          go_ret
          exact ⟨by first | rfl | (simp [hf1]; done), G.out⟩
        · have z : (N == 0) = false := by rw [hsum]; simpa using hz
          have ez : decide (ps = [] ∧ rs = [] ∧ fs.length = 1) = false := by
            rw [decide_eq_false]
            rintro ⟨a, b, _⟩
            exact hz ⟨a, b⟩
          rw [ez]
          clear hsum hz ez
          go_enter Tryz.func67, Tryz.ntmps67
          go_wp2_with fail
          go_ret
          exact ⟨rfl, G.out⟩
      · rw [if_neg h3]
        have e3 : (kd == 3) = false := by simpa using h3
        clear h1 h2 h3
        go_enter Tryz.func67, Tryz.ntmps67
        go_wp2_with fail
        go_ret
        exact ⟨rfl, G.out⟩
end Go.Proofs.YtchehejjdinifaaGreatDoor
