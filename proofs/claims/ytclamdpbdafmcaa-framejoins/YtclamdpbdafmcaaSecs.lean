/-
  Rows of sections in memory, and the walks of the reader's sections; no statement is proved here.
-/
import Derived.Test.YtclamdpbdafmcaaSecX
namespace Go.Proofs.Ytclamdpbdafmcaa
open Go.RowKit
set_option linter.unusedVariables false

theorem section_ok (bc bo : Nat) (a : Option Addr) (cap : Nat) (l : List Int) (A : Nat) (last : Int) (w : World) (h : w.heap[bc]? = some (rdr (.slice a l.length cap) A)) (ho : w.heap[bo]? = some (ord last)) (hne : bc ≠ bo)
    (hR : Reads w (.slice a l.length cap) l) (hb : Byt l) (hlen : l.length ≤ 140737488351232) (hA : A < l.length) (s : Sec) (a' : Nat) (last' : Int) (hs : secAt l A last = .ok (s, a', last')) :
    Calls Try.prog 59 #[.pointer (some ⟨bc, 0, none⟩), .pointer (some ⟨bo, 0, none⟩)] w fun en w' => ∃ vd, en = .returned (secV s.id (strOfNums s.name) vd s.at_) ∧ w'.ownsRow w.heap.size 5 1 vd s.data.length (U8 s.data) ∧ Turn [bc, bo] w w' ∧
      w'.heap[bc]? = some (rdr (.slice a l.length cap) a') ∧ w'.heap[bo]? = some (ord last') := by
  rcases sec_cases l A last hA hb with ⟨_, h2⟩ | ⟨hrk, ⟨n, q, e, _, _, h2⟩ | ⟨n, N, Q, hrd, hN, hN32, hQ, hQ', ⟨_, h2⟩ | ⟨hs', ⟨_, _, h2⟩ | ⟨hr0, hrl, hi, h2⟩ | ⟨_, hi, ⟨s', p, e, _, _, h2⟩ | ⟨s', P, hn, hP1, hP2, h2⟩⟩⟩⟩⟩ <;> rw [h2] at hs
  all_goals first
    | (cases hs; done)
    | (simp only [Except.ok.injEq, Prod.mk.injEq] at hs; obtain ⟨rfl, rfl, rfl⟩ := hs)
  · exact section_plain bc bo a cap l A last w h ho hne hR hb hlen hA hrk n N Q hrd hN hN32 hQ' hs' hr0 hrl hi
  · exact section_custom bc bo a cap l A last w h ho hne hR hb hlen hA hrk n N Q hrd hN hN32 hQ' hs' hi s' P hn hP2
theorem section_bad (bc bo : Nat) (a : Option Addr) (cap : Nat) (l : List Int) (A : Nat) (last : Int) (w : World) (h : w.heap[bc]? = some (rdr (.slice a l.length cap) A)) (ho : w.heap[bo]? = some (ord last)) (hne : bc ≠ bo)
    (hR : Reads w (.slice a l.length cap) l) (hb : Byt l) (hlen : l.length ≤ 140737488351232) (hA : A < l.length) (p e : Int) (hs : secAt l A last = .error (p, e)) :
    Calls Try.prog 59 #[.pointer (some ⟨bc, 0, none⟩), .pointer (some ⟨bo, 0, none⟩)] w fun en w' => en = .panicked (flt p e) ∧ Turn [bc, bo] w w' := by
  rcases sec_cases l A last hA hb with ⟨hrk, h2⟩ | ⟨hrk, ⟨n, q, e', hrd, he, h2⟩ | ⟨n, N, Q, hrd, hN, hN32, hQ, hQ', ⟨hs', h2⟩ | ⟨hs', ⟨hr0, hrl, h2⟩ | ⟨hr0, hrl, hi, h2⟩ | ⟨_, hi, ⟨s', p', e', hn, he, h2⟩ | ⟨s', P, hn, hP1, hP2, h2⟩⟩⟩⟩⟩ <;> rw [h2] at hs
  all_goals first
    | (cases hs; done)
    | (simp only [Except.error.injEq, Prod.mk.injEq] at hs; obtain ⟨rfl, rfl⟩ := hs)
  · exact section_id bc bo a cap l A last w h ho hne hR hb hlen hA hrk
  · exact section_rd bc bo a cap l A last w h ho hne hR hb hlen hA hrk n q e' hrd he
  · exact section_short bc bo a cap l A last w h ho hne hR hb hlen hA hrk n N Q hrd hN hN32 hQ' hs'
  · exact section_order bc bo a cap l A last w h ho hne hR hb hlen hA hrk n N Q hrd hN hN32 hQ' hs' hr0 hrl
  · exact section_name bc bo a cap l A last w h ho hne hR hb hlen hA hrk n N Q hrd hN hN32 hQ' hs' hi s' p' e' hn he

/- A row of sections of the call's own: each with the slice value that holds its data. -/
def secC (x : Sec × Value) : List Value := [.int .i64 x.1.id, .string (strOfNums x.1.name), x.2, .int .i64 x.1.at_]
def cellsS (L : List (Sec × Value)) : List Value := L.flatMap secC
theorem cellsS_len (L : List (Sec × Value)) : (cellsS L).length = L.length * 4 := by
  induction L with
  | nil => rfl
  | cons x L ih => simp only [cellsS, List.flatMap_cons, List.length_append, List.length_cons] at *; rw [ih]; simp [secC]; omega
theorem cellsS_snoc (L : List (Sec × Value)) (x : Sec × Value) : cellsS (L ++ [x]) = cellsS L ++ secC x := by simp [cellsS]
def OwnS (base : Nat) (w : World) (v : Value) (L : List (Sec × Value)) : Prop :=
  w.ownsRow base 45 4 v L.length (cellsS L) ∧ (∀ x ∈ L, w.ownsRow base 5 1 x.2 x.1.data.length (U8 x.1.data)) ∧ L.Pairwise (fun x y => x.2.ownBlock = none ∨ x.2.ownBlock ≠ y.2.ownBlock)
theorem OwnS.nil (base : Nat) (w : World) : OwnS base w (.slice none 0 0) [] := ⟨World.ownsRow_nil _ _ _ _, by simp, List.Pairwise.nil⟩
/- The block holds neither bytes nor sections. -/
def NoR (w : World) (b : Nat) : Prop := ∀ cur fr, w.heap[b]? ≠ some (.cells cur 45 fr) ∧ w.heap[b]? ≠ some (.cells cur 5 fr)
theorem NoR.of {w : World} {b : Nat} {cs : Array Value} {t : TypeId} {fr : Nat × Nat} (h : w.heap[b]? = some (.cells cs t fr)) (h1 : t ≠ 45) (h2 : t ≠ 5) : NoR w b := by
  intro cur fr'
  rw [h]
  exact ⟨by simp; intro _ h; exact absurd h h1, by simp; intro _ h; exact absurd h h2⟩
theorem row_turn {base : Nat} {w w' : World} {v : Value} {n : Nat} {xs : List Value} {e sz : Nat} {S : List Nat} (h : w.ownsRow base e sz v n xs) (ht : Turn S w w') (hv : ∀ b ∈ S, ∀ cur, w.heap[b]? ≠ some (.cells cur e (0, 0))) : w'.ownsRow base e sz v n xs := by
  obtain ⟨hl, ho⟩ := h
  refine ⟨hl, ?_⟩
  rcases ho with ho | ⟨g, cap, cur, rfl, hg, hh, h3⟩
  · exact Or.inl ho
  · exact Or.inr ⟨g, cap, cur, rfl, hg, ht.other hh (fun hm => hv g hm cur hh), h3⟩
theorem OwnS.turn {base : Nat} {w w' : World} {v : Value} {L : List (Sec × Value)} {S : List Nat} (h : OwnS base w v L) (ht : Turn S w w') (hS : ∀ b ∈ S, NoR w b) : OwnS base w' v L :=
  ⟨row_turn h.1 ht (fun b hb cur => (hS b hb cur _).1), fun x hx => row_turn (h.2.1 x hx) ht (fun b hb cur => (hS b hb cur _).2), h.2.2⟩
theorem OwnS.grew {base : Nat} {w w' : World} {v : Value} {L : List (Sec × Value)} (h : OwnS base w v L) (hg : Grew w w') : OwnS base w' v L := h.turn (hg.turn []) (by simp)

theorem Try.info45 : (Try.prog.info? 45).map (fun i => (i.zero, i.size, i.bytes)) = some (some (.agg #[.int .i64 0, .string ⟨#[]⟩, .slice none 0 0, .int .i64 0]), 4, 56) := by kernel_rfl
/- Behind an append to a row of sections. -/
theorem grown_turn {base : Nat} {w w' : World} {v : Value} {n : Nat} {xs : List Value} (o : Obj) (hown : w.ownsRow base 45 4 v n xs) (hg : (w.alloc o).grownBy w' v.ownBlock) : ∃ S : List Nat, Turn S w w' ∧ ∀ b ∈ S, base ≤ b ∧ ∃ cur, w.heap[b]? = some (.cells cur 45 (0, 0)) := by
  have hsz := hg.size
  simp at hsz
  obtain ⟨_, h | ⟨g, cap, cur, rfl, hge, hh, _⟩⟩ := hown
  · obtain ⟨rfl, _⟩ := h
    exact ⟨[], ⟨hg.os, hg.tape, hg.output, by omega, fun k hk _ => (hg.block k (by simp; omega) (by simp [Value.ownBlock])).trans (Below.heap_alloc _ _ _ hk)⟩, by simp⟩
  · refine ⟨[g], ⟨hg.os, hg.tape, hg.output, by omega, fun k hk hn => (hg.block k (by simp; omega) ?_).trans (Below.heap_alloc _ _ _ hk)⟩, by simp; exact ⟨hge, cur, hh⟩⟩
    simp at hn
    simp [Value.ownBlock]
    omega
theorem wp_appSec {w : World} {ops : Array Oper} {rest : List Oper} {o : Oper} {a : Act} {Q : Exit → Act → World → Prop} (hgd : o.guard = none) (s x : Operand)
    (ho : o.op = .call { callee := .builtin .append, args := #[s, x], argTypes := #[37, 37] }) {base : Nat} {v : Value} {L : List (Sec × Value)} {c : Sec × Value} {t : TypeId}
    (hs : a.eval s = v) (hx : a.eval x = .slice (some ⟨w.heap.size, 0, none⟩) 1 1) (hh : OwnS base w v L) (hc : w.ownsRow base 5 1 c.2 c.1.data.length (U8 c.1.data)) (hd : ∀ x ∈ L, x.2.ownBlock = none ∨ x.2.ownBlock ≠ c.2.ownBlock)
    (hlen : L.length ≤ 2000000000000) (hb : base ≤ w.heap.size)
    (h : ∀ v' w', OwnS base w' v' (L ++ [c]) → (∃ S : List Nat, Turn S w w' ∧ ∀ b ∈ S, base ≤ b ∧ ∃ cur, w.heap[b]? = some (.cells cur 45 (0, 0))) → wpList Try.prog ops Q rest (a.put o.dst v') w') :
    wpList Try.prog ops Q (o :: rest) a (w.alloc (.cells #[.int .i64 c.1.id, .string (strOfNums c.1.name), c.2, .int .i64 c.1.at_] t)) := by
  obtain ⟨i0, hi, hz0, hz1, hz2⟩ := info_parts Try.info45
  obtain ⟨hown, hds, hpw⟩ := hh
  have h1 : c.2.oneCell' = true := by
    rcases hc.2 with ⟨e, _⟩ | ⟨g, cap, cur, e, _⟩ <;> rw [e] <;> rfl
  refine wpList_append_own _ hgd s x 37 ho base 45 i0 (.agg #[.int .i64 0, .string ⟨#[]⟩, .slice none 0 0, .int .i64 0]) 4 56 Try.underlying37 hi hz0 hz1 hz2 rfl (by decide) v L.length (cellsS L) hs (hown.alloc _) ⟨w.heap.size, 0, none⟩ 1 1 (secC c) hx rfl ?_ ?_ (by unfold maxLen; omega) (by omega) (by simp; omega) ?_
  · intro j u hj
    have e : (Addr.add ⟨w.heap.size, 0, none⟩ j) = ⟨w.heap.size, j, none⟩ := by unfold Addr.add; split <;> simp_all
    rw [e, cell_of (heap_alloc_last w _)]
    rcases j with _ | _ | _ | _ | j <;> simp [secC] at hj ⊢ <;> exact hj
  · intro u hu
    simp only [secC, List.mem_cons, List.not_mem_nil, or_false] at hu
    rcases hu with rfl | rfl | rfl | rfl
    · rfl
    · rfl
    · exact h1
    · rfl
  · intro v' w' ho' hg _
    obtain ⟨S, ht', hS'⟩ := grown_turn _ hown hg
    refine h v' w' ⟨?_, ?_, ?_⟩ ⟨S, ht', hS'⟩
    · rw [cellsS_snoc, List.length_append]; exact ho'
    · intro x hx
      rcases List.mem_append.1 hx with hx | hx
      · refine row_turn (hds x hx) ht' (fun b hb cur hne => ?_)
        obtain ⟨_, cur', h2⟩ := hS' b hb
        rw [h2] at hne
        simp at hne
      · simp at hx
        subst hx
        refine row_turn hc ht' (fun b hb cur hne => ?_)
        obtain ⟨_, cur', h2⟩ := hS' b hb
        rw [h2] at hne
        simp at hne
    · rw [List.pairwise_append]
      refine ⟨hpw, by simp, ?_⟩
      intro x hx y hy
      simp at hy
      subst hy
      exact hd x hx

theorem nm_err {l s : List Int} {p q e : Int} (h : nm l p = (s, q, e)) : e = 0 ∨ 1 ≤ e := by
  have hs : ∀ (m : Nat) (ok : Int → Bool) (l : List Int) (i : Nat) (X : Int), (scan m ok false l i X).2.2 = 0 ∨ 1 ≤ (scan m ok false l i X).2.2 := by
    intro m ok l
    induction l with
    | nil => intro i X; simp [scan]
    | cons c r ih =>
      intro i X
      rw [scan]
      split
      · simp
      · split
        · simp
        · exact ih _ _
  rcases nm_cases l p with ⟨n, q', e', h1, he', h2⟩ | ⟨n, N, Q, h1, hN, hp0, hp, hQ, ⟨hN1, hN2, h2⟩ | ⟨hN', hs, h2⟩ | ⟨hN', hs, i, ⟨hu, h2⟩ | ⟨hu, h2⟩⟩⟩ <;> rw [h2] at h <;> simp only [Prod.mk.injEq] at h
  · have h3 : (rd 32 false l p l.length).2.2 = e' := by rw [h1]
    rw [← h.2.2, ← h3]
    unfold rd
    split
    · exact hs _ _ _ _ _
    · simp
  · omega
  · omega
  · omega
  · omega
theorem sec_err {l : List Int} {a : Nat} {last p e : Int} (ha : a < l.length) (hb : Byt l) (h : secAt l a last = .error (p, e)) : e ≠ 0 := by
  rcases sec_cases l a last ha hb with ⟨hrk, h2⟩ | ⟨hrk, ⟨n, q, e', hrd, he, h2⟩ | ⟨n, N, Q, hrd, hN, hN32, hQ, hQ', ⟨hs', h2⟩ | ⟨hs', ⟨hr0, hrl, h2⟩ | ⟨hr0, hrl, hi, h2⟩ | ⟨_, hi, ⟨s', p', e', hn, he, h2⟩ | ⟨s', P, hn, hP1, hP2, h2⟩⟩⟩⟩⟩ <;> rw [h2] at h
  all_goals first
    | (cases h; done)
    | (simp only [Except.error.injEq, Prod.mk.injEq] at h; obtain ⟨_, rfl⟩ := h; first | exact he | decide)
theorem pr_err (l : List Int) : ∀ (r : List Int) (k : Nat) (p e : Int), pr l k r = some (p, e) → e ≠ 0
  | [], k, p, e, h => by simp [pr] at h
  | c :: r, k, p, e, h => by
    rw [pr] at h
    split at h
    · simp at h; omega
    · split at h
      · simp at h; omega
      · exact pr_err l r _ p e h
/- What is behind the length. -/
def body (l : List Int) : List Sec × Int × Int := match pr l 0 hd with
  | some (p, e) => ([], p, e)
  | none => sat l 8 0 []
theorem split_body {l : List Int} (h : l.length ≤ 1048576) : split l = body l := by unfold split body; rw [if_neg (by omega)]; rfl

/- The reader's place. -/
def posOf (w : World) (bc : Nat) : Nat := match w.heap[bc]? with
  | some (.cells cs _ _) => (intOf (cs.getD 1 undef)).toNat
  | _ => 0
theorem posOf_rdr {w : World} {bc : Nat} {v : Value} {p : Nat} (h : w.heap[bc]? = some (rdr v p)) : posOf w bc = p := by
  unfold posOf; rw [h]; simp [rdr, intOf]
theorem not_S {w : World} {S : List Nat} {base b : Nat} {cs : Array Value} {t : TypeId} {fr : Nat × Nat} (hS : ∀ b ∈ S, base ≤ b ∧ ∃ cur, w.heap[b]? = some (.cells cur 45 (0, 0))) (h : w.heap[b]? = some (.cells cs t fr)) (ht : t ≠ 45) : b ∉ S := by
  intro hb
  obtain ⟨_, cur, h2⟩ := hS b hb
  rw [h] at h2
  simp at h2
  exact ht h2.2.1
theorem own_ne {B B' : Nat} {w w' : World} {x y : Value} {n m : Nat} {xs ys : List Value} (hx : w.ownsRow B 5 1 x n xs) (hy : w'.ownsRow w.heap.size 5 1 y m ys) : x.ownBlock = none ∨ x.ownBlock ≠ y.ownBlock := by
  cases hxb : x.ownBlock with
  | none => exact Or.inl rfl
  | some k =>
    right
    have h1 := hx.lt k hxb
    intro he
    have h2 := hy.lt k he.symm
    omega

set_option maxRecDepth 100000 in
set_option maxHeartbeats 4000000 in
theorem sections_any (bc : Nat) (a : Option Addr) (cap : Nat) (l : List Int) (w : World) (h : w.heap[bc]? = some (rdr (.slice a l.length cap) 0)) (hR : Reads w (.slice a l.length cap) l) (hb : Byt l) (hlen : l.length ≤ 1048576) :
    Calls Try.prog 41 #[.pointer (some ⟨bc, 0, none⟩)] w fun en w' => Turn [bc] w w' ∧ ((∃ p e, body l = ([], p, e) ∧ e ≠ 0 ∧ en = .panicked (flt p e)) ∨ (∃ L v', body l = (L.map Prod.fst, 0, 0) ∧ en = .returned v' ∧ OwnS w.heap.size w' v' L)) := by
  have cp := pre_any bc a cap l w h hR hb (by omega)
  have HR : Hid (Reads w (.slice a l.length cap) l) := hR
  have HB : Hid (Byt l) := hb
  have HNB : Hid (NoB w bc) := NoB.rdr h
  have hlc := lt_of_obj h
  obtain ⟨R, hRR⟩ : ∃ R, R = body l := ⟨_, rfl⟩
  rw [← hRR]
  have HRB : Hid (R = body l) := hRR
  clear h hR hb hRR
  go_enter Try.func41, Try.ntmps41
  go_wp2_with fail
  refine cp.mono ?_
  rintro en w1 ⟨t1, ⟨p, e, hp, rfl⟩ | ⟨hp, h8, rfl, h1⟩⟩
  · clear cp
    have HP : Hid (pr l 0 hd = some (p, e)) := hp
    clear hp
    go_wp2_with fail
    exact ⟨rfl, t1, Or.inl ⟨p, e, by rw [HRB.out]; unfold body; rw [HP.out], pr_err _ _ _ _ _ HP.out, rfl⟩⟩
  · clear cp
    have HP : Hid (R = sat l 8 0 []) := by show R = _; rw [HRB.out]; unfold body; rw [hp]
    have hs1 := t1.size
    have H1 : Hid (w1.heap[bc]? = some (rdr (.slice a l.length cap) 8)) := h1
    have T1 : Hid (Turn [bc] w w1) := t1
    clear hp h1 t1
    go_wp2_with fail
    go_loopw [3] (fun vl wr => ∃ (A : Nat) (last : Int) (L : List (Sec × Value)), A ≤ l.length ∧ L.length ≤ A ∧ R = sat l A last (L.map Prod.fst) ∧ OwnS w.heap.size wr vl L ∧ Turn [bc] w wr ∧ wr.heap[bc]? = some (rdr (.slice a l.length cap) A) ∧ wr.heap[w1.heap.size]? = some (ord last))
      (fun _ wr => l.length - posOf wr bc)
    case atStart => exact ⟨8, 0, [], h8, by simp, HP.out, OwnS.nil _ _, T1.out.alloc _, heap_alloc H1.out _, heap_alloc_last _ _⟩
    case round =>
      obtain ⟨A, last, L, hA, hLA, hRs, hO, hT, hc, ho⟩ := hrel
      have HRS : Hid (R = sat l A last (L.map Prod.fst)) := hRs
      have c0 := cell_of hc 0
      have c1 := cell_of hc 1
      simp at c0 c1
      have HO : Hid (OwnS w.heap.size wr u3 L) := hO
      have HT : Hid (Turn [bc] w wr) := hT
      have HC : Hid (wr.heap[bc]? = some (rdr (.slice a l.length cap) A)) := hc
      have HOR : Hid (wr.heap[w1.heap.size]? = some (ord last)) := ho
      clear hRs hO hT hc ho
      have hR2 : Hid (∀ k, Reads (wr.drewN k) (.slice a l.length cap) l) := fun k => HR.out.turn (HT.out.drewN k) (by simpa using HNB.out)
      by_cases hlt : A < l.length
      · have d1 : decide ((A : Int) < l.length) = true := by simp; omega
        cases hs : secAt l A last with
        | error x =>
          obtain ⟨p, e⟩ := x
          have HS : Hid (secAt l A last = .error (p, e)) := hs
          clear hs
          go_wp2_with fail
          go_quiet (fail)
          go_wp2_with fail
          refine (section_bad bc w1.heap.size a cap l A last _ (heap_drewN HC.out _) (heap_drewN HOR.out _) (by omega) (hR2.out _) HB.out (by omega) hlt p e HS.out).mono ?_
          rintro en w2 ⟨rfl, t2⟩
          go_wp2_with fail
          exact ⟨rfl, (HT.out.drewN _).trans' t2 (by simp; omega), Or.inl ⟨p, e, by rw [HRS.out, sat_bad hlt HS.out], sec_err hlt HB.out HS.out, rfl⟩⟩
        | ok x =>
          obtain ⟨s, a', last'⟩ := x
          have HS : Hid (secAt l A last = .ok (s, a', last')) := hs
          obtain ⟨hn1, hn2⟩ := sec_next hlt HB.out hs
          clear hs
          go_wp2_with fail
          go_quiet (fail)
          go_wp2_with fail
          refine (section_ok bc w1.heap.size a cap l A last _ (heap_drewN HC.out _) (heap_drewN HOR.out _) (by omega) (hR2.out _) HB.out (by omega) hlt s a' last' HS.out).mono ?_
          rintro en w2 ⟨vd, rfl, hv2, t2, c2, o2⟩
          have T2 : Turn [bc] w w2 := (HT.out.drewN _).trans' t2 (by simp; omega)
          have O2 : OwnS w.heap.size w2 u3 L := (HO.out.turn ((Turn.refl [] _).drewN _) (by simp)).turn t2 (by
            intro b hb
            simp at hb
            rcases hb with rfl | rfl
            · exact NoR.of (heap_drewN HC.out _) (by decide) (by decide)
            · exact NoR.of (heap_drewN HOR.out _) (by decide) (by decide))
          have hv3 : w2.ownsRow w.heap.size 5 1 vd s.data.length (U8 s.data) := hv2.mono (Nat.le_trans T1.out.size (Nat.le_of_lt (lt_of_obj (heap_drewN HOR.out _))))
          have hdd : ∀ x ∈ L, x.2.ownBlock = none ∨ x.2.ownBlock ≠ vd.ownBlock := fun x hx => own_ne (B' := 0) (HO.out.2.1 x hx) hv2
          have hsz2 := T2.size
          have D2 : Hid (∀ x ∈ L, x.2.ownBlock = none ∨ x.2.ownBlock ≠ vd.ownBlock) := hdd
          have V3 : Hid (w2.ownsRow w.heap.size 5 1 vd s.data.length (U8 s.data)) := hv3
          have OO2 : Hid (OwnS w.heap.size w2 u3 L) := O2
          have TT2 : Hid (Turn [bc] w w2) := T2
          have C2 : Hid (w2.heap[bc]? = some (rdr (.slice a l.length cap) a')) := c2
          have OR2 : Hid (w2.heap[w1.heap.size]? = some (ord last')) := o2
          clear hdd hv3 hv2 O2 T2 c2 o2 t2 c0 c1
          unfold secV
          go_wp2_with (at_builtin; refine wp_appSec rfl _ _ rfl rfl rfl (c := (s, vd)) OO2.out V3.out D2.out (by omega) hsz2 ?_; intro v' w3 hO3 hT3)
          obtain ⟨S, t3, hS⟩ := hT3
          go_roundw
          case rel =>
            refine ⟨a', last', L ++ [(s, vd)], hn2, by simp; omega, ?_, hO3, ?_, ?_, ?_⟩
            · rw [HRS.out, sat_ok HB.out hlt HS.out]; simp
            · exact TT2.out.trans' t3 (fun x hx => Or.inr (hS x hx).1)
            · exact t3.other C2.out (not_S hS C2.out (by decide))
            · exact t3.other OR2.out (not_S hS OR2.out (by decide))
          case measure =>
            rw [posOf_rdr HC.out, posOf_rdr (t3.other C2.out (not_S hS C2.out (by decide)))]
            omega
      · have d1 : decide ((A : Int) < l.length) = false := by simp; omega
        go_wp2_with fail
        go_quiet (fail)
        go_wp2_with fail
        go_ret
        exact ⟨HT.out.drewN _, Or.inr ⟨L, _, by rw [HRS.out, sat_end (by omega)], rfl, HO.out.turn ((Turn.refl [] _).drewN _) (by simp)⟩⟩
end Go.Proofs.Ytclamdpbdafmcaa
