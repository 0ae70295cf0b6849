/-
  The walks of the frame's reader: number, rest, part; no statement is proved here.
-/
import Derived.WalkSmall
import Derived.Outline
import Derived.Deep.QuietTactic
import Derived.Test.YtemaeigfhmnapaaGreatDoorCur
namespace Go.Proofs.YtemaeigfhmnapaaGreatDoor
open Go.RowKit
set_option linter.unusedVariables false
set_option linter.unusedSimpArgs false

/- The reader's block. -/
def rdr (v : Value) (p : Int) : Obj := .cells #[v, .int .i64 p] 143 (0, 0)
theorem NoB.rdr {w : World} {b : Nat} {a : Option Addr} {n c : Nat} {p : Int} (h : w.heap[b]? = some (rdr (.slice a n c) p)) : NoB w b := by
  intro j m
  rw [cell_of h]
  rcases j with _ | _ | j <;> simp
/- What a reader gives up with. -/
def fltF (p e : Int) : List PanicEntry := [{ v := .iface 145 (.agg #[.int .i64 p, .int .i64 e]), recovered := false }]
theorem giveF_any (p e : Int) (w : World) :
    Calls Tryz.prog 99 #[.int .i64 p, .int .i64 e] w fun en w' => en = .panicked (fltF p e) ∧ w' = w := by
  go_enter Tryz.func99, Tryz.ntmps99
  go_wp2
  exact ⟨rfl, rfl, rfl⟩
set_option maxRecDepth 100000 in
set_option maxHeartbeats 1000000 in
theorem numF_ok (bc : Nat) (a : Option Addr) (cap : Nat) (l : List Int) (p n q : Int) (w : World) (h : w.heap[bc]? = some (rdr (.slice a l.length cap) p)) (hR : Reads w (.slice a l.length cap) l) (hb : Byt l) (hlen : l.length ≤ 140737488351232)
    (hrd : rd 32 false l p l.length = (n, q, 0)) :
    Calls Tryz.prog 98 #[.pointer (some ⟨bc, 0, none⟩)] w fun en w' => en = .returned (.int .u32 (n % 4294967296)) ∧ Turn [bc] w w' ∧ w'.heap[bc]? = some (rdr (.slice a l.length cap) q) := by
  have c0 := cell_of h 0
  have c1 := cell_of h 1
  have z1 := free_of h 1
  simp at c0 c1
  have HU : Hid (∀ k, Calls Tryz.prog 63 #[.slice a l.length cap, .int .i64 p, .int .i64 l.length] (w.drewN k) fun e w' => e = .returned (.tuple #[.int .u32 (n % 4294967296), .int .i64 q, .int .i64 0]) ∧ w' = w.drewN k) := by
    intro k
    have := u32_any (.slice a l.length cap) l p l.length (w.drewN k) (hR.drewN k) hb hlen
    rw [hrd] at this
    exact this
  have HH : Hid (w.heap[bc]? = some (rdr (.slice a l.length cap) p)) := h
  clear hrd hR hb h
  generalize n % 4294967296 = n' at *
  go_enter Tryz.func98, Tryz.ntmps98
  go_wp2_with fail
  go_quiet ((go_at_call 63; exact q0_same HU.out))
  go_wp2_with fail
  go_ret
  exact ⟨rfl, ((Turn.refl _ _).drewN _).set (by simp) _, by rw [heap_set (heap_drewN HH.out _)]; rfl⟩
set_option maxRecDepth 100000 in
set_option maxHeartbeats 1000000 in
theorem numF_bad (bc : Nat) (a : Option Addr) (cap : Nat) (l : List Int) (p n q e : Int) (w : World) (h : w.heap[bc]? = some (rdr (.slice a l.length cap) p)) (hR : Reads w (.slice a l.length cap) l) (hb : Byt l) (hlen : l.length ≤ 140737488351232)
    (hrd : rd 32 false l p l.length = (n, q, e)) (he : e ≠ 0) :
    Calls Tryz.prog 98 #[.pointer (some ⟨bc, 0, none⟩)] w fun en w' => en = .panicked (fltF q e) ∧ Turn [] w w' := by
  have c0 := cell_of h 0
  have c1 := cell_of h 1
  simp at c0 c1
  have HU : Hid (∀ k, Calls Tryz.prog 63 #[.slice a l.length cap, .int .i64 p, .int .i64 l.length] (w.drewN k) fun en w' => en = .returned (.tuple #[.int .u32 (n % 4294967296), .int .i64 q, .int .i64 e]) ∧ w' = w.drewN k) := by
    intro k
    have := u32_any (.slice a l.length cap) l p l.length (w.drewN k) (hR.drewN k) hb hlen
    rw [hrd] at this
    exact this
  have he' : (e != 0) = true := by simpa using he
  clear hrd hR hb h he
  generalize n % 4294967296 = n' at *
  go_enter Tryz.func98, Tryz.ntmps98
  go_wp2_with fail
  go_quiet ((go_at_call 63; exact q0_same HU.out))
  go_wp2_with fail
  refine (giveF_any q e _).mono ?_
  rintro en w1 ⟨rfl, rfl⟩
  go_wp2_with fail
  exact ⟨rfl, rfl, (Turn.refl _ _).drewN _⟩
/- Slices of what reads as bytes read as bytes. -/
theorem Reads.sub {w : World} {ad : Option Addr} {cap : Nat} {l : List Int} (h : Reads w (.slice ad l.length cap) l) (p q : Nat) (hp : p ≤ q) (hq : q ≤ l.length) :
    ∃ a' c', sliced ad p q cap 1 = .slice a' (q - p) c' ∧ Reads w (.slice a' (q - p) c') ((l.take q).drop p) := by
  obtain ⟨a, c, hv, h1, h2, h3, h4⟩ := h
  injection hv with hv1 hv2 hv3
  subst hv1; subst hv3
  have hlen : ((l.take q).drop p).length = q - p := by simp; omega
  cases ad with
  | none =>
    have hc := h3 rfl
    subst hc
    have hl : l = [] := List.eq_nil_of_length_eq_zero (by omega)
    subst hl
    simp only [List.length_nil] at hq
    obtain rfl : q = 0 := by omega
    obtain rfl : p = 0 := by omega
    exact ⟨none, 0, rfl, none, 0, rfl, Nat.le_refl _, Nat.zero_le _, fun _ => rfl, Or.inl rfl⟩
  | some x =>
    by_cases hcp : cap = p
    · have hnil : (l.take q).drop p = [] := List.eq_nil_of_length_eq_zero (by omega)
      refine ⟨some x, cap - p, ?_, some x, cap - p, by rw [hlen], by omega, by omega, (fun h => by cases h), Or.inl hnil⟩
      simp [sliced, hcp]
    · refine ⟨some (x.add p), cap - p, ?_, some (x.add p), cap - p, by rw [hlen], by omega, by omega, (fun h => by cases h), ?_⟩
      · simp [sliced, hcp]
      · rcases h4 with rfl | ⟨b, off, ha, hc⟩
        · left; simp
        · right
          injection ha with ha
          subst ha
          refine ⟨b, off + p, by simp [Addr.add], fun j hj => ?_⟩
          rw [Nat.add_assoc, hc (p + j) (by omega)]
          have h5 : p + j < q := by omega
          simp [List.getD, h5]
theorem underB : Tryz.prog.underlying 22 = some (.slice (Tryz.prog.elem 22)) := by kernel_rfl
theorem sizeB (w : World) : (sizeOf (Tryz.prog.elem 22)).run Tryz.prog w = .ok 1 w := by kernel_rfl
theorem Reads.from_ {w : World} {ad : Option Addr} {cap : Nat} {l : List Int} (h : Reads w (.slice ad l.length cap) l) (p : Nat) (hp : p ≤ l.length) :
    ∃ a' c', (∀ w', (Instr.slice 22 (.slice ad l.length cap) (some (.int .i64 p)) none none).run Tryz.prog w' = .ok (.slice a' (l.length - p) c') w') ∧ Reads w (.slice a' (l.length - p) c') (l.drop p) := by
  obtain ⟨a', c', h1, h2⟩ := h.sub p l.length hp (Nat.le_refl _)
  rw [List.take_length] at h2
  refine ⟨a', c', fun w' => ?_, h2⟩
  rw [run_slice_l w' 22 ad l.length cap underB .i64 p (by omega) (by omega), sizeB, Int.toNat_natCast, ← h1]; rfl
theorem Reads.to_ {w : World} {ad : Option Addr} {cap : Nat} {l : List Int} (h : Reads w (.slice ad l.length cap) l) (q : Nat) (hq : q ≤ l.length) :
    ∃ a' c', (∀ w', (Instr.slice 22 (.slice ad l.length cap) none (some (.int .i64 q)) none).run Tryz.prog w' = .ok (.slice a' q c') w') ∧ Reads w (.slice a' q c') (l.take q) := by
  obtain ⟨a', c', h1, h2⟩ := h.sub 0 q (by omega) hq
  have hc : l.length ≤ cap := by obtain ⟨a, c, hv, h1, _⟩ := h; injection hv with _ _ e; omega
  refine ⟨a', c', fun w' => ?_, h2⟩
  rw [run_slice_h w' 22 ad l.length cap underB .i64 q (by omega) (by omega), sizeB, Int.toNat_natCast]
  show Result.ok (sliced ad 0 q cap 1) w' = _
  rw [h1]; rfl
theorem Reads.mid_ {w : World} {ad : Option Addr} {cap : Nat} {l : List Int} (h : Reads w (.slice ad l.length cap) l) (p q : Nat) (hp : p ≤ q) (hq : q ≤ l.length) :
    ∃ a' c', (∀ w', (Instr.slice 22 (.slice ad l.length cap) (some (.int .i64 p)) (some (.int .i64 q)) none).run Tryz.prog w' = .ok (.slice a' (q - p) c') w') ∧ Reads w (.slice a' (q - p) c') ((l.take q).drop p) := by
  obtain ⟨a', c', h1, h2⟩ := h.sub p q hp hq
  have hc : l.length ≤ cap := by obtain ⟨a, c, hv, h1, _⟩ := h; injection hv with _ _ e; omega
  refine ⟨a', c', fun w' => ?_, h2⟩
  rw [run_slice_lh w' 22 ad l.length cap underB .i64 .i64 p q (by omega) (by omega) (by omega), sizeB, Int.toNat_natCast, Int.toNat_natCast, ← h1]; rfl
set_option maxRecDepth 100000 in
set_option maxHeartbeats 1000000 in
theorem restF_any (bc : Nat) (a : Option Addr) (cap : Nat) (l : List Int) (p : Nat) (w : World) (h : w.heap[bc]? = some (rdr (.slice a l.length cap) p)) (hR : Reads w (.slice a l.length cap) l) (hp : p ≤ l.length) (hlen : l.length ≤ 140737488351232) :
    Calls Tryz.prog 101 #[.pointer (some ⟨bc, 0, none⟩)] w fun en w' => ∃ a' c', en = .returned (.slice a' (l.length - p) c') ∧ Reads w (.slice a' (l.length - p) c') (l.drop p) ∧ ∃ n, w' = w.drewN n := by
  have c0 := cell_of h 0
  have c1 := cell_of h 1
  simp at c0 c1
  obtain ⟨a', c', hs, hR'⟩ := hR.from_ p hp
  have HR : Hid (Reads w (.slice a' (l.length - p) c') (l.drop p)) := hR'
  clear h hR hR'
  go_enter Tryz.func101, Tryz.ntmps101
  go_wp2_with fail
  go_quiet (fail)
  go_wp2_with fail
  go_ret
  exact ⟨a', c', by simp, HR.out, _, rfl⟩
theorem u64_sub (len p : Nat) (hp : p ≤ len) (hlen : len ≤ 140737488351232) : IntKind.u64.wrap (IntKind.i64.wrap ((len : Int) - p)) = ((len - p : Nat) : Int) := by
  rw [IntKind.wrap_u64, IntKind.wrap_i64]; omega
set_option maxRecDepth 100000 in
set_option maxHeartbeats 1000000 in
theorem partF_ok (bc : Nat) (a : Option Addr) (cap : Nat) (l : List Int) (p n : Nat) (w : World) (h : w.heap[bc]? = some (rdr (.slice a l.length cap) p)) (hR : Reads w (.slice a l.length cap) l) (hp : p ≤ l.length) (hn : p + n ≤ l.length) (hlen : l.length ≤ 140737488351232) (hn32 : n ≤ 4294967295) :
    Calls Tryz.prog 100 #[.pointer (some ⟨bc, 0, none⟩), .int .u32 n] w fun en w' => ∃ a' c', en = .returned (.agg #[.slice a' (p + n) c', .int .i64 p]) ∧ Reads w (.slice a' (p + n) c') (l.take (p + n)) ∧ Turn [bc] w w' ∧ w'.heap[bc]? = some (rdr (.slice a l.length cap) (p + n)) := by
  have c0 := cell_of h 0
  have c1 := cell_of h 1
  have z1 := free_of h 1
  simp at c0 c1
  obtain ⟨a', c', hs, hR'⟩ := hR.to_ (p + n) hn
  have HR : Hid (Reads w (.slice a' (p + n) c') (l.take (p + n))) := hR'
  have HH : Hid (w.heap[bc]? = some (rdr (.slice a l.length cap) p)) := h
  have hlt := lt_of_obj h
  have du : decide (IntKind.u64.wrap (IntKind.i64.wrap ((l.length : Int) - p)) < IntKind.u64.wrap (n : Int)) = false := by rw [u64_sub _ _ hp hlen, IntKind.wrap_u64]; simp; omega
  clear h hR hR'
  have hs' : ∀ (w' : World), (Instr.slice 22 (.slice a l.length cap) none (some (.int .i64 ((p : Int) + n))) none).run Tryz.prog w' = .ok (.slice a' (p + n) c') w' := by
    intro w'; have := hs w'; rwa [show ((p + n : Nat) : Int) = (p : Int) + n from by omega] at this
  clear hs
  go_enter Tryz.func100, Tryz.ntmps100
  go_wp2_with fail
  go_quiet (fail)
  go_wp2_with fail
  have hT : Turn [bc] w ((((w.alloc (Obj.cells #[Value.slice none 0 0, Value.int IntKind.i64 0] 143)).drewN nq).setCell { block := bc, off := 1 } (Value.int IntKind.i64 (↑p + ↑n)))) := ((((Turn.refl _ _).alloc _).drewN _).set (by simp) _)
  have hA : ((((w.alloc (Obj.cells #[Value.slice none 0 0, Value.int IntKind.i64 0] 143)).drewN nq).setCell { block := bc, off := 1 } (Value.int IntKind.i64 (↑p + ↑n)))).heap[bc]? = some (rdr (.slice a l.length cap) (p + n)) := by
    rw [heap_set (heap_drewN (heap_alloc HH.out _) _)]; rfl
  have hB : ((((w.alloc (Obj.cells #[Value.slice none 0 0, Value.int IntKind.i64 0] 143)).drewN nq).setCell { block := bc, off := 1 } (Value.int IntKind.i64 (↑p + ↑n)))).heap[w.heap.size]? = some (.cells #[Value.slice none 0 0, Value.int IntKind.i64 0] 143 (0, 0)) :=
    heap_other (heap_drewN (heap_alloc_last _ _) _) (by simp; omega) _
  generalize (((w.alloc (Obj.cells #[Value.slice none 0 0, Value.int IntKind.i64 0] 143)).drewN nq).setCell { block := bc, off := 1 } (Value.int IntKind.i64 (↑p + ↑n))) = W at *
  clear c0 c1 z1
  have c0 := cell_of hA 0
  have c1 := cell_of hA 1
  have y0 := free_of hB 0
  have y1 := free_of hB 1
  simp at c0 c1
  have HA : Hid (W.heap[bc]? = some (rdr (.slice a l.length cap) (p + n))) := hA
  have HB : Hid (W.heap[w.heap.size]? = some (.cells #[Value.slice none 0 0, Value.int IntKind.i64 0] 143 (0, 0))) := hB
  have hne : ¬ bc = w.heap.size := by omega
  have e0 := cell_of hB 0
  have e1 := cell_of hB 1
  simp at e0 e1
  clear hA hB
  go_region
  go_wp2_with fail
  refine bodyPost_ret (v := .agg #[.slice a' (p + n) c', .int .i64 p]) (by simp [results, Tryz.results100, go_sem, e0, e1]) rfl ⟨a', c', rfl, HR.out, ?_, ?_⟩
  · exact ((hT.set (Or.inr (Nat.le_refl _)) _).set (Or.inr (Nat.le_refl _)) _).drew
  · exact heap_other (heap_other HA.out hne _) hne _
set_option maxRecDepth 100000 in
set_option maxHeartbeats 1000000 in
theorem partF_bad (bc : Nat) (a : Option Addr) (cap : Nat) (l : List Int) (p n : Nat) (w : World) (h : w.heap[bc]? = some (rdr (.slice a l.length cap) p)) (hp : p ≤ l.length) (hn : ¬ p + n ≤ l.length) (hlen : l.length ≤ 140737488351232) (hn32 : n ≤ 4294967295) :
    Calls Tryz.prog 100 #[.pointer (some ⟨bc, 0, none⟩), .int .u32 n] w fun en w' => en = .panicked (fltF l.length 3) ∧ Turn [] w w' := by
  have c0 := cell_of h 0
  have c1 := cell_of h 1
  simp at c0 c1
  have hlt := lt_of_obj h
  have hd : decide ((l.length : Int) - p < n) = true := by simp; omega
  have du : decide (IntKind.u64.wrap (IntKind.i64.wrap ((l.length : Int) - p)) < IntKind.u64.wrap (n : Int)) = true := by rw [u64_sub _ _ hp hlen, IntKind.wrap_u64]; simp; omega
  clear h
  go_enter Tryz.func100, Tryz.ntmps100
  go_wp2_with fail
  go_quiet (fail)
  go_wp2_with fail
  refine (giveF_any _ 3 _).mono ?_
  rintro en w1 ⟨rfl, rfl⟩
  go_wp2_with fail
  exact ⟨rfl, rfl, ((Turn.refl _ _).alloc _).drewN _⟩
end Go.Proofs.YtemaeigfhmnapaaGreatDoor
