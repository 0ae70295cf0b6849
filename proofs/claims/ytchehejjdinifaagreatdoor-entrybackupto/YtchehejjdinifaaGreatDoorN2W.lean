/-
  The walks of letter, follows, goingOn and of prefixes; no statement is proved here.
-/
import Derived.WalkSmall
import Derived.Outline
import Derived.Deep.QuietTactic
import Derived.Test.YtchehejjdinifaaGreatDoorCur
import Derived.Laws.BytesArg
import Derived.Laws.RangeAny
import Derived.Laws.Strings2
import Derived.Test.YtchehejjdinifaaGreatDoorReaders
import Derived.Test.YtchehejjdinifaaGreatDoorEMR
import Derived.BigQuiet
import Derived.Test.YtchehejjdinifaaGreatDoorKit
import Derived.Test.YtchehejjdinifaaGreatDoorWorld
namespace Go.Proofs.YtchehejjdinifaaGreatDoor
open Go.RowKit
set_option linter.unusedVariables false
set_option linter.unusedSimpArgs false

/- The reader's block. -/
def rdr (v : Value) (p : Int) : Obj := .cells #[v, .int .i64 p] 142 (0, 0)
theorem NoB.rdr {w : World} {b : Nat} {a : Option Addr} {n c : Nat} {p : Int} (h : w.heap[b]? = some (rdr (.slice a n c) p)) : NoB w b := by
  intro j m
  rw [cell_of h]
  rcases j with _ | _ | j <;> simp
/- What a reader gives up with. -/
def fltF (p e : Int) : List PanicEntry := [{ v := .iface 144 (.agg #[.int .i64 p, .int .i64 e]), recovered := false }]
theorem giveF_any (p e : Int) (w : World) :
    Calls Tryz.prog 102 #[.int .i64 p, .int .i64 e] w fun en w' => en = .panicked (fltF p e) ∧ w' = w := by
  go_enter Tryz.func102, Tryz.ntmps102
  go_wp2
  exact ⟨rfl, rfl, rfl⟩
set_option maxRecDepth 100000 in
set_option maxHeartbeats 1000000 in
theorem numF_ok (bc : Nat) (a : Option Addr) (cap : Nat) (l : List Int) (p n q : Int) (w : World) (h : w.heap[bc]? = some (rdr (.slice a l.length cap) p)) (hR : Reads w (.slice a l.length cap) l) (hb : Byt l) (hlen : l.length ≤ 140737488351232)
    (hrd : rd 32 false l p l.length = (n, q, 0)) :
    Calls Tryz.prog 101 #[.pointer (some ⟨bc, 0, none⟩)] w fun en w' => en = .returned (.int .u32 (n % 4294967296)) ∧ Turn [bc] w w' ∧ w'.heap[bc]? = some (rdr (.slice a l.length cap) q) := by
  have c0 := cell_of h 0
  have c1 := cell_of h 1
  have z1 := free_of h 1
  simp at c0 c1
  have HU : Hid (∀ k, Calls Tryz.prog 46 #[.slice a l.length cap, .int .i64 p, .int .i64 l.length] (w.drewN k) fun e w' => e = .returned (.tuple #[.int .u32 (n % 4294967296), .int .i64 q, .int .i64 0]) ∧ w' = w.drewN k) := by
    intro k
    have := u32_any (.slice a l.length cap) l p l.length (w.drewN k) (hR.drewN k) hb hlen
    rw [hrd] at this
    exact this
  have HH : Hid (w.heap[bc]? = some (rdr (.slice a l.length cap) p)) := h
  clear hrd hR hb h
  generalize n % 4294967296 = n' at *
  go_enter Tryz.func101, Tryz.ntmps101
  go_wp2_with fail
  go_quiet ((go_at_call 46; exact q0_same HU.out))
  go_wp2_with fail
  go_ret
  exact ⟨rfl, ((Turn.refl _ _).drewN _).set (by simp) _, by rw [heap_set (heap_drewN HH.out _)]; rfl⟩
set_option maxRecDepth 100000 in
set_option maxHeartbeats 1000000 in
theorem numF_bad (bc : Nat) (a : Option Addr) (cap : Nat) (l : List Int) (p n q e : Int) (w : World) (h : w.heap[bc]? = some (rdr (.slice a l.length cap) p)) (hR : Reads w (.slice a l.length cap) l) (hb : Byt l) (hlen : l.length ≤ 140737488351232)
    (hrd : rd 32 false l p l.length = (n, q, e)) (he : e ≠ 0) :
    Calls Tryz.prog 101 #[.pointer (some ⟨bc, 0, none⟩)] w fun en w' => en = .panicked (fltF q e) ∧ Turn [] w w' := by
  have c0 := cell_of h 0
  have c1 := cell_of h 1
  simp at c0 c1
  have HU : Hid (∀ k, Calls Tryz.prog 46 #[.slice a l.length cap, .int .i64 p, .int .i64 l.length] (w.drewN k) fun en w' => en = .returned (.tuple #[.int .u32 (n % 4294967296), .int .i64 q, .int .i64 e]) ∧ w' = w.drewN k) := by
    intro k
    have := u32_any (.slice a l.length cap) l p l.length (w.drewN k) (hR.drewN k) hb hlen
    rw [hrd] at this
    exact this
  have he' : (e != 0) = true := by simpa using he
  clear hrd hR hb h he
  generalize n % 4294967296 = n' at *
  go_enter Tryz.func101, Tryz.ntmps101
  go_wp2_with fail
  go_quiet ((go_at_call 46; exact q0_same HU.out))
  go_wp2_with fail
  refine (giveF_any q e _).mono ?_
  rintro en w1 ⟨rfl, rfl⟩
  go_wp2_with fail
  exact ⟨rfl, rfl, (Turn.refl _ _).drewN _⟩
/- Slices of what reads as bytes read as bytes. -/
theorem Reads.sub {w : World} {ad : Option Addr} {cap : Nat} {l : List Int} (h : Reads w (.slice ad l.length cap) l) (p q : Nat) (hp : p ≤ q) (hq : q ≤ l.length) :
    ∃ a' c', sliced ad p q cap 1 = .slice a' (q - p) c' ∧ Reads w (.slice a' (q - p) c') ((l.take q).drop p) := by
  obtain ⟨a, c, hv, h1, h2, h3, h4⟩ := h
  injection hv with hv1 hv2 hv3
  subst hv1; subst hv3
  have hlen : ((l.take q).drop p).length = q - p := by simp; omega
  cases ad with
  | none =>
    have hc := h3 rfl
    subst hc
    have hl : l = [] := List.eq_nil_of_length_eq_zero (by omega)
    subst hl
    simp only [List.length_nil] at hq
    obtain rfl : q = 0 := by omega
    obtain rfl : p = 0 := by omega
    exact ⟨none, 0, rfl, none, 0, rfl, Nat.le_refl _, Nat.zero_le _, fun _ => rfl, Or.inl rfl⟩
  | some x =>
    by_cases hcp : cap = p
    · have hnil : (l.take q).drop p = [] := List.eq_nil_of_length_eq_zero (by omega)
      refine ⟨some x, cap - p, ?_, some x, cap - p, by rw [hlen], by omega, by omega, (fun h => by cases h), Or.inl hnil⟩
      simp [sliced, hcp]
    · refine ⟨some (x.add p), cap - p, ?_, some (x.add p), cap - p, by rw [hlen], by omega, by omega, (fun h => by cases h), ?_⟩
      · simp [sliced, hcp]
      · rcases h4 with rfl | ⟨b, off, ha, hc⟩
        · left; simp
        · right
          injection ha with ha
          subst ha
          refine ⟨b, off + p, by simp [Addr.add], fun j hj => ?_⟩
          rw [Nat.add_assoc, hc (p + j) (by omega)]
          have h5 : p + j < q := by omega
          simp [List.getD, h5]
theorem underB : Tryz.prog.underlying 38 = some (.slice (Tryz.prog.elem 38)) := by kernel_rfl
theorem sizeB (w : World) : (sizeOf (Tryz.prog.elem 38)).run Tryz.prog w = .ok 1 w := by kernel_rfl
theorem Reads.from_ {w : World} {ad : Option Addr} {cap : Nat} {l : List Int} (h : Reads w (.slice ad l.length cap) l) (p : Nat) (hp : p ≤ l.length) :
    ∃ a' c', (∀ w', (Instr.slice 38 (.slice ad l.length cap) (some (.int .i64 p)) none none).run Tryz.prog w' = .ok (.slice a' (l.length - p) c') w') ∧ Reads w (.slice a' (l.length - p) c') (l.drop p) := by
  obtain ⟨a', c', h1, h2⟩ := h.sub p l.length hp (Nat.le_refl _)
  rw [List.take_length] at h2
  refine ⟨a', c', fun w' => ?_, h2⟩
  rw [run_slice_l w' 38 ad l.length cap underB .i64 p (by omega) (by omega), sizeB, Int.toNat_natCast, ← h1]; rfl
theorem Reads.to_ {w : World} {ad : Option Addr} {cap : Nat} {l : List Int} (h : Reads w (.slice ad l.length cap) l) (q : Nat) (hq : q ≤ l.length) :
    ∃ a' c', (∀ w', (Instr.slice 38 (.slice ad l.length cap) none (some (.int .i64 q)) none).run Tryz.prog w' = .ok (.slice a' q c') w') ∧ Reads w (.slice a' q c') (l.take q) := by
  obtain ⟨a', c', h1, h2⟩ := h.sub 0 q (by omega) hq
  have hc : l.length ≤ cap := by obtain ⟨a, c, hv, h1, _⟩ := h; injection hv with _ _ e; omega
  refine ⟨a', c', fun w' => ?_, h2⟩
  rw [run_slice_h w' 38 ad l.length cap underB .i64 q (by omega) (by omega), sizeB, Int.toNat_natCast]
  show Result.ok (sliced ad 0 q cap 1) w' = _
  rw [h1]; rfl
theorem Reads.mid_ {w : World} {ad : Option Addr} {cap : Nat} {l : List Int} (h : Reads w (.slice ad l.length cap) l) (p q : Nat) (hp : p ≤ q) (hq : q ≤ l.length) :
    ∃ a' c', (∀ w', (Instr.slice 38 (.slice ad l.length cap) (some (.int .i64 p)) (some (.int .i64 q)) none).run Tryz.prog w' = .ok (.slice a' (q - p) c') w') ∧ Reads w (.slice a' (q - p) c') ((l.take q).drop p) := by
  obtain ⟨a', c', h1, h2⟩ := h.sub p q hp hq
  have hc : l.length ≤ cap := by obtain ⟨a, c, hv, h1, _⟩ := h; injection hv with _ _ e; omega
  refine ⟨a', c', fun w' => ?_, h2⟩
  rw [run_slice_lh w' 38 ad l.length cap underB .i64 .i64 p q (by omega) (by omega) (by omega), sizeB, Int.toNat_natCast, Int.toNat_natCast, ← h1]; rfl
set_option maxRecDepth 100000 in
set_option maxHeartbeats 1000000 in
theorem restF_any (bc : Nat) (a : Option Addr) (cap : Nat) (l : List Int) (p : Nat) (w : World) (h : w.heap[bc]? = some (rdr (.slice a l.length cap) p)) (hR : Reads w (.slice a l.length cap) l) (hp : p ≤ l.length) (hlen : l.length ≤ 140737488351232) :
    Calls Tryz.prog 104 #[.pointer (some ⟨bc, 0, none⟩)] w fun en w' => ∃ a' c', en = .returned (.slice a' (l.length - p) c') ∧ Reads w (.slice a' (l.length - p) c') (l.drop p) ∧ ∃ n, w' = w.drewN n := by
  have c0 := cell_of h 0
  have c1 := cell_of h 1
  simp at c0 c1
  obtain ⟨a', c', hs, hR'⟩ := hR.from_ p hp
  have HR : Hid (Reads w (.slice a' (l.length - p) c') (l.drop p)) := hR'
  clear h hR hR'
  go_enter Tryz.func104, Tryz.ntmps104
  go_wp2_with fail
  go_quiet (fail)
  go_wp2_with fail
  go_ret
  exact ⟨a', c', by simp, HR.out, _, rfl⟩
theorem u64_sub (len p : Nat) (hp : p ≤ len) (hlen : len ≤ 140737488351232) : IntKind.u64.wrap (IntKind.i64.wrap ((len : Int) - p)) = ((len - p : Nat) : Int) := by
  rw [IntKind.wrap_u64, IntKind.wrap_i64]; omega
set_option maxRecDepth 100000 in
set_option maxHeartbeats 1000000 in
theorem partF_ok (bc : Nat) (a : Option Addr) (cap : Nat) (l : List Int) (p n : Nat) (w : World) (h : w.heap[bc]? = some (rdr (.slice a l.length cap) p)) (hR : Reads w (.slice a l.length cap) l) (hp : p ≤ l.length) (hn : p + n ≤ l.length) (hlen : l.length ≤ 140737488351232) (hn32 : n ≤ 4294967295) :
    Calls Tryz.prog 103 #[.pointer (some ⟨bc, 0, none⟩), .int .u32 n] w fun en w' => ∃ a' c', en = .returned (.agg #[.slice a' (p + n) c', .int .i64 p]) ∧ Reads w (.slice a' (p + n) c') (l.take (p + n)) ∧ Turn [bc] w w' ∧ w'.heap[bc]? = some (rdr (.slice a l.length cap) (p + n)) := by
  have c0 := cell_of h 0
  have c1 := cell_of h 1
  have z1 := free_of h 1
  simp at c0 c1
  obtain ⟨a', c', hs, hR'⟩ := hR.to_ (p + n) hn
  have HR : Hid (Reads w (.slice a' (p + n) c') (l.take (p + n))) := hR'
  have HH : Hid (w.heap[bc]? = some (rdr (.slice a l.length cap) p)) := h
  have hlt := lt_of_obj h
  have du : decide (IntKind.u64.wrap (IntKind.i64.wrap ((l.length : Int) - p)) < IntKind.u64.wrap (n : Int)) = false := by rw [u64_sub _ _ hp hlen, IntKind.wrap_u64]; simp; omega
  clear h hR hR'
  have hs' : ∀ (w' : World), (Instr.slice 38 (.slice a l.length cap) none (some (.int .i64 ((p : Int) + n))) none).run Tryz.prog w' = .ok (.slice a' (p + n) c') w' := by
    intro w'; have := hs w'; rwa [show ((p + n : Nat) : Int) = (p : Int) + n from by omega] at this
  clear hs
  go_enter Tryz.func103, Tryz.ntmps103
  go_wp2_with fail
  go_quiet (fail)
  go_wp2_with fail
  have hT : Turn [bc] w ((((w.alloc (Obj.cells #[Value.slice none 0 0, Value.int IntKind.i64 0] 142)).drewN nq).setCell { block := bc, off := 1 } (Value.int IntKind.i64 (↑p + ↑n)))) := ((((Turn.refl _ _).alloc _).drewN _).set (by simp) _)
  have hA : ((((w.alloc (Obj.cells #[Value.slice none 0 0, Value.int IntKind.i64 0] 142)).drewN nq).setCell { block := bc, off := 1 } (Value.int IntKind.i64 (↑p + ↑n)))).heap[bc]? = some (rdr (.slice a l.length cap) (p + n)) := by
    rw [heap_set (heap_drewN (heap_alloc HH.out _) _)]; rfl
  have hB : ((((w.alloc (Obj.cells #[Value.slice none 0 0, Value.int IntKind.i64 0] 142)).drewN nq).setCell { block := bc, off := 1 } (Value.int IntKind.i64 (↑p + ↑n)))).heap[w.heap.size]? = some (.cells #[Value.slice none 0 0, Value.int IntKind.i64 0] 142 (0, 0)) :=
    heap_other (heap_drewN (heap_alloc_last _ _) _) (by simp; omega) _
  generalize (((w.alloc (Obj.cells #[Value.slice none 0 0, Value.int IntKind.i64 0] 142)).drewN nq).setCell { block := bc, off := 1 } (Value.int IntKind.i64 (↑p + ↑n))) = W at *
  clear c0 c1 z1
  have c0 := cell_of hA 0
  have c1 := cell_of hA 1
  have y0 := free_of hB 0
  have y1 := free_of hB 1
  simp at c0 c1
  have HA : Hid (W.heap[bc]? = some (rdr (.slice a l.length cap) (p + n))) := hA
  have HB : Hid (W.heap[w.heap.size]? = some (.cells #[Value.slice none 0 0, Value.int IntKind.i64 0] 142 (0, 0))) := hB
  have hne : ¬ bc = w.heap.size := by omega
  have e0 := cell_of hB 0
  have e1 := cell_of hB 1
  simp at e0 e1
  clear hA hB
  go_region
  go_wp2_with fail
  refine bodyPost_ret (v := .agg #[.slice a' (p + n) c', .int .i64 p]) (by simp [results, Tryz.results103, go_sem, e0, e1]) rfl ⟨a', c', rfl, HR.out, ?_, ?_⟩
  · exact ((hT.set (Or.inr (Nat.le_refl _)) _).set (Or.inr (Nat.le_refl _)) _).drew
  · exact heap_other (heap_other HA.out hne _) hne _
set_option maxRecDepth 100000 in
set_option maxHeartbeats 1000000 in
theorem partF_bad (bc : Nat) (a : Option Addr) (cap : Nat) (l : List Int) (p n : Nat) (w : World) (h : w.heap[bc]? = some (rdr (.slice a l.length cap) p)) (hp : p ≤ l.length) (hn : ¬ p + n ≤ l.length) (hlen : l.length ≤ 140737488351232) (hn32 : n ≤ 4294967295) :
    Calls Tryz.prog 103 #[.pointer (some ⟨bc, 0, none⟩), .int .u32 n] w fun en w' => en = .panicked (fltF l.length 3) ∧ Turn [] w w' := by
  have c0 := cell_of h 0
  have c1 := cell_of h 1
  simp at c0 c1
  have hlt := lt_of_obj h
  have hd : decide ((l.length : Int) - p < n) = true := by simp; omega
  have du : decide (IntKind.u64.wrap (IntKind.i64.wrap ((l.length : Int) - p)) < IntKind.u64.wrap (n : Int)) = true := by rw [u64_sub _ _ hp hlen, IntKind.wrap_u64]; simp; omega
  clear h
  go_enter Tryz.func103, Tryz.ntmps103
  go_wp2_with fail
  go_quiet (fail)
  go_wp2_with fail
  refine (giveF_any _ 3 _).mono ?_
  rintro en w1 ⟨rfl, rfl⟩
  go_wp2_with fail
  exact ⟨rfl, rfl, ((Turn.refl _ _).alloc _).drewN _⟩
end Go.Proofs.YtchehejjdinifaaGreatDoor

namespace Go.Proofs.YtchehejjdinifaaGreatDoor
open Go.RowKit
set_option linter.unusedVariables false
set_option linter.unusedSimpArgs false

/- How many bytes a letter has that begins with f; 0: none begins so. -/
def lt (f : Int) : Nat := if f < 128 then 1 else if 194 ≤ f ∧ f ≤ 223 then 2 else if 224 ≤ f ∧ f ≤ 239 then 3 else if 240 ≤ f ∧ f ≤ 244 then 4 else 0
theorem lt_cases (f : Int) : (f < 128 ∧ lt f = 1) ∨ (194 ≤ f ∧ f ≤ 223 ∧ lt f = 2) ∨ (224 ≤ f ∧ f ≤ 239 ∧ lt f = 3) ∨ (240 ≤ f ∧ f ≤ 244 ∧ lt f = 4) ∨ (128 ≤ f ∧ (f < 194 ∨ 244 < f) ∧ lt f = 0) := by
  unfold lt
  by_cases h1 : f < 128
  · rw [if_pos h1]; omega
  · rw [if_neg h1]
    by_cases h2 : 194 ≤ f ∧ f ≤ 223
    · rw [if_pos h2]; omega
    · rw [if_neg h2]
      by_cases h3 : 224 ≤ f ∧ f ≤ 239
      · rw [if_pos h3]; omega
      · rw [if_neg h3]
        by_cases h4 : 240 ≤ f ∧ f ≤ 244
        · rw [if_pos h4]; omega
        · rw [if_neg h4]; omega
def lo (f : Int) : Int := if f = 224 then 160 else if f = 240 then 144 else 128
def hi (f : Int) : Int := if f = 237 then 159 else if f = 244 then 143 else 191
/- May c stand in the k-th place behind f? -/
def fl (f : Int) (k : Nat) (c : Int) : Bool := if k = 1 then decide (lo f ≤ c ∧ c ≤ hi f) else decide (128 ≤ c ∧ c ≤ 191)
def run (l : List Int) (a n : Nat) (f : Int) : Nat → Nat → Nat
  | 0, k => k
  | g + 1, k => if k < n then (if a + k < l.length ∧ fl f k (l.getD (a + k) 0) = true then run l a n f g (k + 1) else k) else k
/- With how many bytes a letter at a goes on. -/
def stop (l : List Int) (a : Nat) : Nat := if lt (l.getD a 0) = 0 then 0 else run l a (lt (l.getD a 0)) (l.getD a 0) 4 1
/- Is the letter at a whole? -/
abbrev whole (l : List Int) (a : Nat) : Prop := lt (l.getD a 0) ≠ 0 ∧ stop l a = lt (l.getD a 0)
def uo (l : List Int) : Nat → Nat → Int × Bool
  | 0, _ => (0, true)
  | g + 1, a => if a < l.length then (if whole l a then uo l g (a + lt (l.getD a 0)) else (((a + stop l a : Nat) : Int), false)) else (0, true)
theorem lt_pos {l : List Int} {a : Nat} (h : whole l a) : 1 ≤ lt (l.getD a 0) := by have := h.1; omega
theorem uo_fuel (l : List Int) : ∀ (g a : Nat), l.length - a ≤ g → uo l g a = uo l (l.length - a) a := by
  intro g
  induction g using Nat.strongRecOn with
  | _ g ih =>
    intro a h
    by_cases ha : a < l.length
    · obtain ⟨d, hd⟩ : ∃ d, l.length - a = d + 1 := ⟨l.length - a - 1, by omega⟩
      obtain ⟨g', rfl⟩ : ∃ g', g = g' + 1 := ⟨g - 1, by omega⟩
      rw [hd]
      simp only [uo, if_pos ha]
      by_cases hw : whole l a
      · have := lt_pos hw
        rw [if_pos hw, if_pos hw, ih g' (by omega) _ (by omega), ih d (by omega) _ (by omega)]
      · rw [if_neg hw, if_neg hw]
    · rw [show l.length - a = 0 from by omega]
      cases g with
      | zero => rfl
      | succ g => simp only [uo, if_neg ha]
def uat (l : List Int) (a : Nat) : Int × Bool := uo l (l.length - a) a
/- UTF-8 or not: 0 and true, or the place of the first byte with which no such text goes on. -/
def U (l : List Int) : Int × Bool := uat l 0
theorem uat_end {l : List Int} {a : Nat} (h : l.length ≤ a) : uat l a = (0, true) := by
  unfold uat; rw [show l.length - a = 0 from by omega]; rfl
theorem uat_step {l : List Int} {a : Nat} (h : a < l.length) (hw : whole l a) : uat l a = uat l (a + lt (l.getD a 0)) := by
  have := lt_pos hw
  unfold uat
  obtain ⟨d, hd⟩ : ∃ d, l.length - a = d + 1 := ⟨l.length - a - 1, by omega⟩
  rw [hd, uo, if_pos h, if_pos hw, uo_fuel l d _ (by omega)]
theorem uat_bad {l : List Int} {a : Nat} (h : a < l.length) (hw : ¬ whole l a) : uat l a = (((a + stop l a : Nat) : Int), false) := by
  unfold uat
  obtain ⟨d, hd⟩ : ∃ d, l.length - a = d + 1 := ⟨l.length - a - 1, by omega⟩
  rw [hd, uo, if_pos h, if_neg hw]
/- How many bytes go on, the first of them from x up to y. -/
def gon : List Int → Int → Int → Nat
  | [], _, _ => 0
  | c :: r, x, y => if x ≤ c ∧ c ≤ y then gon r 128 191 + 1 else 0
def bgn : List Int → Nat
  | [] => 0
  | f :: r => if 194 ≤ f ∧ f ≤ 244 then gon r (lo f) (hi f) + 1 else 0
theorem getD_drop (l : List Int) (a k : Nat) : (l.drop a).getD k 0 = l.getD (a + k) 0 := by simp [List.getD]
theorem gon_run (l : List Int) (a n : Nat) (f : Int) : ∀ (g k : Nat), 2 ≤ k → run l a n f g k < n → n ≤ k + g → run l a n f g k = k + gon (l.drop (a + k)) 128 191
  | 0, k, h, hs, hn => by simp only [run] at hs; omega
  | g + 1, k, h, hs, hn => by
    simp only [run] at hs ⊢
    by_cases hk : k < n
    · rw [if_pos hk] at hs ⊢
      by_cases hc : a + k < l.length
      · have e : l.drop (a + k) = l.getD (a + k) 0 :: l.drop (a + k + 1) := by
          rw [List.drop_eq_getElem_cons hc]; simp [List.getD, hc]
        rw [e, gon]
        by_cases hf : fl f k (l.getD (a + k) 0) = true
        · rw [if_pos ⟨hc, hf⟩] at hs ⊢
          have hf' : 128 ≤ l.getD (a + k) 0 ∧ l.getD (a + k) 0 ≤ 191 := by
            unfold fl at hf; rw [if_neg (by omega)] at hf; exact of_decide_eq_true hf
          rw [if_pos hf', gon_run l a n f g (k + 1) (by omega) hs (by omega), ← Nat.add_assoc]
          omega
        · rw [if_neg (by rintro ⟨_, h⟩; exact hf h)]
          have hf' : ¬ (128 ≤ l.getD (a + k) 0 ∧ l.getD (a + k) 0 ≤ 191) := by
            intro h'; apply hf; unfold fl; rw [if_neg (by omega)]; exact decide_eq_true h'
          rw [if_neg hf']; rfl
      · rw [if_neg (by rintro ⟨h, _⟩; exact hc h), List.drop_eq_nil_of_le (by omega)]; rfl
    · rw [if_neg hk] at hs; omega
theorem run_le (l : List Int) (a n : Nat) (f : Int) : ∀ g k, k ≤ n → run l a n f g k ≤ n := by
  intro g
  induction g with
  | zero => intro k hk; exact hk
  | succ g ih =>
    intro k hk
    simp only [run]
    split
    · split
      · exact ih _ (by omega)
      · omega
    · omega
theorem bgn_stop {l : List Int} {a : Nat} (ha : a < l.length) (hw : ¬ whole l a) : bgn (l.drop a) = stop l a := by
  have e : l.drop a = l.getD a 0 :: l.drop (a + 1) := by
    rw [List.drop_eq_getElem_cons ha]; simp [List.getD, ha]
  obtain ⟨f, hf⟩ : ∃ f, f = l.getD a 0 := ⟨_, rfl⟩
  rw [e, bgn]
  unfold whole at hw
  unfold stop at hw ⊢
  rw [← hf] at hw ⊢
  have hlt := lt_cases f
  by_cases h0 : lt f = 0
  · rw [if_pos h0, if_neg (by omega)]
  · rw [if_neg h0] at hw ⊢
    have hne : run l a (lt f) f 4 1 ≠ lt f := fun h => hw ⟨h0, h⟩
    have h1 : lt f ≠ 1 := by
      intro h; apply hne; rw [h]; simp [run]
    rw [if_pos (by omega)]
    obtain ⟨n, hn⟩ : ∃ n, n = lt f := ⟨_, rfl⟩
    rw [← hn] at hlt h0 hne h1 ⊢
    have hr : run l a n f 4 1 = if a + 1 < l.length ∧ fl f 1 (l.getD (a + 1) 0) = true then run l a n f 3 2 else 1 := by
      rw [run, if_pos (by omega)]
    rw [hr] at hne ⊢
    by_cases hc : a + 1 < l.length
    · have e1 : l.drop (a + 1) = l.getD (a + 1) 0 :: l.drop (a + 2) := by
        rw [List.drop_eq_getElem_cons hc]; simp [List.getD, hc]
      rw [e1, gon]
      by_cases hf1 : fl f 1 (l.getD (a + 1) 0) = true
      · rw [if_pos ⟨hc, hf1⟩] at hne
        have hx : lo f ≤ l.getD (a + 1) 0 ∧ l.getD (a + 1) 0 ≤ hi f := by
          unfold fl at hf1; rw [if_pos rfl] at hf1; exact of_decide_eq_true hf1
        rw [if_pos hx, if_pos ⟨hc, hf1⟩]
        have h3 := run_le l a n f 3 2 (by omega)
        have hg := gon_run l a n f 3 2 (by omega) (by omega) (by omega)
        rw [hg]
        omega
      · have hx : ¬ (lo f ≤ l.getD (a + 1) 0 ∧ l.getD (a + 1) 0 ≤ hi f) := by
          intro hx; apply hf1; unfold fl; rw [if_pos rfl]; exact decide_eq_true hx
        rw [if_neg hx, if_neg (fun h => hf1 h.2)]
    · rw [if_neg (fun h => hc h.1), List.drop_eq_nil_of_le (by omega)]; rfl
/- The model's strings, as bytes. -/
theorem str_get (l : List Int) (hb : Byt l) (j : Nat) (h : j < l.length) : ((strOfNums l).get! j).toNat = (l.getD j 0).toNat := by
  have hj := hb j
  have : (strOfNums l).get! j = UInt8.ofNat (l.getD j 0).toNat := by
    simp [ByteArray.get!, strOfNums, List.getD, h]
  rw [this, UInt8.toNat_ofNat']
  omega
theorem str_at (l : List Int) (hb : Byt l) (j : Nat) (h : j < (strOfNums l).size) : (((strOfNums l)[j]'h).toNat : Int) = l.getD j 0 := by
  have hj := hb j
  have hl : j < l.length := by rw [← strOfNums_size]; exact h
  have : (strOfNums l)[j]'h = UInt8.ofNat (l.getD j 0).toNat := by
    show (strOfNums l).data[j]'h = _
    simp [strOfNums, List.getD, hl]
  rw [this, UInt8.toNat_ofNat']
  omega
theorem str_drop (l : List Int) (i n : Nat) (hn : n = l.length) : (strOfNums l).extract i n = strOfNums (l.drop i) := by
  subst hn
  unfold strOfNums
  rw [ByteArray.extract_mk, ← List.map_drop, List.take_of_length_le (by simp)]
theorem str_take (l : List Int) (j : Nat) : (strOfNums l).extract 0 j = strOfNums (l.take j) := by
  unfold strOfNums
  rw [ByteArray.extract_mk, ← List.map_drop, ← List.map_take]; simp
theorem Byt.drop {l : List Int} (h : Byt l) (i : Nat) : Byt (l.drop i) := fun j => by rw [getD_drop]; exact h _
theorem Byt.mem {l : List Int} (h : Byt l) : ∀ x ∈ l, 0 ≤ x ∧ x ≤ 255 := by
  intro x hx
  obtain ⟨j, hj, rfl⟩ := List.getElem_of_mem hx
  have := h j
  simpa [List.getD, hj] using this
theorem Byt.of_mem {l : List Int} (h : ∀ x ∈ l, 0 ≤ x ∧ x ≤ 255) : Byt l := by
  intro j
  by_cases hj : j < l.length
  · simp only [List.getD, List.getElem?_eq_getElem hj, Option.getD_some]; exact h _ (List.getElem_mem hj)
  · simp [List.getD, List.getElem?_eq_none (Nat.le_of_not_lt hj)]
theorem Byt.take {l : List Int} (h : Byt l) (i : Nat) : Byt (l.take i) := Byt.of_mem fun x hx => h.mem x (List.mem_of_mem_take hx)
theorem Byt.append {l r : List Int} (h : Byt l) (k : Byt r) : Byt (l ++ r) := Byt.of_mem fun x hx => (List.mem_append.1 hx).elim (h.mem x) (k.mem x)
theorem Byt.nil : Byt [] := Byt.of_mem (by simp)
/- Strings as bytes are bytes one to one. -/
theorem str_inj {l r : List Int} (hl : Byt l) (hr : Byt r) (h : strOfNums l = strOfNums r) : l = r := by
  have h1 : (strOfNums l).data.toList = (strOfNums r).data.toList := by rw [h]
  rw [strOfNums_data, strOfNums_data] at h1
  have hlen : l.length = r.length := by simpa using congrArg List.length h1
  apply List.ext_getElem hlen
  intro i h2 h3
  have h4 := List.getElem_of_eq h1 (i := i) (by simpa using h2)
  simp only [List.getElem_map] at h4
  have := hl.mem _ (List.getElem_mem h2)
  have := hr.mem _ (List.getElem_mem h3)
  have h5 := congrArg UInt8.toNat h4
  rw [UInt8.toNat_ofNat', UInt8.toNat_ofNat'] at h5
  omega
/- The bytes of a string. -/
def nums (s : ByteArray) : List Int := s.data.toList.map fun b => (b.toNat : Int)
theorem str_nums (s : ByteArray) : strOfNums (nums s) = s := by
  apply ByteArray.ext
  simp [strOfNums, nums, Function.comp_def]
theorem nums_byt (s : ByteArray) : Byt (nums s) := Byt.of_mem (by
  intro x hx
  simp only [nums, List.mem_map] at hx
  obtain ⟨b, _, rfl⟩ := hx
  have := b.toNat_lt
  omega)
theorem nums_len (s : ByteArray) : (nums s).length = s.size := by unfold nums; rw [List.length_map]; rfl
theorem whole_iff (l : List Int) (a : Nat) : whole l a ↔
    l.getD a 0 < 128 ∨ (194 ≤ l.getD a 0 ∧ l.getD a 0 ≤ 223 ∧ a + 1 < l.length ∧ 128 ≤ l.getD (a + 1) 0 ∧ l.getD (a + 1) 0 ≤ 191) ∨
    (224 ≤ l.getD a 0 ∧ l.getD a 0 ≤ 239 ∧ a + 2 < l.length ∧ lo (l.getD a 0) ≤ l.getD (a + 1) 0 ∧ l.getD (a + 1) 0 ≤ hi (l.getD a 0) ∧ 128 ≤ l.getD (a + 2) 0 ∧ l.getD (a + 2) 0 ≤ 191) ∨
    (240 ≤ l.getD a 0 ∧ l.getD a 0 ≤ 244 ∧ a + 3 < l.length ∧ lo (l.getD a 0) ≤ l.getD (a + 1) 0 ∧ l.getD (a + 1) 0 ≤ hi (l.getD a 0) ∧ 128 ≤ l.getD (a + 2) 0 ∧ l.getD (a + 2) 0 ≤ 191 ∧ 128 ≤ l.getD (a + 3) 0 ∧ l.getD (a + 3) 0 ≤ 191) := by
  have h1 : (l.getD a 0 ≤ 223 ∧ 194 ≤ l.getD a 0) → lo (l.getD a 0) = 128 ∧ hi (l.getD a 0) = 191 := by
    intro h; unfold lo hi; rw [if_neg (by omega), if_neg (by omega), if_neg (by omega), if_neg (by omega)]; exact ⟨rfl, rfl⟩
  unfold whole stop
  generalize l.getD a 0 = f at *
  rcases lt_cases f with ⟨h, e⟩ | ⟨h, h', e⟩ | ⟨h, h', e⟩ | ⟨h, h', e⟩ | ⟨h, h', e⟩
  · rw [e]; simp [run]; omega
  · obtain ⟨h2, h3⟩ := h1 ⟨h', h⟩
    rw [e]; simp [run, fl, h2, h3]
    omega
  · rw [e]; simp [run, fl]
    split
    · split <;> omega
    · omega
  · rw [e]; simp [run, fl]
    split
    · split
      · split <;> omega
      · omega
    · omega
  · rw [e]; simp; omega
/- What the decoder says. -/
def dec (x0 x1 x2 x3 : Nat) (p1 p2 p3 : Bool) : Nat × Nat :=
  if x0 < 0x80 then (x0, 1)
  else if x0 / 32 == 6 && (p1 && x1 / 64 == 2) then
    (if (x0 % 32) * 64 + x1 % 64 ≥ 0x80 then ((x0 % 32) * 64 + x1 % 64, 2) else (65533, 1))
  else if x0 / 16 == 14 && (p1 && x1 / 64 == 2) && (p2 && x2 / 64 == 2) then
    (if (x0 % 16) * 4096 + (x1 % 64) * 64 + x2 % 64 ≥ 0x800 && Utf8.valid (((x0 % 16) * 4096 + (x1 % 64) * 64 + x2 % 64 : Nat) : Int) then ((x0 % 16) * 4096 + (x1 % 64) * 64 + x2 % 64, 3) else (65533, 1))
  else if x0 / 8 == 30 && (p1 && x1 / 64 == 2) && (p2 && x2 / 64 == 2) && (p3 && x3 / 64 == 2) then
    (if (x0 % 8) * 262144 + (x1 % 64) * 4096 + (x2 % 64) * 64 + x3 % 64 ≥ 0x10000 && Utf8.valid (((x0 % 8) * 262144 + (x1 % 64) * 4096 + (x2 % 64) * 64 + x3 % 64 : Nat) : Int) then ((x0 % 8) * 262144 + (x1 % 64) * 4096 + (x2 % 64) * 64 + x3 % 64, 4) else (65533, 1))
  else (65533, 1)
theorem dec_is (s : ByteArray) (a : Nat) : Utf8.decode s a = dec (s.get! (a + 0)).toNat (s.get! (a + 1)).toNat (s.get! (a + 2)).toNat (s.get! (a + 3)).toNat (decide (a + 1 < s.size)) (decide (a + 2 < s.size)) (decide (a + 3 < s.size)) := rfl
theorem valid_iff (n : Nat) : Utf8.valid (n : Int) = true ↔ n < 55296 ∨ (57344 ≤ n ∧ n ≤ 1114111) := by
  unfold Utf8.valid; simp; omega
theorem lo_is (f : Int) : (f = 224 ∧ lo f = 160) ∨ (f = 240 ∧ lo f = 144) ∨ (f ≠ 224 ∧ f ≠ 240 ∧ lo f = 128) := by
  unfold lo; by_cases h : f = 224
  · rw [if_pos h]; omega
  · rw [if_neg h]; by_cases h' : f = 240
    · rw [if_pos h']; omega
    · rw [if_neg h']; omega
theorem hi_is (f : Int) : (f = 237 ∧ hi f = 159) ∨ (f = 244 ∧ hi f = 143) ∨ (f ≠ 237 ∧ f ≠ 244 ∧ hi f = 191) := by
  unfold hi; by_cases h : f = 237
  · rw [if_pos h]; omega
  · rw [if_neg h]; by_cases h' : f = 244
    · rw [if_pos h']; omega
    · rw [if_neg h']; omega
theorem dec_num (f y1 y2 y3 : Int) (x0 x1 x2 x3 : Nat) (p1 p2 p3 : Bool) (h0 : f = x0) (h1 : p1 = true → y1 = x1) (h2 : p2 = true → y2 = x2) (h3 : p3 = true → y3 = x3) (b0 : x0 ≤ 255) (b1 : x1 ≤ 255) (b2 : x2 ≤ 255) (b3 : x3 ≤ 255) (q2 : p2 = true → p1 = true) (q3 : p3 = true → p2 = true) (hw : f < 128 ∨ (194 ≤ f ∧ f ≤ 223 ∧ p1 = true ∧ 128 ≤ y1 ∧ y1 ≤ 191) ∨ (224 ≤ f ∧ f ≤ 239 ∧ p2 = true ∧ lo f ≤ y1 ∧ y1 ≤ hi f ∧ 128 ≤ y2 ∧ y2 ≤ 191) ∨
    (240 ≤ f ∧ f ≤ 244 ∧ p3 = true ∧ lo f ≤ y1 ∧ y1 ≤ hi f ∧ 128 ≤ y2 ∧ y2 ≤ 191 ∧ 128 ≤ y3 ∧ y3 ≤ 191)) :
    (dec x0 x1 x2 x3 p1 p2 p3).2 = lt f ∧ ((dec x0 x1 x2 x3 p1 p2 p3).1 = 65533 → p2 = true ∧ f = 239 ∧ y1 = 191 ∧ y2 = 189) := by
  subst h0
  have _ := b2
  have _ := b3
  have hlt := lt_cases x0
  have hlo := lo_is x0
  have hhi := hi_is x0
  generalize lo (x0 : Int) = L at *
  generalize hi (x0 : Int) = G at *
  rcases hw with h | ⟨h, h', e, hw⟩ | ⟨h, h', e, hw⟩ | ⟨h, h', e, hw⟩
  · unfold dec; rw [if_pos (by omega)]; simp only; omega
  · subst e
    have e1 := h1 rfl
    unfold dec
    rw [if_neg (by omega), if_pos (by simp; omega), if_pos (by omega)]; simp only; omega
  · subst e
    have e0 := q2 rfl
    subst e0
    have e1 := h1 rfl
    have e2 := h2 rfl
    unfold dec
    have hv := valid_iff (x0 % 16 * 4096 + x1 % 64 * 64 + x2 % 64)
    rw [if_neg (by omega), if_neg (by simp; omega), if_pos (by simp; omega), if_pos]
    · exact ⟨by simp only; omega, fun h => ⟨rfl, by simp only at h; omega⟩⟩
    · rw [Bool.and_eq_true, hv, decide_eq_true_eq]; omega
  · subst e
    have e0 := q3 rfl
    subst e0
    have e0 := q2 rfl
    subst e0
    have e1 := h1 rfl
    have e2 := h2 rfl
    have e3 := h3 rfl
    unfold dec
    have hv := valid_iff (x0 % 8 * 262144 + x1 % 64 * 4096 + x2 % 64 * 64 + x3 % 64)
    rw [if_neg (by omega), if_neg (by simp; omega), if_neg (by simp; omega), if_pos (by simp; omega), if_pos]
    · simp only; omega
    · rw [Bool.and_eq_true, hv, decide_eq_true_eq]; omega
theorem dec_not (f y1 y2 y3 : Int) (x0 x1 x2 x3 : Nat) (p1 p2 p3 : Bool) (h0 : f = x0) (h1 : p1 = true → y1 = x1) (h2 : p2 = true → y2 = x2) (h3 : p3 = true → y3 = x3) (b0 : x0 ≤ 255) (b1 : x1 ≤ 255) (b2 : x2 ≤ 255) (b3 : x3 ≤ 255) (q2 : p2 = true → p1 = true) (q3 : p3 = true → p2 = true) (hw : ¬ (f < 128 ∨ (194 ≤ f ∧ f ≤ 223 ∧ p1 = true ∧ 128 ≤ y1 ∧ y1 ≤ 191) ∨ (224 ≤ f ∧ f ≤ 239 ∧ p2 = true ∧ lo f ≤ y1 ∧ y1 ≤ hi f ∧ 128 ≤ y2 ∧ y2 ≤ 191) ∨
    (240 ≤ f ∧ f ≤ 244 ∧ p3 = true ∧ lo f ≤ y1 ∧ y1 ≤ hi f ∧ 128 ≤ y2 ∧ y2 ≤ 191 ∧ 128 ≤ y3 ∧ y3 ≤ 191))) :
    dec x0 x1 x2 x3 p1 p2 p3 = (65533, 1) := by
  subst h0
  have hlo := lo_is x0
  have hhi := hi_is x0
  generalize lo (x0 : Int) = L at *
  generalize hi (x0 : Int) = G at *
  have i1 : p1 = true ∧ y1 = x1 ∨ p1 = false := by cases p1 <;> simp at h1 ⊢; exact h1
  have i2 : p2 = true ∧ y2 = x2 ∨ p2 = false := by cases p2 <;> simp at h2 ⊢; exact h2
  have i3 : p3 = true ∧ y3 = x3 ∨ p3 = false := by cases p3 <;> simp at h3 ⊢; exact h3
  clear h1 h2 h3 q2 q3
  unfold dec
  rw [if_neg (by omega)]
  have r2 : (if x0 % 32 * 64 + x1 % 64 ≥ 128 then (x0 % 32 * 64 + x1 % 64, 2) else (65533, 1)) = (65533, 1) ∨ ¬ (x0 / 32 = 6 ∧ p1 = true ∧ x1 / 64 = 2) := by
    rcases i1 with ⟨rfl, e1⟩ | rfl
    · by_cases c : x0 / 32 = 6 ∧ x1 / 64 = 2
      · left; rw [if_neg (by simp at hw; omega)]
      · right; simp; omega
    · right; simp
  have r3 : (if x0 % 16 * 4096 + x1 % 64 * 64 + x2 % 64 ≥ 2048 && Utf8.valid ((x0 % 16 * 4096 + x1 % 64 * 64 + x2 % 64 : Nat) : Int) then (x0 % 16 * 4096 + x1 % 64 * 64 + x2 % 64, 3) else (65533, 1)) = (65533, 1) ∨ ¬ ((x0 / 16 = 14 ∧ p1 = true ∧ x1 / 64 = 2) ∧ p2 = true ∧ x2 / 64 = 2) := by
    rcases i1 with ⟨rfl, e1⟩ | rfl
    · rcases i2 with ⟨rfl, e2⟩ | rfl
      · by_cases c : x0 / 16 = 14 ∧ x1 / 64 = 2 ∧ x2 / 64 = 2
        · left
          have hv := valid_iff (x0 % 16 * 4096 + x1 % 64 * 64 + x2 % 64)
          rw [if_neg]
          rw [Bool.and_eq_true, hv, decide_eq_true_eq]
          simp at hw; omega
        · right; simp; omega
      · right; simp
    · right; simp
  have r4 : (if x0 % 8 * 262144 + x1 % 64 * 4096 + x2 % 64 * 64 + x3 % 64 ≥ 65536 && Utf8.valid ((x0 % 8 * 262144 + x1 % 64 * 4096 + x2 % 64 * 64 + x3 % 64 : Nat) : Int) then (x0 % 8 * 262144 + x1 % 64 * 4096 + x2 % 64 * 64 + x3 % 64, 4) else (65533, 1)) = (65533, 1) ∨ ¬ (((x0 / 8 = 30 ∧ p1 = true ∧ x1 / 64 = 2) ∧ p2 = true ∧ x2 / 64 = 2) ∧ p3 = true ∧ x3 / 64 = 2) := by
    rcases i1 with ⟨rfl, e1⟩ | rfl
    · rcases i2 with ⟨rfl, e2⟩ | rfl
      · rcases i3 with ⟨rfl, e3⟩ | rfl
        · by_cases c : x0 / 8 = 30 ∧ x1 / 64 = 2 ∧ x2 / 64 = 2 ∧ x3 / 64 = 2
          · left
            have hv := valid_iff (x0 % 8 * 262144 + x1 % 64 * 4096 + x2 % 64 * 64 + x3 % 64)
            rw [if_neg]
            rw [Bool.and_eq_true, hv, decide_eq_true_eq]
            simp at hw; omega
          · right; simp; omega
        · right; simp
      · right; simp
    · right; simp
  by_cases c2 : x0 / 32 = 6 ∧ p1 = true ∧ x1 / 64 = 2
  · rw [if_pos (by simpa using c2)]; exact r2.resolve_right (fun h => h c2)
  · rw [if_neg (by simpa using c2)]
    by_cases c3 : (x0 / 16 = 14 ∧ p1 = true ∧ x1 / 64 = 2) ∧ p2 = true ∧ x2 / 64 = 2
    · rw [if_pos (by simpa using c3)]; exact r3.resolve_right (fun h => h c3)
    · rw [if_neg (by simpa using c3)]
      by_cases c4 : ((x0 / 8 = 30 ∧ p1 = true ∧ x1 / 64 = 2) ∧ p2 = true ∧ x2 / 64 = 2) ∧ p3 = true ∧ x3 / 64 = 2
      · rw [if_pos (by simpa using c4)]; exact r4.resolve_right (fun h => h c4)
      · rw [if_neg (by simpa using c4)]
theorem take3 {l : List Int} {a : Nat} : (l.drop a).take 3 = [239, 191, 189] ↔ a + 2 < l.length ∧ l.getD a 0 = 239 ∧ l.getD (a + 1) 0 = 191 ∧ l.getD (a + 2) 0 = 189 := by
  rw [show l.getD a 0 = (l.drop a).getD 0 0 from (getD_drop l a 0).symm, ← getD_drop l a 1, ← getD_drop l a 2, show a + 2 < l.length ↔ 2 < (l.drop a).length from by simp; omega]
  generalize l.drop a = m
  rcases m with _ | ⟨x, _ | ⟨y, _ | ⟨z, m⟩⟩⟩ <;> simp
theorem dec_whole {l : List Int} {a : Nat} (hb : Byt l) (ha : a < l.length) (hw : whole l a) :
    (Utf8.decode (strOfNums l) a).2 = lt (l.getD a 0) ∧ ((Utf8.decode (strOfNums l) a).1 = 65533 → (l.drop a).take 3 = [239, 191, 189]) := by
  rw [whole_iff] at hw
  rw [take3, dec_is, strOfNums_size]
  have g0 := hb a
  have g : ∀ k, ((strOfNums l).get! (a + k)).toNat ≤ 255 := fun k => by have := ((strOfNums l).get! (a + k)).toNat_lt; omega
  have gk : ∀ k, decide (a + k < l.length) = true → l.getD (a + k) 0 = ((strOfNums l).get! (a + k)).toNat := fun k h => by
    rw [str_get l hb _ (of_decide_eq_true h)]; have := hb (a + k); omega
  have := dec_num (l.getD a 0) (l.getD (a + 1) 0) (l.getD (a + 2) 0) (l.getD (a + 3) 0) _ _ _ _ (decide (a + 1 < l.length)) (decide (a + 2 < l.length)) (decide (a + 3 < l.length))
    (gk 0 (decide_eq_true ha)) (gk 1) (gk 2) (gk 3) (g 0) (g 1) (g 2) (g 3) (by simp; omega) (by simp; omega) (by simpa using hw)
  simpa using this
theorem dec_bad {l : List Int} {a : Nat} (hb : Byt l) (ha : a < l.length) (hw : ¬ whole l a) :
    Utf8.decode (strOfNums l) a = (65533, 1) ∧ (l.drop a).take 3 ≠ [239, 191, 189] := by
  rw [whole_iff] at hw
  constructor
  · rw [dec_is, strOfNums_size]
    have g : ∀ k, ((strOfNums l).get! (a + k)).toNat ≤ 255 := fun k => by have := ((strOfNums l).get! (a + k)).toNat_lt; omega
    have gk : ∀ k, decide (a + k < l.length) = true → l.getD (a + k) 0 = ((strOfNums l).get! (a + k)).toNat := fun k h => by
      rw [str_get l hb _ (of_decide_eq_true h)]; have := hb (a + k); omega
    exact dec_not (l.getD a 0) (l.getD (a + 1) 0) (l.getD (a + 2) 0) (l.getD (a + 3) 0) _ _ _ _ (decide (a + 1 < l.length)) (decide (a + 2 < l.length)) (decide (a + 3 < l.length))
      (gk 0 (decide_eq_true ha)) (gk 1) (gk 2) (gk 3) (g 0) (g 1) (g 2) (g 3) (by simp; omega) (by simp; omega) (by simpa using hw)
  · rw [Ne, take3]
    rintro ⟨h1, h2, h3, h4⟩
    apply hw
    rw [h2, h3, h4]
    right; right; left
    simp [lo, hi, h1]
end Go.Proofs.YtchehejjdinifaaGreatDoor

namespace Go.Proofs.YtchehejjdinifaaGreatDoor
open Go.RowKit
set_option linter.unusedVariables false
set_option linter.unusedSimpArgs false

theorem scan_ok (m : Nat) (ok : Int → Bool) : ∀ (l : List Int) (i : Nat) (X n k : Int), 0 ≤ X → scan m ok false l i X = (n, k, 0) → (i : Int) < k ∧ k ≤ i + l.length ∧ 0 ≤ n
  | [], i, X, n, k, h0, h => by simp [scan] at h
  | c :: r, i, X, n, k, h0, h => by
    rw [scan] at h
    split at h
    · simp at h
    · split at h
      · simp only [Prod.mk.injEq] at h
        obtain ⟨h1, h2, _⟩ := h
        have := addAt_lo (c := c) i h0
        refine ⟨by omega, by simp; omega, ?_⟩
        rw [← h1]; simp [ws]; exact this
      · obtain ⟨h1, h2, h3⟩ := scan_ok m ok r (i + 1) _ n k (addAt_lo (c := c) i h0) h
        exact ⟨by omega, by simp; omega, h3⟩
theorem rd_ok {b : Nat} {l : List Int} {x y n q : Int} (h : rd b false l x y = (n, q, 0)) : 0 ≤ x ∧ x < q ∧ q ≤ y ∧ y ≤ l.length ∧ 0 ≤ n := by
  by_cases hin : 0 ≤ x ∧ x ≤ y ∧ y ≤ l.length
  · unfold rd at h
    rw [if_pos hin] at h
    simp only [Prod.mk.injEq] at h
    obtain ⟨h1, h2, h3⟩ := h
    obtain ⟨r, hr⟩ : ∃ r, r = scan ((b + 6) / 7 - 1) (okB (b - 7 * ((b + 6) / 7 - 1)) false) false (seg l x.toNat y.toNat) 0 0 := ⟨_, rfl⟩
    rw [← hr] at h1 h2 h3
    obtain ⟨r1, r2, r3⟩ := r
    simp only at h1 h2 h3
    subst h1; subst h3
    obtain ⟨g1, g2, g3⟩ := scan_ok _ _ _ 0 0 r1 r2 (Int.le_refl 0) hr.symm
    have hl : (seg l x.toNat y.toNat).length = y.toNat - x.toNat := by unfold seg; simp; omega
    rw [hl] at g2
    omega
  · rw [rd_out hin] at h; simp at h
/- The errors' kinds: a number that can't be read. -/
theorem rd_take (b : Nat) (sg : Bool) (l : List Int) (x : Int) (e : Nat) (he : e ≤ l.length) : rd b sg (l.take e) x e = rd b sg l x e := by
  have hs : ∀ a, seg (l.take e) a e = seg l a e := by intro a; unfold seg; rw [List.take_take]; simp
  unfold rd
  have hl : (l.take e).length = e := by simp; omega
  simp only [hs, hl, Int.toNat_natCast]
  by_cases h : 0 ≤ x ∧ x ≤ (e : Int) ∧ (e : Int) ≤ l.length
  · rw [if_pos h, if_pos (by omega)]
  · rw [if_neg h, if_neg (by omega)]
/- The name that stands at p, ahead of the end: its bytes, the place behind it, 0; or the place of the fault and the fault. -/
def nm (l : List Int) (p : Int) : List Int × Int × Int :=
  if (rd 32 false l p l.length).2.2 ≠ 0 then ([], (rd 32 false l p l.length).2.1, (rd 32 false l p l.length).2.2)
  else if 65536 < (rd 32 false l p l.length).1 % 4294967296 then ([], p, 2)
  else if (l.length : Int) < (rd 32 false l p l.length).2.1 + (rd 32 false l p l.length).1 % 4294967296 then ([], l.length, 3)
  else if (U ((l.take ((rd 32 false l p l.length).2.1.toNat + ((rd 32 false l p l.length).1 % 4294967296).toNat)).drop (rd 32 false l p l.length).2.1.toNat)).2 = true then
    ((l.take ((rd 32 false l p l.length).2.1.toNat + ((rd 32 false l p l.length).1 % 4294967296).toNat)).drop (rd 32 false l p l.length).2.1.toNat, (rd 32 false l p l.length).2.1 + (rd 32 false l p l.length).1 % 4294967296, 0)
  else ([], (rd 32 false l p l.length).2.1 + (U ((l.take ((rd 32 false l p l.length).2.1.toNat + ((rd 32 false l p l.length).1 % 4294967296).toNat)).drop (rd 32 false l p l.length).2.1.toNat)).1, 21)
/- The ways of a name, one by one. -/
theorem nm_rd {l : List Int} {p n q e : Int} (h : rd 32 false l p l.length = (n, q, e)) (he : e ≠ 0) : nm l p = ([], q, e) := by
  unfold nm; rw [h]; simp [he]
theorem nm_long {l : List Int} {p n q : Int} (h : rd 32 false l p l.length = (n, q, 0)) (hn : 65536 < n % 4294967296) : nm l p = ([], p, 2) := by
  unfold nm; rw [h]; simp only; rw [if_neg (by simp), if_pos hn]
theorem nm_short {l : List Int} {p n q : Int} {N Q : Nat} (h : rd 32 false l p l.length = (n, q, 0)) (hN : n % 4294967296 = N) (hQ : q = Q) (hn : N ≤ 65536) (hs : ¬ Q + N ≤ l.length) : nm l p = ([], (l.length : Int), 3) := by
  unfold nm; rw [h]; simp only; rw [if_neg (by simp), if_neg (by omega), if_pos (by omega)]
theorem nm_utf {l : List Int} {p n q i : Int} {N Q : Nat} (h : rd 32 false l p l.length = (n, q, 0)) (hN : n % 4294967296 = N) (hQ : q = Q) (hn : N ≤ 65536) (hs : Q + N ≤ l.length)
    (hu : U ((l.take (Q + N)).drop Q) = (i, false)) : nm l p = ([], Q + i, 21) := by
  unfold nm; rw [h]; simp only; rw [if_neg (by simp), if_neg (by omega), if_neg (by omega), hN, hQ, Int.toNat_natCast, Int.toNat_natCast, hu]; simp
theorem nm_good {l : List Int} {p n q i : Int} {N Q : Nat} (h : rd 32 false l p l.length = (n, q, 0)) (hN : n % 4294967296 = N) (hQ : q = Q) (hn : N ≤ 65536) (hs : Q + N ≤ l.length)
    (hu : U ((l.take (Q + N)).drop Q) = (i, true)) : nm l p = ((l.take (Q + N)).drop Q, ((Q + N : Nat) : Int), 0) := by
  unfold nm; rw [h]; simp only; rw [if_neg (by simp), if_neg (by omega), if_neg (by omega), hN, hQ, Int.toNat_natCast, Int.toNat_natCast, hu]; simp
/- Every name is one of these. -/
theorem nm_cases (l : List Int) (p : Int) :
    (∃ n q e, rd 32 false l p l.length = (n, q, e) ∧ e ≠ 0 ∧ nm l p = ([], q, e)) ∨
    (∃ (n : Int) (N Q : Nat), rd 32 false l p l.length = (n, (Q : Int), 0) ∧ n % 4294967296 = N ∧ 0 ≤ p ∧ p < Q ∧ Q ≤ l.length ∧
      ((65536 < N ∧ N ≤ 4294967295 ∧ nm l p = ([], p, 2)) ∨ (N ≤ 65536 ∧ ¬ Q + N ≤ l.length ∧ nm l p = ([], (l.length : Int), 3)) ∨
       (N ≤ 65536 ∧ Q + N ≤ l.length ∧ ∃ i, (U ((l.take (Q + N)).drop Q) = (i, false) ∧ nm l p = ([], Q + i, 21)) ∨ (U ((l.take (Q + N)).drop Q) = (i, true) ∧ nm l p = ((l.take (Q + N)).drop Q, ((Q + N : Nat) : Int), 0))))) := by
  obtain ⟨n, q, e, h⟩ : ∃ n q e, rd 32 false l p l.length = (n, q, e) := ⟨_, _, _, rfl⟩
  by_cases he : e = 0
  · subst he
    right
    obtain ⟨h1, h2, h3, h4, h5⟩ := rd_ok h
    obtain ⟨Q, rfl⟩ : ∃ Q : Nat, q = Q := ⟨q.toNat, by omega⟩
    obtain ⟨N, hN⟩ : ∃ N : Nat, n % 4294967296 = N := ⟨(n % 4294967296).toNat, by omega⟩
    refine ⟨n, N, Q, h, hN, h1, h2, by omega, ?_⟩
    by_cases hl : 65536 < N
    · exact Or.inl ⟨hl, by omega, nm_long h (by omega)⟩
    · by_cases hs : Q + N ≤ l.length
      · refine Or.inr (Or.inr ⟨by omega, hs, (U ((l.take (Q + N)).drop Q)).1, ?_⟩)
        cases hu : (U ((l.take (Q + N)).drop Q)).2 with
        | false => exact Or.inl ⟨by rw [← hu], nm_utf h hN rfl (by omega) hs (by rw [← hu])⟩
        | true => exact Or.inr ⟨by rw [← hu], nm_good h hN rfl (by omega) hs (i := (U ((l.take (Q + N)).drop Q)).1) (by rw [← hu])⟩
      · exact Or.inr (Or.inl ⟨by omega, hs, nm_short h hN rfl (by omega) hs⟩)
  · exact Or.inl ⟨n, q, e, h, he, nm_rd h he⟩
end Go.Proofs.YtchehejjdinifaaGreatDoor

namespace Go.Proofs.YtchehejjdinifaaGreatDoor
open Go.RowKit
set_option linter.unusedVariables false
set_option linter.unusedSimpArgs false

theorem band_le {x c y : Int} : (decide (x ≤ c) && decide (c ≤ y)) = decide (x ≤ c ∧ c ≤ y) := by simp
set_option maxRecDepth 100000 in
set_option maxHeartbeats 1000000 in
theorem goingOn_any (m : List Int) (x y : Int) (w : World) (hb : Byt m) (hlen : m.length ≤ 140737488351232) :
    Calls Tryz.prog 116 #[.string (strOfNums m), .int .u8 x, .int .u8 y] w fun e w' => e = .returned (.int .i64 (gon m x y)) ∧ w' = w := by
  have hsz := strOfNums_size m
  have hix : ∀ (k : Nat) (w : World), k < m.length → (Instr.index 9 (.string (strOfNums m)) (.int .i64 k)).run Tryz.prog w = .ok (.int .u8 (m.getD k 0)) w := by
    intro k w hk
    rw [run_index_string w 9 _ .i64 k Tryz.underlying9, dif_pos (by omega)]
    have := str_at m hb k (by omega)
    simp only [Int.toNat_natCast]
    rw [this]
  have HX : Hid (∀ (k : Nat) (w : World), k < m.length → (Instr.index 9 (.string (strOfNums m)) (.int .i64 k)).run Tryz.prog w = .ok (.int .u8 (m.getD k 0)) w) := hix
  clear hix hb
  generalize strOfNums m = s at *
  go_enter Tryz.func116, Tryz.ntmps116
  go_wp2
  go_loop [1, 2, 7] (fun X Y n => ∃ (k : Nat) (a b : Int), X = .int .u8 a ∧ Y = .int .u8 b ∧ n = .int .i64 k ∧ k ≤ m.length ∧ gon m x y = k + gon (m.drop k) a b)
    (fun _ _ n => m.length - (intOf n).toNat)
  case atStart => exact ⟨0, x, y, rfl, rfl, rfl, by omega, by simp⟩
  case round =>
    obtain ⟨k, a, b, rfl, rfl, rfl, hk, hg⟩ := hrel
    have HG : Hid (gon m x y = k + gon (m.drop k) a b) := hg
    clear hg
    by_cases hlt : k < m.length
    · obtain ⟨c, hc⟩ : ∃ c, c = m.getD k 0 := ⟨_, rfl⟩
      have hi := fun w => HX.out k w hlt
      rw [← hc] at hi
      have HD : Hid (m.drop k = c :: m.drop (k + 1)) := by
        show m.drop k = _
        rw [List.drop_eq_getElem_cons hlt, hc]; simp [List.getD, hlt]
      clear hc
      by_cases h1 : a ≤ c
      · by_cases h2 : c ≤ b
        · go_wp2
          go_round
          case rel =>
            refine ⟨k + 1, 128, 191, rfl, rfl, by go_num, by omega, ?_⟩
            rw [HG.out, HD.out, gon, if_pos ⟨h1, h2⟩]; omega
          case measure => simp [intOf]; omega
        · have h2' : decide (c ≤ b) = false := by simpa using h2
          go_wp2
          go_ret
          refine ⟨ret_int ?_, rfl⟩
          rw [HG.out, HD.out, gon, if_neg (by omega)]; rfl
      · have h1' : decide (a ≤ c) = false := by simpa using h1
        go_wp2
        go_ret
        refine ⟨ret_int ?_, rfl⟩
        rw [HG.out, HD.out, gon, if_neg (by omega)]; rfl
    · go_wp2
      go_ret
      refine ⟨ret_int ?_, rfl⟩
      rw [HG.out, List.drop_eq_nil_of_le (by omega)]; rfl
set_option maxRecDepth 100000 in
theorem prefix_in (m : List Int) (b : Bool) (w : World) (h : b = decide (m.take 3 = [239, 191, 189])) (hb : Byt m) :
    Calls Tryz.prog 115 #[.string (strOfNums m), .string ⟨#[239, 191, 189]⟩] w fun e w' => e = .returned (.bool b) ∧ w' = w := by
  have hsz := strOfNums_size m
  have hsz3 : (⟨#[239, 191, 189]⟩ : ByteArray).size = 3 := rfl
  by_cases h3 : 3 ≤ m.length
  · have heq : (((strOfNums m).extract 0 3).toList == [239, 191, 189]) = b := by
      rw [str_take, ByteArray.toList_eq, strOfNums_data, h, Bool.eq_iff_iff, beq_iff_eq, decide_eq_true_iff]
      constructor
      · intro h
        apply str_inj (hb.take 3) (Byt.of_mem (by simp))
        apply ByteArray.ext
        apply Array.ext'
        rw [strOfNums_data, h]; rfl
      · intro h; rw [h]; rfl
    clear h hb
    generalize strOfNums m = s at *
    go_enter Tryz.func115, Tryz.ntmps115
    go_wp2
    go_ret
    exact ⟨rfl, rfl⟩
  · have hbf : b = false := by
      rw [h]; simp; intro h'; have := congrArg List.length h'; simp at this; omega
    subst hbf
    clear h hb
    have h3' : ¬ (3 : Int) ≤ m.length := by omega
    have h3'' : decide ((3 : Int) ≤ m.length) = false := by simp; omega
    generalize strOfNums m = s at *
    go_enter Tryz.func115, Tryz.ntmps115
    go_wp2
    go_ret
    exact ⟨rfl, rfl⟩
theorem prefix_any (m : List Int) (b : Bool) (w : World) (h : b = decide (m.take 3 = [239, 191, 189])) (hb : Byt m) :
    Calls Tryz.prog 109 #[.string (strOfNums m), .string ⟨#[239, 191, 189]⟩] w fun e w' => e = .returned (.bool b) ∧ w' = w := by
  have c := prefix_in m b w h hb
  clear h hb
  generalize strOfNums m = s at *
  go_enter Tryz.func109, Tryz.ntmps109
  go_wp2_with fail
  refine c.mono ?_
  rintro e w' ⟨rfl, rfl⟩
  clear c
  go_wp2_with fail
  go_ret
  exact ⟨rfl, rfl⟩
end Go.Proofs.YtchehejjdinifaaGreatDoor
