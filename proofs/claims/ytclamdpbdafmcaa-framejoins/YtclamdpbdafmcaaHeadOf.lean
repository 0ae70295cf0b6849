/-
  The walk of frame.headOf; no statement is proved here.
-/
import Derived.Test.YtclamdpbdafmcaaMem
import Derived.Test.YtclamdpbdafmcaaPutU
import Derived.Test.YtclamdpbdafmcaaWellF
import Derived.Test.YtclamdpbdafmcaaJoinM
import Derived.Lib.AppendStr
import Derived.Deep.RegionLaw
namespace Go.Proofs.Ytclamdpbdafmcaa
open Go.RowKit
set_option linter.unusedVariables false

theorem Has.allc {base : Nat} {w0 w : World} {v : Value} {l : List Int} (h : Has base w0 w v l) (o : Obj) : Has base w0 (w.alloc o) v l := h.grew ((Below.refl _ _).alloc (Nat.le_refl _) _)
theorem Has.drw {base : Nat} {w0 w : World} {v : Value} {l : List Int} (h : Has base w0 w v l) : Has base w0 w.drew v l := h.grew (Below.refl _ _).drew
theorem step_callF {f : Nat} {args : Array Value} {argTs : Array TypeId} {argOs : Array Operand} {R : Ending → World → Prop} {ops : Array Oper} {o : Oper} {a : Act} {w : World} {K : Act → World → Prop} {Q : Exit → Act → World → Prop} {E : Prop}
    (hop : o.op = .call { callee := .value (.func f), args := argOs, argTypes := argTs }) (hw : Region.wanted o (yielded ops a.tmps) = true) (hargs : argOs.map a.eval = args) (hf : (callFunc f args).run Try.prog w = .ok (.enter f args) w)
    (hc : Calls Try.prog f args w R) (h : ∀ e w', R e w' → ∃ v, e = .returned v ∧ K (a.put o.dst v) w') :
    if Region.wanted o (yielded ops a.tmps) = true then Oper.wp Try.prog o a w K Q else E := by
  rw [if_pos hw]
  unfold Oper.wp
  subst hargs
  simp [execOp, hop, resolve, invoke, go_sem, hf, Oper.upon_enter]
  refine hc.mono ?_
  intro e w' he
  obtain ⟨v, rfl, hk⟩ := h e w' he
  exact hk
theorem call56 (n : Int) (w : World) : (callFunc 56 #[.int .u64 n]).run Try.prog w = .ok (.enter 56 #[.int .u64 n]) w := by kernel_rfl
theorem step_putU {ops : Array Oper} {o : Oper} {a : Act} {w : World} {K : Act → World → Prop} {Q : Exit → Act → World → Prop} {E : Prop} (s : Operand) {n : Int}
    (hop : o.op = .call { callee := .value (.func 56), args := #[s], argTypes := #[73] }) (hg : o.guard = none) (hs : a.eval s = .int .u64 n) (h0 : 0 ≤ n) (h1 : n ≤ 18446744073709551615)
    (h : ∀ v w', Has w.heap.size w w' v (PU n) → K (a.put o.dst v) w') :
    if Region.wanted o (yielded ops a.tmps) = true then Oper.wp Try.prog o a w K Q else E := by
  refine step_callF hop (by simp [Region.wanted, hg]) (args := #[.int .u64 n]) (by simp [hs]) (call56 n w) (putU_any n w h0 h1) ?_
  rintro e w' ⟨v, rfl, hh⟩
  exact ⟨_, rfl, h v w' hh⟩
/- An append inside a region that draws. -/
theorem step_app {w0 w : World} {ops : Array Oper} {o : Oper} {a : Act} {K : Act → World → Prop} {Q : Exit → Act → World → Prop} {E : Prop} (hgd : o.guard = none) (s x : Operand)
    (ho : o.op = .call { callee := .builtin .append, args := #[s, x], argTypes := #[22, 22] }) {base : Nat} {v u : Value} {l r : List Int}
    (hs : a.eval s = v) (hx : a.eval x = u) (hh : Has base w0 w v l) (hR : Reads w u r) (hlen : l.length + r.length ≤ 140737488355328) (hne : r ≠ [])
    (h : ∀ v' w', Has base w0 w' v' (l ++ r) → K (a.put o.dst v') w') :
    if Region.wanted o (yielded ops a.tmps) = true then Oper.wp Try.prog o a w K Q else E := by
  have hw : Region.wanted o (yielded ops a.tmps) = true := by simp [Region.wanted, hgd]
  rw [if_pos hw]
  obtain ⟨i0, hi, hz0, hz1, hz2⟩ := info_parts Try.info5
  obtain ⟨hown, hb, hle⟩ := hh
  have main : ∀ (ad : Addr) (c : Nat), u = .slice (some ad) r.length c → (∀ (j : Nat) (z : Value), (U8 r)[j]? = some z → w.cell? (ad.add j) = some z) → Oper.wp Try.prog o a w K Q := by
    intro ad c hu hn
    refine wp_append_own _ s x 22 ho base 5 i0 (.int .u8 0) 1 1 Try.underlying22 hi hz0 hz1 hz2 rfl (by decide) v l.length (U8 l) hs hown ad r.length c (U8 r) (hx.trans hu) (by simp [U8]) hn (by simp [U8, Value.oneCell']) (by unfold maxLen; omega) (by omega) hle ?_
    intro v' w' ho' hg _
    refine h v' w' ⟨?_, hb.grown hg hle (fun k hk => (hown.lt k hk).1), Nat.le_trans hle hg.size⟩
    rw [List.length_append, show U8 (l ++ r) = U8 l ++ U8 r from by simp [U8]]; exact ho'
  obtain ⟨ad, cap, hu, _, _, hn, hr⟩ := hR
  rcases hr with hr | ⟨b, off, rfl, hc⟩
  · exact absurd hr hne
  · refine main _ cap hu (fun j z hz => ?_)
    obtain ⟨hj, hz⟩ := List.getElem?_eq_some_iff.1 hz
    have hj' : j < r.length := by simpa [U8] using hj
    have := hc j hj'
    have e : (Addr.add ⟨b, off, none⟩ j) = ⟨b, off + j, none⟩ := by simp [Addr.add]
    rw [e, this, ← hz]
    simp [U8, List.getD, hj']
theorem lit_has (base : Nat) (w0 w : World) (x : Int) (hb : Below base w0 w) (hle : base ≤ w.heap.size) : Has base w0 (w.alloc (.cells #[.int .u8 x] 5)) (.slice (some ⟨w.heap.size, 0, none⟩) 1 1) [x] :=
  ⟨World.ownsRow_lit w #[.int .u8 x] 1 hle (by decide) rfl, hb.alloc hle _, by simp; omega⟩
theorem putU_ne (f : Nat) (n : Int) : putU f n ≠ [] := by
  cases f with
  | zero => simp [putU]
  | succ f => simp only [putU]; split <;> simp
theorem PU_ne (n : Int) : PU n ≠ [] := putU_ne 10 n
set_option maxRecDepth 100000 in
set_option maxHeartbeats 4000000 in
theorem headOf_plain (id : Int) (nm : ByteArray) (v : Value) (d : List Int) (p : Int) (w : World) (hR : Reads w v d) (hid : id ≠ 0) (h0 : 0 ≤ id) (h13 : id ≤ 13) (hlen : d.length ≤ 140737488351232) :
    Calls Try.prog 46 #[.agg #[.int .i64 id, .string nm, v, .int .i64 p]] w fun en w' => ∃ v', en = .returned v' ∧ Has w.heap.size w w' v' (id :: (PU (0 + d.length : Nat) ++ [])) := by
  have hb : (id == 0) = false := beq_eq_false_iff_ne.2 hid
  obtain ⟨a, c, rfl⟩ := hR.len
  have HR : Hid (Reads w (.slice a d.length c) d) := hR
  have hidm : id % 256 = id := by omega
  clear hR hid
  have hpl := PU_len ((d.length : Nat) : Int)
  have hpn := PU_ne ((d.length : Nat) : Int)
  have HPN : Hid (PU ((d.length : Nat) : Int) ≠ []) := hpn
  rw [Nat.zero_add, List.append_nil]
  have B0 : Hid (Below w.heap.size w (w.alloc (.cells #[.int .i64 id, .string nm, .slice a d.length c, .int .i64 p] 45))) := (Below.refl _ _).alloc (Nat.le_refl _) _
  have S0 : Hid (w.heap.size ≤ (w.alloc (.cells #[.int .i64 id, .string nm, .slice a d.length c, .int .i64 p] 45)).heap.size) := by show _ ≤ _; simp
  have hw1 : IntKind.i64.wrap ((d.length : Nat) : Int) = d.length := by rw [IntKind.wrap_i64]; omega
  have hw2 : IntKind.u64.wrap ((d.length : Nat) : Int) = d.length := by rw [IntKind.wrap_u64]; omega
  have hw3 : IntKind.u8.wrap id = id := by rw [IntKind.wrap_u8]; omega
  clear hpn
  go_enter Try.func46, Try.ntmps46
  go_wp2_with fail
  go_region_law (first
    | (refine step_putU (.tmp 21) rfl rfl rfl (by omega) (by omega) ?_
       intro v3 w3 h3
       have R3 : Hid (Reads w3 v3 (PU ((d.length : Nat) : Int))) := h3.reads
       have q0 : w3.cell? ⟨w.heap.size, 0, none⟩ = some (.int .i64 id) := (h3.below.cell (by first | (simp; done) | (simp; omega))).trans (by simp)
       have G3 : Hid (Below w.heap.size w w3 ∧ w.heap.size ≤ w3.heap.size) := (by first | exact ⟨B0.out.drew.trans (h3.below.mono S0.out), Nat.le_trans S0.out h3.2.2⟩ | exact ⟨((B0.out.alloc S0.out _).drew).trans (h3.below.mono (by simp; omega)), Nat.le_trans (by simp; omega) h3.2.2⟩)
       try (have L3 : Hid (Has w.heap.size w w3 (.slice (some ⟨w.heap.size + 1, 0, none⟩) 1 1) [id]) := (by have hq := (lit_has w.heap.size w _ id B0.out S0.out).drw.grew h3.below; simp only [World.size_alloc] at hq; exact hq)))
    | (refine step_app (r := PU ((d.length : Nat) : Int)) (l := [id]) rfl (.tmp 14) (.tmp 22) rfl rfl rfl (by first | exact L3.out | exact lit_has w.heap.size w _ id G3.out.1 G3.out.2) (by first | exact R3.out | exact ((Grew.refl _).alloc _).reads R3.out) (by simp; omega) HPN.out ?_; intro v4 w4 h4))
  all_goals
    go_wp2_with (at_builtin; refine wp_appS rfl _ _ rfl rfl rfl h4 (reads_nil _) (by simp; omega) ?_; intro v5 w5 h5)
    go_ret
    exact ⟨_, rfl, by simpa using h5⟩
end Go.Proofs.Ytclamdpbdafmcaa
