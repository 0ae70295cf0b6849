/-
  The document's PutTag; no statement is proved here.
-/
import Derived.Test.YtchehejjdinifaaGreatDoorWr5
import Derived.Deep.RegionLaw
import Derived.Test.YtchehejjdinifaaGreatDoorTopV
import Derived.Test.YtchehejjdinifaaGreatDoorE8l
import Derived.Test.YtchehejjdinifaaGreatDoorWrT
import Derived.ArgAppend
namespace Go.Proofs.YtchehejjdinifaaGreatDoor
open Go.RowKit
set_option linter.unusedVariables false
set_option linter.unusedSimpArgs false
set_option linter.constructorNameAsVariable false

def StE (st : Except Nat (List Int)) (l : List Int) (e : Int) : Prop := match st with
  | .ok m => l = m ∧ e = 0
  | .error k => e = (k : Int) ∧ k ≠ 0
def needW (ok : Bool) (k : Nat) : Except Nat (List Int) := if ok = true then .ok [] else .error k
theorem WT.setb {b B : Nat} (w : World) (j : Nat) (u : Value) : WT b B w (w.setCell ⟨b, j, none⟩ u) := by
  have t := (Turn.refl [b] w).set (p := ⟨b, j, none⟩) (Or.inl (by simp)) u
  exact ⟨t.os, t.tape, t.output, t.size, fun k hk h1 _ => t.block k hk (by simpa using h1)⟩
theorem StE.next {st : Except Nat (List Int)} {l : List Int} {e : Int} (h : StE st l e) (r : List Int) : StE (thenW st (.ok r)) (l ++ r) e := by
  cases st with
  | ok m => obtain ⟨rfl, rfl⟩ := h; exact ⟨rfl, rfl⟩
  | error k => exact h
theorem StE.nil {st : Except Nat (List Int)} {l : List Int} {e : Int} {k : Nat} (h : StE st l e) : StE (thenW st (needW true k)) l e := by
  have : thenW st (needW true k) = st := thenW_nil st
  rw [this]; exact h
/- An append inside a region that draws. -/
theorem step_appG {w0 w : World} {ops : Array Oper} {o : Oper} {a : Act} {K : Act → World → Prop} {Q : Exit → Act → World → Prop} {E : Prop} (hgd : o.guard = none) (s x : Operand)
    (ho : o.op = .call { callee := .builtin .append, args := #[s, x], argTypes := #[38, 38] }) {B : Nat} {v u : Value} {l r : List Int}
    (hs : a.eval s = v) (hx : a.eval x = u) (g : Grew w0 w) (hown : w0.ownsRow B 5 1 v l.length (U8 l)) (hle : B ≤ w0.heap.size) (hR : Reads w u r) (hr0 : r ≠ []) (hlen : l.length + r.length ≤ 140737488355328)
    (h : ∀ v' w', w'.ownsRow B 5 1 v' (l ++ r).length (U8 (l ++ r)) → w.grownBy w' v.ownBlock → K (a.put o.dst v') w') :
    if Region.wanted o (yielded ops a.tmps) = true then Oper.wp Tryz.prog o a w K Q else E := by
  have hw : Region.wanted o (yielded ops a.tmps) = true := by simp [Region.wanted, hgd]
  rw [if_pos hw]
  obtain ⟨i0, hi, hz0, hz1, hz2⟩ := info_parts infoB
  have hown' : w.ownsRow B 5 1 v l.length (U8 l) := row_turn hown (g.turn []) (by simp)
  obtain ⟨ad, cap, hu, _, _, hn, hr⟩ := hR
  rcases hr with rfl | ⟨b, off, rfl, hc⟩
  · exact absurd rfl hr0
  · refine wp_append_own _ s x 38 ho B 5 i0 (.int .u8 0) 1 1 Tryz.underlying38 hi hz0 hz1 hz2 rfl (by decide) v l.length (U8 l) hs hown' _ r.length cap (U8 r) (hx.trans hu) (by simp [U8]) ?_ (by simp [U8, Value.oneCell']) (by unfold maxLen; omega) (by omega) (Nat.le_trans hle g.2) ?_
    · intro j z hz
      obtain ⟨hj, hz⟩ := List.getElem?_eq_some_iff.1 hz
      have hj' : j < r.length := by simpa [U8] using hj
      have := hc j hj'
      have e : (Addr.add ⟨b, off, none⟩ j) = ⟨b, off + j, none⟩ := by simp [Addr.add]
      rw [e, this, ← hz]
      simp [U8, List.getD, hj']
    · intro v' w' ho' hg' _
      refine h v' w' ?_ hg'
      rw [List.length_append, show U8 (l ++ r) = U8 l ++ U8 r from by simp [U8]]; exact ho'
theorem step_callD {f : Nat} {args : Array Value} {argTs : Array TypeId} {argOs : Array Operand} {R : Ending → World → Prop} {ops : Array Oper} {o : Oper} {a : Act} {w : World} {K : Act → World → Prop} {Q : Exit → Act → World → Prop} {E : Prop}
    (hop : o.op = .call { callee := .value (.func f), args := argOs, argTypes := argTs }) (hw : Region.wanted o (yielded ops a.tmps) = true) (hargs : argOs.map a.eval = args) (hf : (callFunc f args).run Tryz.prog w = .ok (.enter f args) w)
    (hc : Calls Tryz.prog f args w R) (h : ∀ e w', R e w' → (∃ u, e = .returned u ∧ K (a.put o.dst u) w') ∨ ∃ ch, e = .panicked ch ∧ Q (.panic ch) a w') :
    if Region.wanted o (yielded ops a.tmps) = true then Oper.wp Tryz.prog o a w K Q else E := by
  rw [if_pos hw]
  unfold Oper.wp
  subst hargs
  simp [execOp, hop, resolve, invoke, go_sem, hf, Oper.upon_enter]
  refine hc.mono ?_
  intro e w' he
  rcases h e w' he with ⟨u, rfl, hk⟩ | ⟨ch, rfl, hk⟩
  · exact hk
  · exact hk
theorem Has.gr {w w' : World} {v : Value} {l : List Int} (h : Has w.heap.size w w' v l) : Grew w w' := ⟨h.2.1, h.2.2⟩
end Go.Proofs.YtchehejjdinifaaGreatDoor

namespace Go.Proofs.YtchehejjdinifaaGreatDoor
open Go.RowKit
set_option linter.unusedVariables false
set_option linter.unusedSimpArgs false
set_option linter.constructorNameAsVariable false

def runR {α : Type} (R : Nat → RS α) : Except (Nat × Nat) Nat → RS α
  | .ok p => R p
  | .error e => .error e
def failS (st : Except (Nat × Nat) Nat) (pl e : Nat) : Except (Nat × Nat) Nat := match st with
  | .ok _ => .error (pl, e)
  | .error x => .error x
def Ahead (l : List Int) (st : Except (Nat × Nat) Nat) : Prop := ∃ p, st = .ok p ∧ p < l.length
/- The heap type of a byte; 0: it is none. -/
def absH (c : Int) : Int := if (mean c).1 = 4 then (mean c).2 else 0
theorem absH_no : ∀ c : _root_.Fin 256, ((c.1 : Int) ≠ 115 ∧ (c.1 : Int) ≠ 114 ∧ (c.1 : Int) ≠ 113 ∧ (c.1 : Int) ≠ 112 ∧ (c.1 : Int) ≠ 111 ∧ (c.1 : Int) ≠ 110 ∧ (c.1 : Int) ≠ 109 ∧ (c.1 : Int) ≠ 108 ∧ (c.1 : Int) ≠ 107 ∧ (c.1 : Int) ≠ 106 ∧ (c.1 : Int) ≠ 105 ∧ (c.1 : Int) ≠ 116) → absH (c.1 : Int) = 0 := by decide +kernel
end Go.Proofs.YtchehejjdinifaaGreatDoor

namespace Go.Proofs.YtchehejjdinifaaGreatDoor
open Go.RowKit
set_option linter.unusedVariables false
set_option linter.unusedSimpArgs false
set_option linter.constructorNameAsVariable false

theorem thenW_err (a b : Except Nat (List Int)) (k : Nat) : thenW (thenW a (.error k)) b = thenW a (.error k) := by
  cases a <;> rfl
theorem thenW_okk (a : Except Nat (List Int)) (r s : List Int) : thenW (thenW a (.ok r)) (.ok s) = thenW a (.ok (r ++ s)) := by
  cases a with
  | ok m => simp [thenW]
  | error e => rfl
theorem thenW_no (a b : Except Nat (List Int)) (k : Nat) : thenW (thenW a (needW false k)) b = thenW a (.error k) := thenW_err a b k
theorem thenW_yes (a : Except Nat (List Int)) (k : Nat) : thenW a (needW true k) = a := thenW_nil a
end Go.Proofs.YtchehejjdinifaaGreatDoor

namespace Go.Proofs.YtchehejjdinifaaGreatDoor
open Go.RowKit
set_option linter.unusedVariables false
set_option linter.unusedSimpArgs false
set_option linter.constructorNameAsVariable false

def codeD (h : Int) : Int := (codeW 4 h).getD 0
theorem codeD_hit : ∀ i : _root_.Fin 12, codeD (absH (105 + (i.val : Int))) = 105 + (i.val : Int) := by decide +kernel
theorem codeD_all : ∀ k : _root_.Fin 12, (∃ i : _root_.Fin 12, absH (105 + (i.val : Int)) = -1 - (k.val : Int)) ∧ codeW 4 (-1 - (k.val : Int)) = some (codeD (-1 - (k.val : Int))) := by decide +kernel
theorem findW_none {k n : Int} : ∀ (l : List (Int × Int × Int)), (∀ x ∈ l, ¬ (x.2.1 = k ∧ x.2.2 = n)) → findW k n l = none
  | [], _ => rfl
  | x :: l, h => by
    rw [findW, if_neg (h x (List.mem_cons_self ..))]
    exact findW_none l (fun y hy => h y (List.mem_cons_of_mem _ hy))
theorem four_in : ∀ x ∈ codeL, x.2.1 = 4 → -12 ≤ x.2.2 ∧ x.2.2 < 0 := by decide +kernel
theorem codeW_out {h : Int} (hh : h < -12 ∨ 0 ≤ h) : codeW 4 h = none := by
  unfold codeW
  refine findW_none codeL (fun x hx hc => ?_)
  have := four_in x hx hc.1
  omega
theorem codeD_in {h : Int} (h0 : -12 ≤ h) (h1 : h < 0) : codeW 4 h = some (codeD h) ∧ ∃ i : _root_.Fin 12, absH (105 + (i.val : Int)) = h := by
  obtain ⟨⟨i, hi⟩, h2⟩ := codeD_all ⟨(-1 - h).toNat, by omega⟩
  have e : (-1 - (((-1 - h).toNat : Nat) : Int)) = h := by omega
  simp only [e] at hi h2
  exact ⟨h2, i, hi⟩
end Go.Proofs.YtchehejjdinifaaGreatDoor

namespace Go.Proofs.YtchehejjdinifaaGreatDoor
open Go.RowKit
set_option linter.unusedVariables false
set_option linter.unusedSimpArgs false
set_option linter.constructorNameAsVariable false

def svW (fld : Bool) (t : VT) : Except Nat (List Int) := if fld = true then storW t else valW t
theorem sv_eq {st : Except Nat (List Int)} {fld : Bool} {t : VT} {c : Int} {ok : Bool} (h1 : ok = true → svW fld t = .ok [c]) (h2 : ok = false → svW fld t = .error 4) : thenW (thenW st (needW ok 4)) (.ok [c]) = thenW st (svW fld t) := by
  cases ok with
  | true => rw [thenW_yes, h1 rfl]
  | false => rw [thenW_no, h2 rfl]
theorem code1_in : ∀ k : _root_.Fin 4, codeW 1 (1 + (k.val : Int)) = some (127 - (k.val : Int)) := by decide +kernel
theorem one_in : ∀ x ∈ codeL, x.2.1 = 1 → 1 ≤ x.2.2 ∧ x.2.2 ≤ 4 := by decide +kernel
theorem codeW1_in {n : Int} (h0 : 1 ≤ n) (h1 : n ≤ 4) : codeW 1 n = some (128 - n) := by
  have := code1_in ⟨(n - 1).toNat, by omega⟩
  have e : 1 + (((n - 1).toNat : Nat) : Int) = n := by omega
  simp only [e] at this
  rw [this]
  congr 1
  omega
theorem codeW1_out {n : Int} (h : n < 1 ∨ 4 < n) : codeW 1 n = none := by
  unfold codeW
  refine findW_none codeL (fun x hx hc => ?_)
  have := one_in x hx hc.1
  omega
theorem codeW36 : codeW 3 6 = some 120 := by decide +kernel
theorem codeW37 : codeW 3 7 = some 119 := by decide +kernel
theorem val_of {fld : Bool} {n hp : Int} {nul : Bool} (h5 : n ≠ 5) (h6 : n ≠ 6) (h7 : n ≠ 7) : svW fld ⟨n, nul, hp⟩ = plainW 1 ⟨n, nul, hp⟩ := by
  have e : valW ⟨n, nul, hp⟩ = plainW 1 ⟨n, nul, hp⟩ := by unfold valW; rw [if_neg h5]
  unfold svW
  cases fld with
  | true => rw [if_pos rfl]; unfold storW; rw [if_neg (by simp only; omega), e]
  | false => rw [if_neg (by simp), e]
theorem plain_bad {k n hp : Int} {nul : Bool} (h : nul = true ∨ hp ≠ 0) : plainW k ⟨n, nul, hp⟩ = .error 4 := by
  unfold plainW
  rw [if_neg]
  rintro ⟨h1, h2⟩
  simp only at h1 h2
  rcases h with h | h
  · rw [h1] at h; cases h
  · exact h h2
theorem plain_good {k n : Int} : plainW k ⟨n, false, 0⟩ = codeR k n := by unfold plainW; rw [if_pos ⟨rfl, rfl⟩]
end Go.Proofs.YtchehejjdinifaaGreatDoor

namespace Go.Proofs.YtchehejjdinifaaGreatDoor
open Go.RowKit
set_option linter.unusedVariables false
set_option linter.unusedSimpArgs false
set_option linter.constructorNameAsVariable false

theorem wt_grown {b B : Nat} {w w1 : World} {o : Value} {l : List Int} (hr : w.ownsRow B 5 1 o l.length (U8 l)) (hg1 : w.grownBy w1 o.ownBlock) : WT b B w w1 :=
  ⟨hg1.os, hg1.tape, hg1.output, hg1.size, fun k hk _ h2 => hg1.block k hk (fun hh => by
      rcases h2 with h2 | h2
      · have := (World.ownsRow.lt hr k hh.symm).1; omega
      · obtain ⟨_, ⟨e, _⟩ | ⟨g, cap, cur, e, _, hgg, _⟩⟩ := hr
        · rw [e] at hh; cases hh
        · rw [e] at hh
          have : k = g := by simpa [Value.ownBlock] using hh
          subst this
          exact h2 _ _ hgg)⟩
theorem sv_ref {fld : Bool} {nul : Bool} {hp : Int} : svW fld ⟨5, nul, hp⟩ = thenW (if nul = false then .ok [100] else if 0 ≤ hp then .ok [99] else .ok []) (heapW hp) := by
  have e : valW ⟨5, nul, hp⟩ = thenW (if nul = false then .ok [100] else if 0 ≤ hp then .ok [99] else .ok []) (heapW hp) := by
    unfold valW refW
    rw [if_pos rfl, if_pos rfl, code_50, code_51]
  unfold svW
  cases fld with
  | true => rw [if_pos rfl]; unfold storW; rw [if_neg (by simp), e]
  | false => rw [if_neg (by simp), e]
def okV (t : VT) : Prop := -9223372036854775808 ≤ t.heap ∧ t.heap ≤ 9223372036854775807
end Go.Proofs.YtchehejjdinifaaGreatDoor

namespace Go.Proofs.YtchehejjdinifaaGreatDoor
open Go.RowKit
set_option linter.unusedVariables false
set_option linter.unusedSimpArgs false
set_option linter.constructorNameAsVariable false

theorem list_eq {α : Type} (st : Except Nat (List Int)) (lim : Nat) (wr : α → Except Nat (List Int)) (xs : List α) :
    thenW (thenW (thenW st (needW (decide (xs.length ≤ lim)) 2)) (.ok (PU xs.length))) (manyW wr xs) = thenW st (listW lim wr xs) := by
  unfold listW
  by_cases h : xs.length ≤ lim
  · rw [decide_eq_true h, if_neg (by omega), thenW_yes, thenW_assoc]
  · rw [decide_eq_false h, if_pos (by omega), thenW_no, thenW_err]
theorem many_next {α : Type} {wr : α → Except Nat (List Int)} {xs : List α} {i : Nat} {x : α} (hx : xs[i]? = some x) (st : Except Nat (List Int)) : thenW st (manyW wr (xs.drop i)) = thenW (thenW st (wr x)) (manyW wr (xs.drop (i + 1))) := by
  have hd : xs.drop i = x :: xs.drop (i + 1) := by
    obtain ⟨h, e⟩ := List.getElem?_eq_some_iff.1 hx
    rw [← e]; exact List.drop_eq_getElem_cons h
  rw [hd, manyW, thenW_assoc]
theorem many_last {α : Type} {wr : α → Except Nat (List Int)} {xs : List α} {i : Nat} (hi : xs.length ≤ i) (st : Except Nat (List Int)) : thenW st (manyW wr (xs.drop i)) = st := by
  rw [List.drop_eq_nil_of_le hi, manyW, thenW_nil]
def okC (c : CT) : Prop := (∀ x ∈ c.params, okV x) ∧ (∀ x ∈ c.results, okV x) ∧ (∀ x ∈ c.fields, okV x.ty)
def szC (c : CT) : Nat := 40 + 12 * c.params.length + 12 * c.results.length + 13 * c.fields.length
end Go.Proofs.YtchehejjdinifaaGreatDoor

namespace Go.Proofs.YtchehejjdinifaaGreatDoor
open Go.RowKit
set_option linter.unusedVariables false
set_option linter.unusedSimpArgs false
set_option linter.constructorNameAsVariable false

def okS (x : SB) : Prop := (∀ n ∈ x.supers, -9223372036854775808 ≤ n ∧ n ≤ 9223372036854775807) ∧ okC x.comp
def szS (x : SB) : Nat := 20 + 11 * x.supers.length + szC x.comp
end Go.Proofs.YtchehejjdinifaaGreatDoor

namespace Go.Proofs.YtchehejjdinifaaGreatDoor
open Go.RowKit
set_option linter.unusedVariables false
set_option linter.unusedSimpArgs false
set_option linter.constructorNameAsVariable false

def limW (wide : Bool) (mn mx : Int) (hm : Bool) : Except Nat (List Int) := if (hm = true ∨ mx = 0) ∧ (wide = true ∨ (mn ≤ 4294967295 ∧ mx ≤ 4294967295)) then .ok ((if wide then (if hm then 5 else 4) else (if hm then 1 else 0)) :: (PU mn ++ (if hm then PU mx else []))) else .error 4
end Go.Proofs.YtchehejjdinifaaGreatDoor

namespace Go.Proofs.YtchehejjdinifaaGreatDoor
open Go.RowKit
set_option linter.unusedVariables false
set_option linter.unusedSimpArgs false
set_option linter.constructorNameAsVariable false

theorem thenW_l (r : Except Nat (List Int)) : thenW (.ok []) r = r := by
  cases r <;> simp [thenW]
end Go.Proofs.YtchehejjdinifaaGreatDoor

namespace Go.Proofs.YtchehejjdinifaaGreatDoor
open Go.RowKit
set_option linter.unusedVariables false
set_option linter.unusedSimpArgs false
set_option linter.constructorNameAsVariable false

def szT : List SB → Nat
  | [] => 0
  | x :: l => szS x + szT l
theorem szT_step : ∀ {ts : List SB} {i : Nat} {x : SB}, ts[i]? = some x → szT (ts.take (i + 1)) = szT (ts.take i) + szS x
  | [], i, x, h => by simp at h
  | y :: l, 0, x, h => by
    simp at h
    subst h
    simp [szT]
  | y :: l, i + 1, x, h => by
    simp only [List.getElem?_cons_succ] at h
    rw [List.take_succ_cons, List.take_succ_cons, szT, szT, szT_step h]
    omega
theorem szT_le : ∀ (ts : List SB) (i : Nat), szT (ts.take i) ≤ szT ts
  | [], i => by simp [szT]
  | y :: l, 0 => by simp [szT]
  | y :: l, i + 1 => by
    rw [List.take_succ_cons, szT, szT]
    have := szT_le l i
    omega
end Go.Proofs.YtchehejjdinifaaGreatDoor

namespace Go.Proofs.YtchehejjdinifaaGreatDoor
open Go.RowKit
set_option linter.unusedVariables false
set_option linter.unusedSimpArgs false
set_option linter.constructorNameAsVariable false

def noneB (v : VT) : Bool := v.num == 0 && (v.null == false && v.heap == 0)
def blkW (t : Int) (v : VT) : Except Nat (List Int) := if t = -1 then (if noneB v = true then .ok [64] else valW v) else if noneB v = true then sidxW t else .error 4
theorem need_st (ok : Bool) : thenW (.ok []) (needW ok 4) = .ok [] ∨ ∃ k, thenW (.ok []) (needW ok 4) = .error k := by
  cases ok
  · exact Or.inr ⟨4, rfl⟩
  · exact Or.inl rfl
end Go.Proofs.YtchehejjdinifaaGreatDoor

namespace Go.Proofs.YtchehejjdinifaaGreatDoor
open Go.RowKit
set_option linter.unusedVariables false
set_option linter.unusedSimpArgs false
set_option linter.constructorNameAsVariable false

def tagW (n : Int) : Except Nat (List Int) := thenW (.ok [0]) (uidxW n)
/- An append to a row of one byte that has no room: a new row. -/
theorem step_appT {w : World} {ops : Array Oper} {o : Oper} {a : Act} {K : Act → World → Prop} {Q : Exit → Act → World → Prop} {E : Prop} (hgd : o.guard = none) (s x : Operand)
    (ho : o.op = .call { callee := .builtin .append, args := #[s, x], argTypes := #[38, 38] }) {r : Nat} {u : Value} {P : List Int}
    (hs : a.eval s = .slice (some ⟨r, 0, none⟩) 1 1) (hx : a.eval x = u) (hc : w.cell? ⟨r, 0, none⟩ = some (.int .u8 0)) (hR : Reads w u P) (hP0 : P ≠ []) (hP : P.length ≤ 1000)
    (h : ∀ v' w', w'.ownsRow w.heap.size 5 1 v' (0 :: P).length (U8 (0 :: P)) → w.grownBy w' none → K (a.put o.dst v') w') :
    if Region.wanted o (yielded ops a.tmps) = true then Oper.wp Tryz.prog o a w K Q else E := by
  have hw : Region.wanted o (yielded ops a.tmps) = true := by simp [Region.wanted, hgd]
  rw [if_pos hw]
  obtain ⟨i0, hi, hz0, hz1, hz2⟩ := info_parts infoB
  obtain ⟨ad, cap, hu, _, _, hn, hr⟩ := hR
  rcases hr with rfl | ⟨b, off, rfl, hcl⟩
  · exact absurd rfl hP0
  · have hl : 0 < P.length := List.length_pos_iff.2 hP0
    obtain ⟨v', w', hr, h2, h3⟩ := run_append_arg_grows (P := Tryz.prog) w 38 o.type 5 i0 (.int .u8 0) 1 1 Tryz.underlying38 hi hz0 hz1 hz2 rfl (by decide) ⟨r, 0, none⟩ 1 1 [.int .u8 0] rfl (fun j z hz => by
        match j, hz with
        | 0, hz => simp at hz; subst hz; simpa [Addr.add] using hc) ⟨b, off, none⟩ P.length cap (U8 P) (by simp [U8]) (fun j z hz => by
        obtain ⟨hj, hz⟩ := List.getElem?_eq_some_iff.1 hz
        have hj' : j < P.length := by simpa [U8] using hj
        have := hcl j hj'
        have e : (Addr.add ⟨b, off, none⟩ j) = ⟨b, off + j, none⟩ := by simp [Addr.add]
        rw [e, this, ← hz]
        simp [U8, List.getD, hj']) (by omega) (by unfold maxLen; omega) (by omega)
    unfold Oper.wp execOp
    have hx' : a.eval x = .slice (some ⟨b, off, none⟩) P.length cap := hx.trans hu
    simp only [ho, resolve, invoke, builtin, Sem.run_bind, Sem.run_pure, Result.andThen_ok, List.map_toArray, List.map_cons, List.map_nil, hs, hx', hr]
    refine h v' w' ?_ h3
    have e : (0 :: P).length = 1 + P.length := by simp [Nat.add_comm]
    rw [e]
    exact h2
end Go.Proofs.YtchehejjdinifaaGreatDoor
