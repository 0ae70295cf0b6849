/-
  The walk of the cursor that reads a name; no statement is proved here.
-/
import Derived.Test.YtemaeigfhmnapaaGreatDoorCurM
import Derived.Test.YtemaeigfhmnapaaGreatDoorCkW
namespace Go.Proofs.YtemaeigfhmnapaaGreatDoor
open Go.RowKit
set_option linter.unusedVariables false
set_option linter.unusedSimpArgs false
set_option linter.constructorNameAsVariable false

/- A name read by the cursor. -/
def nameR (l : List Int) (p : Nat) : RS (List Int) := if (nm l p).2.2 = 0 then .ok ((nm l p).1, (nm l p).2.1.toNat) else .error ((nm l p).2.1.toNat, (nm l p).2.2.toNat)
theorem rd_bd {l : List Int} {p : Nat} {n q e : Int} (hp : p ≤ l.length) (h : rd 32 false l p l.length = (n, q, e)) (he : e ≠ 0) : 0 ≤ q ∧ q ≤ l.length ∧ 0 ≤ e ∧ e ≤ 21 := by
  rcases numR_ways (b := 32) (sg := false) hp with ⟨n', q', hr, h1, h2, h3⟩ | ⟨n', f, e', hr, h1, h2, h3, h4⟩
  · rw [hr] at h; simp only [Prod.mk.injEq] at h; omega
  · rw [hr] at h; simp only [Prod.mk.injEq] at h; omega
theorem nm_bd {l : List Int} {p : Nat} (hp : p ≤ l.length) : 0 ≤ (nm l p).2.1 ∧ (nm l p).2.1 ≤ l.length + 4 ∧ 0 ≤ (nm l p).2.2 ∧ (nm l p).2.2 ≤ 21 ∧ ((nm l p).2.2 = 0 → (p : Int) < (nm l p).2.1 ∧ (nm l p).2.1 ≤ l.length) := by
  rcases nm_cases l p with ⟨n, q, e, h1, he, h2⟩ | ⟨n, N, Q, h1, hN, hp0, hpq, hQ, ⟨hN1, hN2, h2⟩ | ⟨hN', hs, h2⟩ | ⟨hN', hs, i, ⟨hu, h2⟩ | ⟨hu, h2⟩⟩⟩
  · have := rd_bd hp h1 he; rw [h2]; simp only; omega
  · rw [h2]; simp only; omega
  · rw [h2]; simp only; omega
  · rw [h2]
    have hbd := U_bd ((l.take (Q + N)).drop Q)
    rw [hu] at hbd
    have hl : ((l.take (Q + N)).drop Q).length = N := by simp; omega
    rw [hl] at hbd
    simp only at hbd ⊢; omega
  · rw [h2]; simp only; omega
set_option maxRecDepth 100000 in
set_option maxHeartbeats 1000000 in
theorem name_any {w : World} {b : Nat} {v : Value} {l : List Int} {p : Nat} (h : CU w b v l p) :
    Calls Tryz.prog 57 #[.pointer (some ⟨b, 0, none⟩)] w (Ans (fun s => .string (strOfNums s)) b v l w (nameR l p)) := by
  have H : Hid (CU w b v l p) := h
  have hb : b < w.heap.size := h.lt
  have hl := h.len
  have hle := h.le
  have hbd := nm_bd h.le
  have c0 := h.c0
  have c1 := h.c1
  have C : Hid (∀ w', Grew w w' → Calls Tryz.prog 74 #[v, .int .i64 p] w' fun en w'' => en = .returned (.tuple #[.string (strOfNums (nm l p).1), .int .i64 (nm l p).2.1, .int .i64 (nm l p).2.2]) ∧ Grew w' w'') := fun w' g => Name_any v l p w' (g.reads h.rd) h.byt h.len
  clear h
  unfold nameR
  generalize nm l p = X at *
  obtain ⟨t, q, e⟩ := X
  simp only at hbd C ⊢
  obtain ⟨b1, b2, b3, b4, b5⟩ := hbd
  by_cases he : e = 0
  · subst he
    rw [if_pos rfl]
    have b5' := b5 rfl
    obtain ⟨k, rfl⟩ : ∃ k : Nat, q = k := ⟨q.toNat, by omega⟩
    rw [Int.toNat_natCast]
    clear b5
    obtain ⟨st, hst⟩ : ∃ st, strOfNums t = st := ⟨_, rfl⟩
    rw [hst] at C
    have HST : Hid (strOfNums t = st) := hst
    clear hst
    go_enter Tryz.func57, Tryz.ntmps57
    go_wp2_with fail
    refine wp_region_ck [(b, 0, v), (b, 1, .int .i64 p)] (by kernel_rfl) (by kernel_rfl) ⟨⟨hb, c0⟩, ⟨hb, c1⟩, trivial⟩ ?_
    repeat (first
      | go_big_quiet_skip
      | (go_big_quiet_want
         go_big_quiet_op
         first
         | go_big_quiet_on
         | (refine ⟨_, fun _ _ => rfl, ?_⟩; go_big_quiet_on)
         | (refine ⟨v, fun w' hw' => ?_, ?_⟩
            · (obtain ⟨_, ⟨_, hc0⟩, ⟨_, hc1⟩, _⟩ := hw'; go_simp; done)
            go_big_quiet_on)
         | (refine ⟨.int .i64 p, fun w' hw' => ?_, ?_⟩
            · (obtain ⟨_, ⟨_, hc0⟩, ⟨_, hc1⟩, _⟩ := hw'; go_simp; done)
            go_big_quiet_on)
         | (apply Exists.intro
            refine ⟨fun w' hw' => ?_, ?_⟩
            · (first
               | exact hw'.call (C.out _ hw'.1))
            go_big_quiet_on)))
    refine wpQuiet_nil ?_
    rintro w1 ⟨g1, _⟩
    have T1 : Hid (Turn [b] w w1) := g1.turn _
    have U1 : Hid (CU w1 b v l p) := H.out.grew g1
    have z1 := U1.out.z1
    have e1 := U1.out.c1
    clear g1 C c0 c1
    go_wp2_with fail
    go_ret
    refine ⟨?_, T1.out.set (Or.inl (by simp)) _, U1.out.set1 (by omega)⟩
    show _ = Ending.returned (.string (strOfNums t))
    rw [HST.out]
    rfl
  · rw [if_neg he]
    have he' : (e != 0) = true := by simpa using he
    obtain ⟨st, hst⟩ : ∃ st, strOfNums t = st := ⟨_, rfl⟩
    rw [hst] at C
    have HST : Hid (strOfNums t = st) := hst
    clear hst
    clear b5
    go_enter Tryz.func57, Tryz.ntmps57
    go_wp2_with fail
    refine wp_region_ck [(b, 0, v), (b, 1, .int .i64 p)] (by kernel_rfl) (by kernel_rfl) ⟨⟨hb, c0⟩, ⟨hb, c1⟩, trivial⟩ ?_
    repeat (first
      | go_big_quiet_skip
      | (go_big_quiet_want
         go_big_quiet_op
         first
         | go_big_quiet_on
         | (refine ⟨_, fun _ _ => rfl, ?_⟩; go_big_quiet_on)
         | (refine ⟨v, fun w' hw' => ?_, ?_⟩
            · (obtain ⟨_, ⟨_, hc0⟩, ⟨_, hc1⟩, _⟩ := hw'; go_simp; done)
            go_big_quiet_on)
         | (refine ⟨.int .i64 p, fun w' hw' => ?_, ?_⟩
            · (obtain ⟨_, ⟨_, hc0⟩, ⟨_, hc1⟩, _⟩ := hw'; go_simp; done)
            go_big_quiet_on)
         | (apply Exists.intro
            refine ⟨fun w' hw' => ?_, ?_⟩
            · (first
               | exact hw'.call (C.out _ hw'.1))
            go_big_quiet_on)))
    refine wpQuiet_nil ?_
    rintro w1 ⟨g1, _⟩
    have T1 : Hid (Turn [b] w w1) := g1.turn _
    have U1 : Hid (CU w1 b v l p) := H.out.grew g1
    have z1 := U1.out.z1
    have e1 := U1.out.c1
    clear g1 C c0 c1
    go_wp2_with fail
    refine (giveUp_any _ _ _).mono ?_
    rintro en w9 ⟨rfl, h9⟩
    obtain rfl := h9.symm
    go_wp2_with fail
    refine ⟨rfl, ?_, T1.out⟩
    rw [Int.toNat_of_nonneg b1, Int.toNat_of_nonneg b3]
end Go.Proofs.YtemaeigfhmnapaaGreatDoor
