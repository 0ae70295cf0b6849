/-
  Errors of writers are none of 0; what the call's own bytes between others are read as; plain mathematics; no statement is proved here.
-/
import Derived.Test.YtchehejjdinifaaGreatDoorBkM
import Derived.Test.YtchehejjdinifaaGreatDoorCurI
import Derived.Test.YtchehejjdinifaaGreatDoorE8i
import Derived.Test.YtchehejjdinifaaGreatDoorDwC
import Derived.Test.YtchehejjdinifaaGreatDoorWrT
import Derived.Deep.Slices
import Derived.Deep.Strs
import Derived.ChangeSame
namespace Go.Proofs.YtchehejjdinifaaGreatDoor
open Go.RowKit
set_option linter.unusedVariables false
set_option linter.unusedSimpArgs false

theorem addAt_wide {A X : Int} {i : Nat} (h0 : 0 ≤ X) (h : X * 2 ^ (7 * i) < 18446744073709551616) (c : Int) (hc : c % 128 = X) : addAt A c i = A + X * 2 ^ (7 * i) := by
  unfold addAt
  rw [hc, Int.emod_eq_of_lt (Int.mul_nonneg h0 (Int.le_of_lt (pow_pos7 i))) h]
theorem small_mul {X : Int} {i : Nat} (hi : i ≤ 8) (h0 : 0 ≤ X) (hX : X < 128) : X * 2 ^ (7 * i) < 18446744073709551616 := by
  have h8 : i = 0 ∨ i = 1 ∨ i = 2 ∨ i = 3 ∨ i = 4 ∨ i = 5 ∨ i = 6 ∨ i = 7 ∨ i = 8 := by omega
  rcases h8 with rfl | rfl | rfl | rfl | rfl | rfl | rfl | rfl | rfl <;> simp <;> omega
theorem scan64 (d : Nat) : ∀ (i : Nat) (X A : Int) (r : List Int), i + d = 9 → 0 ≤ X → X < 2 ^ (64 - 7 * i) → 0 ≤ A →
    scan 9 (okB 1 false) false (putU (10 - i) X ++ r) i A = (A + X * 2 ^ (7 * i), ((i + (putU (10 - i) X).length : Nat) : Int), 0) := by
  induction d with
  | zero =>
    intro i X A r hi h0 hX hA
    obtain rfl : i = 9 := by omega
    have hX' : X < 2 := by simpa using hX
    rw [show 10 - 9 = 0 + 1 from rfl, putU, if_neg (by omega)]
    simp only [List.cons_append, List.nil_append, scan]
    have ho : okB 1 false X = true := by unfold okB; simp; omega
    rw [if_neg (by rw [ho]; simp), if_pos (by omega), addAt_wide h0 (by simp; omega) X (by omega)]
    simp [ws]
  | succ d ih =>
    intro i X A r hi h0 hX hA
    obtain ⟨g, hg⟩ : ∃ g, 10 - i = g + 1 := ⟨9 - i, by omega⟩
    have hg' : 10 - (i + 1) = g := by omega
    rw [hg, putU]
    by_cases h : 128 ≤ X
    · rw [if_pos h]
      simp only [List.cons_append, scan]
      rw [if_neg (by omega), if_neg (by omega), addAt_wide (X := X % 128) (by omega) (small_mul (by omega) (by omega) (by omega)) _ (by omega)]
      have hp : (0 : Int) < 2 ^ (7 * i) := pow_pos7 i
      have hX2 : X / 128 < 2 ^ (64 - 7 * (i + 1)) := by
        have e : (2 : Int) ^ (64 - 7 * i) = 2 ^ (64 - 7 * (i + 1)) * 128 := by
          rw [show 64 - 7 * i = (64 - 7 * (i + 1)) + 7 from by omega, Int.pow_add]; rfl
        rw [e] at hX
        omega
      have hm : 0 ≤ X % 128 * 2 ^ (7 * i) := Int.mul_nonneg (by omega) (by omega)
      have := ih (i + 1) (X / 128) (A + X % 128 * 2 ^ (7 * i)) r (by omega) (by omega) hX2 (by omega)
      rw [hg'] at this
      rw [this]
      have e2 : X = X / 128 * 128 + X % 128 := by omega
      have e3 : X * 2 ^ (7 * i) = X / 128 * (2 ^ (7 * i) * 128) + X % 128 * 2 ^ (7 * i) := by
        conv => lhs; rw [e2]
        rw [Int.add_mul, Int.mul_assoc, Int.mul_comm 128 (2 ^ (7 * i))]
      rw [pow7 i, e3]
      simp only [List.length_cons, Prod.mk.injEq]
      refine ⟨by omega, by omega, trivial⟩
    · rw [if_neg h]
      simp only [List.cons_append, List.nil_append, scan]
      rw [if_neg (by omega), if_pos (by omega), addAt_wide h0 (small_mul (by omega) h0 (by omega)) X (by omega)]
      simp [ws]
theorem num64_back {n : Int} (h0 : 0 ≤ n) (h1 : n ≤ 18446744073709551615) : Bk (numR 64 false) n (PU n) := by
  intro f r
  refine num_of ?_
  have hs := scan64 9 0 n 0 r rfl h0 (by simp; omega) (Int.le_refl 0)
  simpa [PU] using hs
theorem bound_back (wide : Bool) {n : Int} (h0 : 0 ≤ n) (h1 : n ≤ 18446744073709551615) (h2 : wide = true ∨ n ≤ 4294967295) : Bk (boundR wide) n (PU n) := by
  intro pre post
  cases wide with
  | true => exact num64_back h0 h1 pre post
  | false => exact num32_back h0 (by simp at h2; omega) pre post
theorem Bk.bind {α β : Type} {rd : List Int → Nat → RS α} {F : α → List Int → Nat → RS β} {a : α} {b : β} {m n : List Int} (h : Bk rd a m) (k : Bk (F a) b n) :
    Bk (fun l p => thenR (rd l p) fun x q => F x l q) b (m ++ n) := by
  intro pre post
  have e1 := h pre (n ++ post)
  have e2 := k (pre ++ m) post
  simp only
  rw [List.append_assoc m n post, e1]
  simp only [thenR]
  rw [← List.length_append, ← List.append_assoc pre m, e2]
  simp [Nat.add_assoc]
theorem limsT_back (wide hm : Bool) {mn mx : Int} (a0 : 0 ≤ mn) (a1 : mn ≤ 18446744073709551615) (b0 : 0 ≤ mx) (b1 : mx ≤ 18446744073709551615) (hh : hm = true ∨ mx = 0) (hw : wide = true ∨ (mn ≤ 4294967295 ∧ mx ≤ 4294967295)) :
    Bk (limsT wide hm) ⟨wide, mn, mx, hm⟩ (PU mn ++ (if hm then PU mx else [])) := by
  have h1 := bound_back wide a0 a1 (hw.imp id And.left)
  have h2 := bound_back wide b0 b1 (hw.imp id And.right)
  cases hm with
  | true => exact Bk.seq (f := fun n m => (⟨wide, n, m, true⟩ : LM)) h1 h2
  | false =>
    obtain rfl : mx = 0 := by simpa using hh
    intro pre post
    have := h1 pre post
    unfold limsT
    simp only [Bool.false_eq_true, if_false, List.append_nil]
    rw [this]
    rfl
theorem lim_back {wide hm : Bool} {mn mx : Int} {m : List Int} (a0 : 0 ≤ mn) (a1 : mn ≤ 18446744073709551615) (b0 : 0 ≤ mx) (b1 : mx ≤ 18446744073709551615) (h : limW wide mn mx hm = .ok m) : By m ∧ Bk limsR ⟨wide, mn, mx, hm⟩ m := by
  unfold limW at h
  split at h
  · rename_i hc
    simp only [Except.ok.injEq] at h
    subst h
    have hb := limsT_back wide hm a0 a1 b0 b1 hc.1 hc.2
    refine ⟨?_, ?_⟩
    · refine By.app (a := [_]) (By.one ?_) (By.app (PU_by a0 a1) ?_)
      · cases wide <;> cases hm <;> simp
      · cases hm
        · intro c hc; cases hc
        · exact PU_by b0 b1
    · refine Bk.at (rd := limsT wide hm) (fun l p => ?_) hb
      cases wide <;> cases hm <;> rfl
  · cases h
theorem tab_back {v : VT} {wide hm : Bool} {mn mx : Int} {m : List Int} (a0 : 0 ≤ mn) (a1 : mn ≤ 18446744073709551615) (b0 : 0 ≤ mx) (b1 : mx ≤ 18446744073709551615) (h : tabW v wide mn mx hm = .ok m) : By m ∧ Bk tabR ⟨v, ⟨wide, mn, mx, hm⟩⟩ m := by
  unfold tabW at h
  obtain ⟨x, y, hx, hy, rfl⟩ := thenW_is h
  obtain ⟨c, r, rfl, _, h3, h4⟩ := ref_wb _ _ hx
  obtain ⟨k1, k2⟩ := lim_back a0 a1 b0 b1 hy
  exact ⟨By.app h3 k1, Bk.seq (f := fun v m => (⟨v, m⟩ : TT)) h4 k2⟩
theorem glo_back {v : VT} {mu : Bool} {m : List Int} (h : gloW v mu = .ok m) : By m ∧ Bk gloR ⟨v, mu⟩ m := by
  unfold gloW at h
  obtain ⟨x, y, hx, hy, rfl⟩ := thenW_is h
  simp only [Except.ok.injEq] at hy
  subst hy
  obtain ⟨c, r, rfl, _, h3, h4⟩ := val_wb _ _ hx
  exact ⟨By.app h3 (flagB_by _), Bk.seq (f := fun v m => (⟨v, m⟩ : GT)) h4 (flag_back mu)⟩
theorem below_back {e k : Int} (h : k < e) : Bk (belowR e) k [k] := Bk.one (k := fun l p c => if e ≤ c then .error (p, 4) else .ok (c, p + 1)) (fun l p => if_neg (by omega))
theorem tag_back {t : Int} {m : List Int} (h : tagW t = .ok m) : By m ∧ Bk tagR t m := by
  unfold tagW at h
  obtain ⟨x, y, hx, hy, rfl⟩ := thenW_is h
  simp only [Except.ok.injEq] at hx
  subst hx
  obtain ⟨c, r, rfl, _, h3, h4⟩ := tyU_wb _ _ hy
  exact ⟨By.app (By.one (by omega)) h3, Bk.seq2 (below_back (by omega)) h4⟩
theorem extP_ok {k : Int} {b : Bool} {R : Except Nat (List Int)} {m : List Int} (h : extP k b R = .ok m) : b = true ∧ ∃ y, R = .ok y ∧ m = k :: y := by
  unfold extP at h
  split at h
  · rename_i hb
    obtain ⟨x, y, hx, hy, rfl⟩ := thenW_is h
    simp only [Except.ok.injEq] at hx
    subst hx
    exact ⟨hb, y, hy, rfl⟩
  · cases h
theorem ext_of {k : Int} {x : XT} {y : List Int} (h0 : 0 ≤ k) (h4 : k ≤ 4) (h : By y ∧ Bk (extK k) x y) : By (k :: y) ∧ Bk extR x (k :: y) :=
  ⟨By.app (a := [k]) (By.one (by omega)) h.1, Bk.bind (F := extK) (below_back (by omega)) h.2⟩
theorem ext_back {k ty tn th tp tq mp mq gn gh : Int} {tz tw tm mw mm gz gm : Bool} {m : List Int} (t0 : 0 ≤ tp) (t1 : tp ≤ 18446744073709551615) (t2 : 0 ≤ tq) (t3 : tq ≤ 18446744073709551615) (m0 : 0 ≤ mp) (m1 : mp ≤ 18446744073709551615) (m2 : 0 ≤ mq) (m3 : mq ≤ 18446744073709551615)
    (h : extW k ty tn th tp tq mp mq gn gh tz tw tm mw mm gz gm = .ok m) : By m ∧ Bk extR ⟨k, ty, ⟨⟨tn, tz, th⟩, ⟨tw, tp, tq, tm⟩⟩, ⟨mw, mp, mq, mm⟩, ⟨⟨gn, gz, gh⟩, gm⟩⟩ m := by
  unfold extW at h
  split at h
  · rename_i hk
    subst hk
    obtain ⟨hb, y, hy, rfl⟩ := extP_ok h
    simp [zT, zM, zG] at hb
    obtain ⟨⟨rfl, rfl, rfl, rfl, rfl, rfl, rfl⟩, ⟨rfl, rfl, rfl, rfl⟩, rfl, rfl, rfl, rfl⟩ := hb
    obtain ⟨c, r, rfl, _, h3, h4⟩ := tyU_wb _ _ hy
    exact ext_of (by omega) (by omega) ⟨h3, Bk.map (f := fun t => (⟨0, t, T0_, L0, G0_⟩ : XT)) h4⟩
  · split at h
    · rename_i hk
      subst hk
      obtain ⟨hb, y, hy, rfl⟩ := extP_ok h
      simp [zT, zM, zG] at hb
      obtain ⟨rfl, ⟨rfl, rfl, rfl, rfl⟩, rfl, rfl, rfl, rfl⟩ := hb
      obtain ⟨h3, h4⟩ := tab_back t0 t1 t2 t3 hy
      exact ext_of (by omega) (by omega) ⟨h3, Bk.map (f := fun t => (⟨1, 0, t, L0, G0_⟩ : XT)) h4⟩
    · split at h
      · rename_i hk
        subst hk
        obtain ⟨hb, y, hy, rfl⟩ := extP_ok h
        simp [zT, zM, zG] at hb
        obtain ⟨rfl, ⟨rfl, rfl, rfl, rfl, rfl, rfl, rfl⟩, rfl, rfl, rfl, rfl⟩ := hb
        obtain ⟨h3, h4⟩ := lim_back m0 m1 m2 m3 hy
        exact ext_of (by omega) (by omega) ⟨h3, Bk.map (f := fun t => (⟨2, 0, T0_, t, G0_⟩ : XT)) h4⟩
      · split at h
        · rename_i hk
          subst hk
          obtain ⟨hb, y, hy, rfl⟩ := extP_ok h
          simp [zT, zM, zG] at hb
          obtain ⟨rfl, ⟨rfl, rfl, rfl, rfl, rfl, rfl, rfl⟩, rfl, rfl, rfl, rfl⟩ := hb
          obtain ⟨h3, h4⟩ := glo_back hy
          exact ext_of (by omega) (by omega) ⟨h3, Bk.map (f := fun t => (⟨3, 0, T0_, L0, t⟩ : XT)) h4⟩
        · split at h
          · rename_i hk
            subst hk
            obtain ⟨hb, y, hy, rfl⟩ := extP_ok h
            simp [zT, zM, zG] at hb
            obtain ⟨⟨rfl, rfl, rfl, rfl, rfl, rfl, rfl⟩, ⟨rfl, rfl, rfl, rfl⟩, rfl, rfl, rfl, rfl⟩ := hb
            obtain ⟨h3, h4⟩ := tag_back hy
            exact ext_of (by omega) (by omega) ⟨h3, Bk.map (f := fun t => (⟨4, t, T0_, L0, G0_⟩ : XT)) h4⟩
          · cases h
theorem name_back {s m : List Int} (hs : By s) (h : nameW s = .ok m) : By m ∧ Bk nameR s m := by
  unfold nameW at h
  split at h
  · rename_i hf
    simp only [Except.ok.injEq] at h
    subst h
    unfold nf at hf
    split at hf
    · cases hf
    · rename_i hl
      split at hf
      · rename_i hu
        refine ⟨By.app (PU_by (by omega) (by omega)) hs, fun pre post => ?_⟩
        unfold nb
        have e := num32_back (n := (s.length : Int)) (by omega) (by omega) pre (s ++ post)
        rw [List.append_assoc (PU _) s post]
        obtain ⟨L, hL⟩ : ∃ L, L = pre ++ (PU s.length ++ (s ++ post)) := ⟨_, rfl⟩
        rw [← hL] at e ⊢
        obtain ⟨n, q, f, hr⟩ : ∃ n q f, rd 32 false L pre.length L.length = (n, q, f) := ⟨_, _, _, rfl⟩
        unfold numR at e
        rw [hr] at e
        simp only at e
        split at e
        · rename_i hf0
          subst hf0
          simp only [Except.ok.injEq, Prod.mk.injEq] at e
          obtain ⟨r1, r2, r3, r4, r5⟩ := rd_ok hr
          have hq : q = ((pre.length + (PU s.length).length : Nat) : Int) := by omega
          have hlen : L.length = pre.length + (PU s.length).length + s.length + post.length := by rw [hL]; simp; omega
          have hseg : (L.take (pre.length + (PU s.length).length + s.length)).drop (pre.length + (PU s.length).length) = s := by
            rw [hL, ← List.append_assoc, ← List.length_append, ← List.append_assoc, ← List.length_append, List.take_left, List.drop_left]
          have hn : nm L pre.length = (s, ((pre.length + (PU s.length).length + s.length : Nat) : Int), 0) := by
            have := nm_good (i := (U s).1) hr (N := s.length) (Q := pre.length + (PU s.length).length) (by omega) hq (by omega) (by omega) (by rw [hseg, ← hu])
            rw [hseg] at this
            exact this
          unfold nameR
          rw [hn]
          simp [Nat.add_assoc]
          omega
        · cases e
      · cases hf
  · cases h
theorem imp_back {s t m : List Int} {X : Except Nat (List Int)} {x : XT} (hs : By s) (ht : By t) (hX : ∀ y, X = .ok y → By y ∧ Bk extR x y) (h : impW s t X = .ok m) : By m ∧ Bk impR ⟨s, t, x⟩ m := by
  unfold impW at h
  obtain ⟨a, b, ha, hb, rfl⟩ := thenW_is h
  obtain ⟨c, d, hc, hd, rfl⟩ := thenW_is hb
  obtain ⟨a1, a2⟩ := name_back hs ha
  obtain ⟨c1, c2⟩ := name_back ht hc
  obtain ⟨d1, d2⟩ := hX d hd
  refine ⟨By.app a1 (By.app c1 d1), ?_⟩
  exact Bk.bind (F := fun m l q => thenR (nameR l q) fun n r => mapR (fun x => (⟨m, n, x⟩ : IM)) (extR l r)) a2 (Bk.seq (f := fun n x => (⟨s, n, x⟩ : IM)) c2 d2)
end Go.Proofs.YtchehejjdinifaaGreatDoor

namespace Go.Proofs.YtchehejjdinifaaGreatDoor
open Go.RowKit
set_option linter.unusedVariables false
set_option linter.unusedSimpArgs false

/- At most so many bytes each. -/
def Sh {α : Type} (wr : α → Except Nat (List Int)) (k : Nat) : Prop := ∀ a m, wr a = .ok m → m.length ≤ k
theorem code_len {k n : Int} {m : List Int} (h : codeR k n = .ok m) : m.length ≤ 1 := by
  obtain ⟨c, rfl, _⟩ := codeR_is h
  simp
theorem uidx_sh : Sh uidxW 11 := by
  intro n m h
  unfold uidxW at h
  split at h
  · simp only [Except.ok.injEq] at h; subst h; exact PU_len n
  · cases h
theorem heap_sh : Sh heapW 11 := by
  intro n m h
  unfold heapW sidxW at h
  split at h
  · split at h
    · simp only [Except.ok.injEq] at h; subst h; exact PS_len n
    · cases h
  · have := code_len h; omega
theorem ref_sh : Sh refW 12 := by
  intro t m h
  unfold refW at h
  split at h
  · obtain ⟨x, y, hx, hy, rfl⟩ := thenW_is h
    have h1 := heap_sh _ _ hy
    have h2 : x.length ≤ 1 := by
      split at hx
      · exact code_len hx
      · split at hx
        · exact code_len hx
        · simp only [Except.ok.injEq] at hx; subst hx; simp
    simp; omega
  · cases h
theorem plain_len {k : Int} {t : VT} {m : List Int} (h : plainW k t = .ok m) : m.length ≤ 1 := by
  obtain ⟨c, rfl, _⟩ := plain_is h
  simp
theorem val_sh : Sh valW 12 := by
  intro t m h
  unfold valW at h
  split at h
  · exact ref_sh _ _ h
  · have := plain_len h; omega
theorem stor_sh : Sh storW 12 := by
  intro t m h
  unfold storW at h
  split at h
  · have := plain_len h; omega
  · exact val_sh _ _ h
theorem field_sh : Sh fieldW 13 := by
  intro t m h
  unfold fieldW at h
  obtain ⟨x, y, hx, hy, rfl⟩ := thenW_is h
  have h1 := stor_sh _ _ hx
  simp only [Except.ok.injEq] at hy
  subst hy
  simp [flagB]; omega
theorem many_sh {α : Type} {wr : α → Except Nat (List Int)} {k : Nat} (H : Sh wr k) : ∀ (xs : List α) (m : List Int), manyW wr xs = .ok m → m.length ≤ k * xs.length
  | [], m, h => by simp only [manyW, Except.ok.injEq] at h; subst h; simp
  | x :: xs, m, h => by
    rw [manyW] at h
    obtain ⟨u, v, hu, hv, rfl⟩ := thenW_is h
    have h1 := H x u hu
    have h2 := many_sh H xs v hv
    rw [List.length_append, List.length_cons, Nat.mul_succ]
    omega
theorem list_sh {α : Type} {wr : α → Except Nat (List Int)} {k lim : Nat} (H : Sh wr k) {xs : List α} {m : List Int} (h : listW lim wr xs = .ok m) : m.length ≤ 11 + k * xs.length := by
  unfold listW at h
  split at h
  · cases h
  · obtain ⟨u, v, hu, hv, rfl⟩ := thenW_is h
    simp only [Except.ok.injEq] at hu
    subst hu
    have := PU_len (xs.length : Int)
    have := many_sh H xs v hv
    simp; omega
theorem comp_len {c : CT} {m : List Int} (h : compW c = .ok m) : m.length ≤ 40 + 13 * (c.params.length + c.results.length + c.fields.length) := by
  unfold compW at h
  split at h
  · split at h
    · obtain ⟨x, y, hx, hy, rfl⟩ := thenW_is h
      obtain ⟨u, v, hu, hv, rfl⟩ := thenW_is hy
      simp only [Except.ok.injEq] at hx
      subst hx
      have := list_sh val_sh hu
      have := list_sh val_sh hv
      simp; omega
    · split at h
      · obtain ⟨x, y, hx, hy, rfl⟩ := thenW_is h
        simp only [Except.ok.injEq] at hx
        subst hx
        have := list_sh field_sh hy
        simp; omega
      · obtain ⟨x, y, hx, hy, rfl⟩ := thenW_is h
        simp only [Except.ok.injEq] at hx
        subst hx
        have := field_sh _ _ hy
        simp; omega
  · cases h
theorem sub_len {x : SB} {m : List Int} (h : subW x = .ok m) : m.length ≤ 60 + 13 * (x.supers.length + x.comp.params.length + x.comp.results.length + x.comp.fields.length) := by
  unfold subW declW at h
  split at h
  · obtain ⟨u, v, hu, hv, rfl⟩ := thenW_is h
    obtain ⟨a, b, ha, hb, rfl⟩ := thenW_is hu
    simp only [Except.ok.injEq] at ha
    subst ha
    have := list_sh uidx_sh hb
    have := comp_len hv
    simp; omega
  · have := comp_len h; omega
theorem subs_len {μ : SB → Nat} (hμ : ∀ x, x.supers.length + x.comp.params.length + x.comp.results.length + x.comp.fields.length + 1 ≤ μ x) : ∀ (xs : List SB) (m : List Int), manyW subW xs = .ok m → m.length ≤ 60 * (xs.map μ).sum
  | [], m, h => by simp only [manyW, Except.ok.injEq] at h; subst h; simp
  | x :: xs, m, h => by
    rw [manyW] at h
    obtain ⟨u, v, hu, hv, rfl⟩ := thenW_is h
    have h1 := sub_len hu
    have h2 := subs_len hμ xs v hv
    have h3 := hμ x
    simp only [List.length_append, List.map_cons, List.sum_cons]
    omega
theorem rec_len {μ : SB → Nat} (hμ : ∀ x, x.supers.length + x.comp.params.length + x.comp.results.length + x.comp.fields.length + 1 ≤ μ x) {g : RT} {m : List Int} (h : recW g = .ok m) : m.length ≤ 12 + 60 * (g.types.map μ).sum := by
  unfold recW at h
  split at h
  · rename_i h1
    obtain ⟨ts, ex⟩ := g
    simp only at h h1 ⊢
    obtain ⟨t, rfl⟩ := List.length_eq_one_iff.1 h1
    simp only [List.headD_cons] at h
    have := sub_len h
    have := hμ t
    simp
    omega
  · unfold listW at h
    obtain ⟨x, y, hx, hy, rfl⟩ := thenW_is h
    split at hy
    · cases hy
    · obtain ⟨u, v, hu, hv, rfl⟩ := thenW_is hy
      simp only [Except.ok.injEq] at hx hu
      subst hx hu
      have := PU_len (g.types.length : Int)
      have := subs_len hμ _ _ hv
      simp; omega
theorem lim_len {wide hm : Bool} {mn mx : Int} {m : List Int} (h : limW wide mn mx hm = .ok m) : m.length ≤ 23 := by
  unfold limW at h
  split at h
  · simp only [Except.ok.injEq] at h
    subst h
    have := PU_len mn
    have := PU_len mx
    cases hm <;> simp <;> omega
  · cases h
theorem ext_len {k ty tn th tp tq mp mq gn gh : Int} {tz tw tm mw mm gz gm : Bool} {m : List Int} (h : extW k ty tn th tp tq mp mq gn gh tz tw tm mw mm gz gm = .ok m) : m.length ≤ 40 := by
  unfold extW at h
  split at h
  · obtain ⟨_, y, hy, rfl⟩ := extP_ok h
    have := uidx_sh _ _ hy
    simp; omega
  · split at h
    · obtain ⟨_, y, hy, rfl⟩ := extP_ok h
      unfold tabW at hy
      obtain ⟨u, v, hu, hv, rfl⟩ := thenW_is hy
      have := ref_sh _ _ hu
      have := lim_len hv
      simp; omega
    · split at h
      · obtain ⟨_, y, hy, rfl⟩ := extP_ok h
        have := lim_len hy
        simp; omega
      · split at h
        · obtain ⟨_, y, hy, rfl⟩ := extP_ok h
          unfold gloW at hy
          obtain ⟨u, v, hu, hv, rfl⟩ := thenW_is hy
          have := val_sh _ _ hu
          simp only [Except.ok.injEq] at hv
          subst hv
          simp [flagB]; omega
        · split at h
          · obtain ⟨_, y, hy, rfl⟩ := extP_ok h
            unfold tagW at hy
            obtain ⟨u, v, hu, hv, rfl⟩ := thenW_is hy
            have := uidx_sh _ _ hv
            simp only [Except.ok.injEq] at hu
            subst hu
            simp; omega
          · cases h
theorem name_len {s m : List Int} (h : nameW s = .ok m) : m.length ≤ 65547 := by
  unfold nameW at h
  split at h
  · rename_i hf
    simp only [Except.ok.injEq] at h
    subst h
    unfold nf at hf
    split at hf
    · cases hf
    · have := PU_len (s.length : Int)
      unfold nb
      simp; omega
  · cases h
theorem imp_len {s t m : List Int} {X : Except Nat (List Int)} (hX : ∀ y, X = .ok y → y.length ≤ 40) (h : impW s t X = .ok m) : m.length ≤ 131200 := by
  unfold impW at h
  obtain ⟨a, b, ha, hb, rfl⟩ := thenW_is h
  obtain ⟨c, d, hc, hd, rfl⟩ := thenW_is hb
  have := name_len ha
  have := name_len hc
  have := hX _ hd
  simp; omega
end Go.Proofs.YtchehejjdinifaaGreatDoor

namespace Go.Proofs.YtchehejjdinifaaGreatDoor
open Go.ChangeShapes Go.WideShapes Go.Deep
set_option linter.unusedVariables false
set_option linter.unusedSimpArgs false

def R64 (n : Int) : Prop := -9223372036854775808 ≤ n ∧ n ≤ 9223372036854775807
theorem bulk_one {H : Type} (d : DataW H) : 1 ≤ Rows.uptoBulk d := by
  cases d with
  | lit l => cases l <;> simp [Rows.uptoBulk]
  | nil => simp [Rows.uptoBulk]
  | ptr d => simp [Rows.uptoBulk]
  | slice elems spare => simp [Rows.uptoBulk]
  | agg parts => simp [Rows.uptoBulk]
  | iface t d => simp [Rows.uptoBulk]
  | map entries => simp [Rows.uptoBulk]
  | held h => simp [Rows.uptoBulk]
theorem bulk_map {H : Type} {α : Type} {μ : α → Nat} {f : Nat → α} {D : Nat → DataW H} : ∀ (l : List Nat), (∀ i ∈ l, μ (f i) ≤ Rows.uptoBulk (D i)) → ((l.map f).map μ).sum ≤ Rows.uptoBulkAll (l.map D) := by
  intro l
  induction l with
  | nil => intro _; simp
  | cons a l ih =>
    intro h
    have h1 := h a (by simp)
    have h2 := ih (fun i hi => h i (by simp [hi]))
    simp only [List.map_cons, List.sum_cons, Rows.uptoBulkAll]
    omega
section
variable {H : Type} {enc : TypeId × Value → H} {w : World} {base : Nat} {held : Bool}
set_option maxRecDepth 100000 in
theorem open_lst {α : Type} (dflt : α) (P : α → Prop) {E : World → Nat → Nat → α → Prop} {μ : α → Nat} {fuel : Nat} {t e : TypeId} {k : Nat} {cs : List Value} {x : DataW H × List MemPlace} (ht : Tryz.prog.underlying t = some (.slice e)) (hk : Tryz.prog.cellsOf e = k) (hk0 : 0 < k)
    (h : DataW.trod enc Tryz.prog w base (fun _ => true) held fuel t cs = some x)
    (hE : ∀ (b o : Nat) (cs : List Value) (n : Nat) (y : DataW H × List MemPlace), cs.length = k → (∀ j, j < k → w.cell? ⟨b, o + j, none⟩ = cs[j]?) → DataW.trod enc Tryz.prog w base (fun _ => true) held n e cs = some y → ∃ z : α, E w b o z ∧ μ z ≤ Rows.uptoBulk y.1 ∧ P z) :
    ∃ v l, cs = [v] ∧ Lst k E w v l ∧ (l.map μ).sum + 1 ≤ Rows.uptoBulk x.1 ∧ ∀ z ∈ l, P z := by
  have hinh : Inhabited α := ⟨dflt⟩
  rcases open_slice ht h with ⟨rfl, rfl⟩ | ⟨a, len, cap, m, n, D, Pl, rfl, hb, hl, hm, hmm, rfl, hx⟩
  · exact ⟨_, [], rfl, Lst.nil _ _ _, by simp [Rows.uptoBulk], fun z hz => by cases hz⟩
  simp only [if_true] at hmm
  subst hmm
  rw [hk] at hx
  rcases Nat.eq_zero_or_pos len with h0 | h0
  · subst h0
    refine ⟨_, [], rfl, ⟨some a, m, rfl, Nat.zero_le _, hm, (fun h => by cases h), Or.inl rfl⟩, ?_, fun z hz => by cases hz⟩
    simpa using bulk_one _
  · have hcell : ∀ i, i < m → ∃ cs', cs'.length = k ∧ (∀ j, j < k → w.cell? ((a.add (i * k)).add j) = cs'[j]?) ∧ DataW.trod enc Tryz.prog w base (fun _ => true) held n e cs' = some (D i, Pl i) := fun i hi => by
      obtain ⟨cs', h1, h2⟩ := hx i hi
      obtain ⟨_, h3, h4⟩ := World.cells?_some h1
      exact ⟨cs', h3, h4, h2⟩
    have hspot : a.spot = none := by
      obtain ⟨cs', h3, h4, _⟩ := hcell 0 (by omega)
      have h5 := h4 0 hk0
      rw [List.getElem?_eq_getElem (by omega)] at h5
      have := World.cell?_spot h5
      simpa [Addr.add] using this
    obtain ⟨b, off, spot⟩ := a
    simp only at hspot
    subst hspot
    have hadd : ∀ i j, ((⟨b, off, none⟩ : Addr).add (i * k)).add j = ⟨b, off + i * k + j, none⟩ := fun i j => by
      rw [add_add]
      unfold Addr.add
      split
      · rename_i h; congr 1; omega
      · simp [Nat.add_assoc]
    obtain ⟨f, hf⟩ := choose_lt (n := m) (p := fun i z => E w b (off + i * k) z ∧ μ z ≤ Rows.uptoBulk (D i) ∧ P z) (fun i hi => by
      obtain ⟨cs', h3, h4, h5⟩ := hcell i hi
      exact hE b (off + i * k) cs' n _ h3 (fun j hj => by rw [← hadd]; exact h4 j hj) h5)
    refine ⟨_, (List.range len).map f, rfl, ⟨some ⟨b, off, none⟩, m, by simp, by simpa using hl, hm, (fun h => by cases h), Or.inr ⟨b, off, rfl, fun i z hz => ?_⟩⟩, ?_, ?_⟩
    · rw [List.getElem?_map] at hz
      obtain ⟨i', hi', rfl⟩ := Option.map_eq_some_iff.1 hz
      obtain ⟨hlt, he⟩ := List.getElem?_eq_some_iff.1 hi'
      simp only [List.getElem_range] at he
      subst he
      simp only [List.length_range] at hlt
      exact (hf i (by omega)).1
    · have := bulk_map (μ := μ) (f := f) (D := D) (List.range len) (fun i hi => (hf i (by have := List.mem_range.1 hi; omega)).2.1)
      simp only [Rows.uptoBulk]
      omega
    · intro z hz
      obtain ⟨i, hi, rfl⟩ := List.mem_map.1 hz
      exact (hf i (by have := List.mem_range.1 hi; omega)).2.2
theorem cells_int : Tryz.prog.cellsOf 3 = 1 := by kernel_rfl
theorem cells_bool : Tryz.prog.cellsOf 4 = 1 := by kernel_rfl
theorem cells_V : Tryz.prog.cellsOf 26 = 3 := by kernel_rfl
theorem cells_F : Tryz.prog.cellsOf 107 = 4 := by kernel_rfl
theorem cells_C : Tryz.prog.cellsOf 63 = 4 := by kernel_rfl
theorem cells_S : Tryz.prog.cellsOf 65 = 6 := by kernel_rfl
theorem cells_R : Tryz.prog.cellsOf 24 = 2 := by kernel_rfl
theorem cells_li : Tryz.prog.cellsOf 59 = 1 := by kernel_rfl
theorem cells_lv : Tryz.prog.cellsOf 60 = 1 := by kernel_rfl
theorem cells_lf : Tryz.prog.cellsOf 61 = 1 := by kernel_rfl
theorem cells_ls : Tryz.prog.cellsOf 22 = 1 := by kernel_rfl
theorem r64_wf {m : Int} (h : (Lit.int .i64 m).wf = true) : R64 m := by
  have := bounds_i64 h
  unfold R64
  omega
def RgV (v : VT) : Prop := R64 v.num ∧ R64 v.heap
def RgF (v : FT) : Prop := R64 v.ty.num ∧ R64 v.ty.heap
structure Rng (x : SB) : Prop where
  s : ∀ n ∈ x.supers, R64 n
  k : R64 x.comp.kind
  p : ∀ v ∈ x.comp.params, R64 v.num ∧ R64 v.heap
  r : ∀ v ∈ x.comp.results, R64 v.num ∧ R64 v.heap
  f : ∀ v ∈ x.comp.fields, R64 v.ty.num ∧ R64 v.ty.heap
theorem open_I {b o : Nat} {cs : List Value} {n : Nat} {y : DataW H × List MemPlace} (hl : cs.length = 1) (hc : ∀ j, j < 1 → w.cell? ⟨b, o + j, none⟩ = cs[j]?) (h : DataW.trod enc Tryz.prog w base (fun _ => true) held n 3 cs = some y) : ∃ z : Int, EI w b o z ∧ 1 ≤ Rows.uptoBulk y.1 ∧ R64 z := by
  obtain ⟨m, rfl, rfl, wf⟩ := DataW.trod_int Tryz.underlying3 h
  exact ⟨m, hc 0 (by decide), bulk_one _, r64_wf wf⟩
set_option maxRecDepth 100000 in
theorem open_V {b o : Nat} {cs : List Value} {n : Nat} {y : DataW H × List MemPlace} (hl : cs.length = 3) (hc : ∀ j, j < 3 → w.cell? ⟨b, o + j, none⟩ = cs[j]?) (h : DataW.trod enc Tryz.prog w base (fun _ => true) held n 26 cs = some y) : ∃ z : VT, EV w b o z ∧ 1 ≤ Rows.uptoBulk y.1 ∧ RgV z := by
  obtain ⟨y0, y1, y2, m, rfl, _, h0, h1, h2⟩ := trod_struct3 Tryz.underlying26 h
  match cs, hl with
  | [c0, c1, c2], _ =>
    simp only [cells_int, cells_bool, List.drop, List.take] at h0 h1 h2
    obtain ⟨a, e0, _, wa⟩ := DataW.trod_int Tryz.underlying3 h0
    obtain ⟨p, e1, _⟩ := DataW.trod_bool Tryz.underlying4 h1
    obtain ⟨q, e2, _, wq⟩ := DataW.trod_int Tryz.underlying3 h2
    simp only [List.cons.injEq, and_true] at e0 e1 e2
    subst e0 e1 e2
    exact ⟨⟨a, p, q⟩, ⟨hc 0 (by decide), hc 1 (by decide), hc 2 (by decide)⟩, bulk_one _, r64_wf wa, r64_wf wq⟩
set_option maxRecDepth 100000 in
theorem open_F {b o : Nat} {cs : List Value} {n : Nat} {y : DataW H × List MemPlace} (hl : cs.length = 4) (hc : ∀ j, j < 4 → w.cell? ⟨b, o + j, none⟩ = cs[j]?) (h : DataW.trod enc Tryz.prog w base (fun _ => true) held n 107 cs = some y) : ∃ z : FT, EF w b o z ∧ 1 ≤ Rows.uptoBulk y.1 ∧ RgF z := by
  obtain ⟨y0, y1, m, rfl, _, h0, h1⟩ := trod_struct2 Tryz.underlying107 h
  match cs, hl with
  | [c0, c1, c2, c3], _ =>
    simp only [cells_V, cells_bool, List.drop, List.take] at h0 h1
    obtain ⟨v, hv, _, rv⟩ := open_V (b := b) (o := o) rfl (fun j hj => by
      rw [hc j (by omega)]
      match j, hj with
      | 0, _ => rfl
      | 1, _ => rfl
      | 2, _ => rfl) h0
    obtain ⟨p, e1, _⟩ := DataW.trod_bool Tryz.underlying4 h1
    simp only [List.cons.injEq, and_true] at e1
    subst e1
    exact ⟨⟨v, p⟩, ⟨hv, hc 3 (by decide)⟩, bulk_one _, rv⟩
def muS (x : SB) : Nat := x.supers.length + x.comp.params.length + x.comp.results.length + x.comp.fields.length + 1
def muR (r : RT) : Nat := (r.types.map muS).sum + 1
theorem sum_ones {α : Type} (l : List α) : (l.map fun _ => 1).sum = l.length := by
  induction l with
  | nil => rfl
  | cons a l ih => simp only [List.map_cons, List.sum_cons, List.length_cons, ih]; omega
def vt0 : VT := ⟨0, false, 0⟩
def ct0 : CT := ⟨0, [], [], []⟩
set_option maxRecDepth 100000 in
theorem open_S {b o : Nat} {cs : List Value} {n : Nat} {y : DataW H × List MemPlace} (hl : cs.length = 6) (hc : ∀ j, j < 6 → w.cell? ⟨b, o + j, none⟩ = cs[j]?) (h : DataW.trod enc Tryz.prog w base (fun _ => true) held n 65 cs = some y) : ∃ z : SB, ES w b o z ∧ muS z ≤ Rows.uptoBulk y.1 ∧ Rng z := by
  obtain ⟨y0, y1, y2, m, rfl, _, h0, h1, h2⟩ := trod_struct3 Tryz.underlying65 h
  match cs, hl with
  | [c0, c1, c2, c3, c4, c5], _ =>
    simp only [cells_li, cells_bool, cells_C, List.drop, List.take] at h0 h1 h2
    obtain ⟨f, e0, _⟩ := DataW.trod_bool Tryz.underlying4 h0
    obtain ⟨sv, sup, e1, ls, b1, q1⟩ := open_lst (0 : Int) R64 (E := EI) (μ := fun _ => 1) Tryz.underlying59 cells_int (by decide) h1 (fun b o cs n y hl hc h => open_I hl hc h)
    obtain ⟨xs, m', _, rfl, _, hxl, hf⟩ := DataW.trod_struct Tryz.underlying63 h2
    match xs, hxl with
    | [z0, z1, z2, z3], _ =>
      have g0 := hf 0 _ rfl
      have g1 := hf 1 _ rfl
      have g2 := hf 2 _ rfl
      have g3 := hf 3 _ rfl
      simp only [List.getElem_toArray, List.getElem_cons_zero, List.getElem_cons_succ, cells_int, cells_lv, cells_lf, List.drop, List.take, List.getElem?_cons_zero, List.getElem?_cons_succ] at g0 g1 g2 g3
      obtain ⟨k, e2, _, wk⟩ := DataW.trod_int Tryz.underlying3 g0
      obtain ⟨pv, ps, e3, lp, b2, q2⟩ := open_lst vt0 RgV (E := EV) (μ := fun _ => 1) Tryz.underlying60 cells_V (by decide) g1 (fun b o cs n y hl hc h => open_V hl hc h)
      obtain ⟨rv, rs, e4, lr, b3, q3⟩ := open_lst vt0 RgV (E := EV) (μ := fun _ => 1) Tryz.underlying60 cells_V (by decide) g2 (fun b o cs n y hl hc h => open_V hl hc h)
      obtain ⟨fv, fs, e5, lf, b4, q4⟩ := open_lst (⟨vt0, false⟩ : FT) RgF (E := EF) (μ := fun _ => 1) Tryz.underlying61 cells_F (by decide) g3 (fun b o cs n y hl hc h => open_F hl hc h)
      simp only [List.cons.injEq, and_true] at e0 e1 e2 e3 e4 e5
      subst e0 e1 e2 e3 e4 e5
      rw [sum_ones] at b1 b2 b3 b4
      refine ⟨⟨f, sup, ⟨k, ps, rs, fs⟩⟩, ⟨_, _, _, _, ⟨ls, lp, lr, lf⟩, hc 0 (by decide), hc 1 (by decide), hc 2 (by decide), hc 3 (by decide), hc 4 (by decide), hc 5 (by decide)⟩, ?_, ⟨q1, r64_wf wk, q2, q3, q4⟩⟩
      unfold muS
      simp only [Rows.uptoBulk, Rows.uptoBulkAll, List.map_cons, List.map_nil]
      omega
theorem sum_mem {α : Type} {μ : α → Nat} {l : List α} {a : α} (h : a ∈ l) : μ a ≤ (l.map μ).sum := by
  induction l with
  | nil => cases h
  | cons b l ih =>
    simp only [List.map_cons, List.sum_cons]
    rcases List.mem_cons.1 h with rfl | h
    · omega
    · have := ih h; omega
theorem sum_len {α : Type} {μ : α → Nat} (hμ : ∀ a, 1 ≤ μ a) (l : List α) : l.length ≤ (l.map μ).sum := by
  induction l with
  | nil => simp
  | cons a l ih => simp only [List.map_cons, List.sum_cons, List.length_cons]; have := hμ a; omega
set_option maxRecDepth 100000 in
theorem open_RV {fuel : Nat} {cs : List Value} {x : DataW H × List MemPlace} (h : DataW.trod enc Tryz.prog w base (fun _ => true) held fuel 24 cs = some x) (hl : cs.length = 2) : ∃ tv r, cs = [tv, .bool r.explicit] ∧ LS w tv r.types ∧ muR r ≤ Rows.uptoBulk x.1 ∧ ∀ y ∈ r.types, Rng y := by
  obtain ⟨y0, y1, m, rfl, _, h0, h1⟩ := trod_struct2 Tryz.underlying24 h
  match cs, hl with
  | [c0, c1], _ =>
    simp only [cells_ls, cells_bool, List.drop, List.take] at h0 h1
    obtain ⟨tv, ts, e0, lt, b0, q0⟩ := open_lst (⟨false, [], ct0⟩ : SB) Rng (E := ES) (μ := muS) Tryz.underlying22 cells_S (by decide) h0 (fun b o cs n y hl hc h => open_S hl hc h)
    obtain ⟨p, e1, _⟩ := DataW.trod_bool Tryz.underlying4 h1
    simp only [List.cons.injEq, and_true] at e0 e1
    subst e0 e1
    refine ⟨_, ⟨ts, p⟩, rfl, lt, ?_, q0⟩
    unfold muR
    simp only [Rows.uptoBulk, Rows.uptoBulkAll]
    omega
set_option maxRecDepth 100000 in
theorem open_VV {fuel : Nat} {cs : List Value} {x : DataW H × List MemPlace} (h : DataW.trod enc Tryz.prog w base (fun _ => true) held fuel 26 cs = some x) (hl : cs.length = 3) : ∃ n nul hp, cs = [.int .i64 n, .bool nul, .int .i64 hp] ∧ R64 n ∧ R64 hp := by
  obtain ⟨y0, y1, y2, m, rfl, _, h0, h1, h2⟩ := trod_struct3 Tryz.underlying26 h
  match cs, hl with
  | [c0, c1, c2], _ =>
    simp only [cells_int, cells_bool, List.drop, List.take] at h0 h1 h2
    obtain ⟨a, e0, _, wa⟩ := DataW.trod_int Tryz.underlying3 h0
    obtain ⟨p, e1, _⟩ := DataW.trod_bool Tryz.underlying4 h1
    obtain ⟨q, e2, _, wq⟩ := DataW.trod_int Tryz.underlying3 h2
    simp only [List.cons.injEq, and_true] at e0 e1 e2
    subst e0 e1 e2
    exact ⟨a, p, q, rfl, r64_wf wa, r64_wf wq⟩
theorem cells_u64 : Tryz.prog.cellsOf 27 = 1 := by kernel_rfl
set_option maxRecDepth 100000 in
theorem open_LL {fuel : Nat} {cs : List Value} {x : DataW H × List MemPlace} (h : DataW.trod enc Tryz.prog w base (fun _ => true) held fuel 29 cs = some x) (hl : cs.length = 4) : ∃ wide mn mx hm, cs = [.bool wide, .int .u64 mn, .int .u64 mx, .bool hm] ∧ (0 ≤ mn ∧ mn ≤ 18446744073709551615) ∧ (0 ≤ mx ∧ mx ≤ 18446744073709551615) := by
  obtain ⟨xs, m', _, rfl, _, hxl, hf⟩ := DataW.trod_struct Tryz.underlying29 h
  match cs, hl with
  | [c0, c1, c2, c3], _ =>
    match xs, hxl with
    | [z0, z1, z2, z3], _ =>
      have g0 := hf 0 _ rfl
      have g1 := hf 1 _ rfl
      have g2 := hf 2 _ rfl
      have g3 := hf 3 _ rfl
      simp only [List.getElem_toArray, List.getElem_cons_zero, List.getElem_cons_succ, cells_bool, cells_u64, List.drop, List.take, List.getElem?_cons_zero, List.getElem?_cons_succ] at g0 g1 g2 g3
      obtain ⟨a, e0, _⟩ := DataW.trod_bool Tryz.underlying4 g0
      obtain ⟨b, e1, _, wb⟩ := DataW.trod_int Tryz.underlying27 g1
      obtain ⟨c, e2, _, wc⟩ := DataW.trod_int Tryz.underlying27 g2
      obtain ⟨d, e3, _⟩ := DataW.trod_bool Tryz.underlying4 g3
      simp only [List.cons.injEq, and_true] at e0 e1 e2 e3
      subst e0 e1 e2 e3
      exact ⟨a, b, c, d, rfl, bounds_u64 wb, bounds_u64 wc⟩
end
theorem szS_mu (x : SB) : szS x ≤ 60 * muS x := by unfold szS szC muS; omega
theorem szT_mu : ∀ ts : List SB, szT ts ≤ 60 * (ts.map muS).sum
  | [] => by simp [szT]
  | x :: l => by
    have h1 := szS_mu x
    have h2 := szT_mu l
    simp only [szT, List.map_cons, List.sum_cons]
    omega
theorem grp_sz {r : RT} (h : muR r ≤ 1048576) : 12 + szT r.types ≤ 17592186041000 := by
  have := szT_mu r.types
  unfold muR at h
  omega
theorem grp_small {r : RT} (h : muR r ≤ 1048576) : ∀ x ∈ r.types, smallS x := by
  intro x hx
  have h1 : muS x ≤ (r.types.map muS).sum := sum_mem hx
  have h2 : x.comp.params.length ≤ muS x := by unfold muS; omega
  have h3 : x.comp.results.length ≤ muS x := by unfold muS; omega
  unfold muR at h
  exact ⟨by omega, by omega⟩
theorem grp_ok {r : RT} (h : ∀ y ∈ r.types, Rng y) : ∀ x ∈ r.types, okS x := by
  intro x hx
  have q := h x hx
  refine ⟨fun n hn => q.1 n hn, fun v hv => (q.3 v hv).2, fun v hv => (q.4 v hv).2, fun f hf => (q.5 f hf).2⟩
end Go.Proofs.YtchehejjdinifaaGreatDoor

namespace Go.Proofs.YtchehejjdinifaaGreatDoor
open Go.RowKit
set_option linter.unusedVariables false
set_option linter.unusedSimpArgs false

def Er {α : Type} (wr : α → Except Nat (List Int)) : Prop := ∀ a e, wr a = .error e → e ≠ 0
theorem then_er {a b : Except Nat (List Int)} {e : Nat} (h : thenW a b = .error e) : a = .error e ∨ b = .error e := by
  cases a with
  | error x => simp only [thenW, Except.error.injEq] at h; subst h; exact Or.inl rfl
  | ok x =>
    cases b with
    | error y => simp only [thenW, Except.error.injEq] at h; subst h; exact Or.inr rfl
    | ok y => cases h
theorem no_ok {m : List Int} {e : Nat} (h : (Except.ok m : Except Nat (List Int)) = .error e) : False := by cases h
theorem four_er {e : Nat} (h : (Except.error 4 : Except Nat (List Int)) = .error e) : e ≠ 0 := by
  simp only [Except.error.injEq] at h; omega
theorem code_er {k n : Int} {e : Nat} (h : codeR k n = .error e) : e ≠ 0 := by
  unfold codeR at h
  split at h
  · exact absurd h (by simp)
  · exact four_er h
theorem uidx_er : Er uidxW := by
  intro n e h
  unfold uidxW at h
  split at h
  · exact (no_ok h).elim
  · exact four_er h
theorem heap_er : Er heapW := by
  intro n e h
  unfold heapW sidxW at h
  split at h
  · split at h
    · exact (no_ok h).elim
    · exact four_er h
  · exact code_er h
theorem ref_er : Er refW := by
  intro t e h
  unfold refW at h
  split at h
  · rcases then_er h with h | h
    · split at h
      · exact code_er h
      · split at h
        · exact code_er h
        · exact (no_ok h).elim
    · exact heap_er _ _ h
  · exact four_er h
theorem plain_er {k : Int} : Er (plainW k) := by
  intro t e h
  unfold plainW at h
  split at h
  · exact code_er h
  · exact four_er h
theorem val_er : Er valW := by
  intro t e h
  unfold valW at h
  split at h
  · exact ref_er _ _ h
  · exact plain_er _ _ h
theorem stor_er : Er storW := by
  intro t e h
  unfold storW at h
  split at h
  · exact plain_er _ _ h
  · exact val_er _ _ h
theorem field_er : Er fieldW := by
  intro t e h
  unfold fieldW at h
  rcases then_er h with h | h
  · exact stor_er _ _ h
  · exact (no_ok h).elim
theorem many_er {α : Type} {wr : α → Except Nat (List Int)} (H : Er wr) : ∀ (xs : List α) (e : Nat), manyW wr xs = .error e → e ≠ 0
  | [], e, h => by cases h
  | x :: xs, e, h => by
    rw [manyW] at h
    rcases then_er h with h | h
    · exact H _ _ h
    · exact many_er H xs e h
theorem list_er {α : Type} {wr : α → Except Nat (List Int)} (H : Er wr) (lim : Nat) : Er (listW lim wr) := by
  intro xs e h
  unfold listW at h
  split at h
  · simp only [Except.error.injEq] at h; omega
  · rcases then_er h with h | h
    · exact (no_ok h).elim
    · exact many_er H _ _ h
theorem comp_er : Er compW := by
  intro c e h
  unfold compW at h
  split at h
  · split at h
    · rcases then_er h with h | h
      · exact (no_ok h).elim
      · rcases then_er h with h | h
        · exact list_er val_er _ _ _ h
        · exact list_er val_er _ _ _ h
    · split at h
      · rcases then_er h with h | h
        · exact (no_ok h).elim
        · exact list_er field_er _ _ _ h
      · rcases then_er h with h | h
        · exact (no_ok h).elim
        · exact field_er _ _ h
  · exact four_er h
theorem sub_er : Er subW := by
  intro x e h
  unfold subW declW at h
  split at h
  · rcases then_er h with h | h
    · rcases then_er h with h | h
      · exact (no_ok h).elim
      · exact list_er uidx_er _ _ _ h
    · exact comp_er _ _ h
  · exact comp_er _ _ h
theorem rec_er : Er recW := by
  intro g e h
  unfold recW at h
  split at h
  · exact sub_er _ _ h
  · rcases then_er h with h | h
    · exact (no_ok h).elim
    · exact list_er sub_er _ _ _ h
theorem lim_er {wide hm : Bool} {mn mx : Int} {e : Nat} (h : limW wide mn mx hm = .error e) : e ≠ 0 := by
  unfold limW at h
  split at h
  · exact (no_ok h).elim
  · exact four_er h
theorem extP_er {k : Int} {b : Bool} {R : Except Nat (List Int)} {e : Nat} (hR : ∀ e, R = .error e → e ≠ 0) (h : extP k b R = .error e) : e ≠ 0 := by
  unfold extP at h
  split at h
  · rcases then_er h with h | h
    · exact (no_ok h).elim
    · exact hR _ h
  · exact four_er h
theorem ext_er {k ty tn th tp tq mp mq gn gh : Int} {tz tw tm mw mm gz gm : Bool} {e : Nat} (h : extW k ty tn th tp tq mp mq gn gh tz tw tm mw mm gz gm = .error e) : e ≠ 0 := by
  unfold extW at h
  split at h
  · exact extP_er (fun e h => uidx_er _ _ h) h
  · split at h
    · refine extP_er (fun e h => ?_) h
      unfold tabW at h
      rcases then_er h with h | h
      · exact ref_er _ _ h
      · exact lim_er h
    · split at h
      · exact extP_er (fun e h => lim_er h) h
      · split at h
        · refine extP_er (fun e h => ?_) h
          unfold gloW at h
          rcases then_er h with h | h
          · exact val_er _ _ h
          · exact (no_ok h).elim
        · split at h
          · refine extP_er (fun e h => ?_) h
            unfold tagW at h
            rcases then_er h with h | h
            · exact (no_ok h).elim
            · exact uidx_er _ _ h
          · exact four_er h
theorem name_er : Er nameW := by
  intro s e h
  unfold nameW at h
  split at h
  · exact (no_ok h).elim
  · rename_i hf
    simp only [Except.error.injEq] at h
    unfold nf at hf h
    split at hf
    · rename_i hl
      rw [if_pos hl] at h
      omega
    · rename_i hl
      rw [if_neg hl] at h
      split at hf
      · exact absurd rfl hf
      · rename_i hu
        rw [if_neg hu] at h
        omega
theorem imp_er {s t : List Int} {X : Except Nat (List Int)} {e : Nat} (hX : ∀ e, X = .error e → e ≠ 0) (h : impW s t X = .error e) : e ≠ 0 := by
  unfold impW at h
  rcases then_er h with h | h
  · exact name_er _ _ h
  · rcases then_er h with h | h
    · exact name_er _ _ h
    · exact hX _ h
theorem back_top {α : Type} {rd : List Int → Nat → RS α} {a z : α} {f m b : List Int} (h : Bk rd a m) : topR (rd (f ++ m ++ b)) z (f ++ m ++ b) (f.length : Int) = (a, ((f.length + m.length : Nat) : Int), 0) := by
  rw [topR_in (by simp), List.append_assoc, h f b]
theorem rec_few {ts : List SB} {ex : Bool} {m : List Int} (hmu : (ts.map muS).sum ≤ 1048576) (h : recW ⟨ts, ex⟩ = .ok m) : m.length ≤ 70000000 := by
  have := rec_len (μ := muS) (fun x => by unfold muS; omega) h
  simp only at this
  omega
end Go.Proofs.YtchehejjdinifaaGreatDoor
