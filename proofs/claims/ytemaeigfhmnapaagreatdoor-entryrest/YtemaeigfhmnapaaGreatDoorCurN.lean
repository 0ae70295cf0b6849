/-
  The walks of numeral, typeNumber, index; no statement is proved here.
-/
import Derived.Test.YtemaeigfhmnapaaGreatDoorCur
namespace Go.Proofs.YtemaeigfhmnapaaGreatDoor
open Go.RowKit
set_option linter.unusedVariables false
set_option linter.unusedSimpArgs false

theorem wrap64_sg (n : Int) : wrap64 n = sg64 n := by unfold wrap64 sg64; omega
set_option maxRecDepth 100000 in
set_option maxHeartbeats 1000000 in
theorem numU_any {w : World} {b : Nat} {v : Value} {l : List Int} {p : Nat} (h : CU w b v l p) :
    Calls Tryz.prog 62 #[.pointer (some ⟨b, 0, none⟩), .func (.func 63) #[] #[]] w (Ans (fun n => .int .u32 n) b v l w (numR 32 false l p)) := by
  have c0 := h.c0
  have c1 := h.c1
  have z1 := h.z1
  obtain ⟨a, cap, rfl⟩ := h.rd.len
  have H : Hid (CU w b (.slice a l.length cap) l p) := h
  have hl := h.len
  have HC : Hid (∀ k, Calls Tryz.prog 63 #[.slice a l.length cap, .int .i64 (p : Int), .int .i64 (l.length : Int)] (w.drewN k) fun e w' => e = .returned (.tuple #[.int .u32 ((rd 32 false l p l.length).1 % 4294967296), .int .i64 (rd 32 false l p l.length).2.1, .int .i64 (rd 32 false l p l.length).2.2]) ∧ w' = w.drewN k) := fun k => u32_any _ l p l.length _ (h.rd.drewN k) h.byt h.len
  rcases numR_ways (b := 32) (sg := false) h.le with ⟨n, q, hr, h1, h2, h3⟩ | ⟨n, f, e, hr, h1, h2, h3, h4⟩
  · rw [h3]
    have hb := rd_32 h.byt hr
    have hmod : n % 4294967296 = n := by omega
    rw [hr] at HC
    simp only [hmod] at HC
    clear h hr h3
    go_enter Tryz.func62, Tryz.ntmps62
    go_wp2_with fail
    go_quiet ((go_at_call 63; exact q0_same HC.out))
    go_wp2_with fail
    go_ret
    exact ⟨rfl, ((Turn.refl _ _).drewN _).set (Or.inl (by simp)) _, (H.out.grew ((Grew.refl w).drewN _)).set1 h2⟩
  · rw [h4]
    rw [hr] at HC
    simp only at HC
    have he : ((e : Int) != 0) = true := by
      rcases h3 with rfl | rfl <;> rfl
    clear h hr h4 h3
    go_enter Tryz.func62, Tryz.ntmps62
    go_wp2_with fail
    go_quiet ((go_at_call 63; exact q0_same HC.out))
    go_wp2_with fail
    refine (giveUp_any _ _ _).mono ?_
    rintro en w1 ⟨rfl, h1⟩
    obtain rfl := h1.symm
    go_wp2_with fail
    exact ⟨rfl, rfl, (Turn.refl _ _).drewN _⟩
set_option maxRecDepth 100000 in
set_option maxHeartbeats 1000000 in
theorem numS_any {w : World} {b : Nat} {v : Value} {l : List Int} {p : Nat} (h : CU w b v l p) :
    Calls Tryz.prog 95 #[.pointer (some ⟨b, 0, none⟩), .func (.func 84) #[] #[]] w (Ans (fun n => .int .i64 (sg64 n)) b v l w (numR 33 true l p)) := by
  have c0 := h.c0
  have c1 := h.c1
  have z1 := h.z1
  obtain ⟨a, cap, rfl⟩ := h.rd.len
  have H : Hid (CU w b (.slice a l.length cap) l p) := h
  have hl := h.len
  have HC : Hid (∀ k, Calls Tryz.prog 84 #[.slice a l.length cap, .int .i64 (p : Int), .int .i64 (l.length : Int)] (w.drewN k) fun e w' => e = .returned (.tuple #[.int .i64 (sg64 (rd 33 true l p l.length).1), .int .i64 (rd 33 true l p l.length).2.1, .int .i64 (rd 33 true l p l.length).2.2]) ∧ w' = w.drewN k) := fun k => by rw [← wrap64_sg]; exact s33_any _ l p l.length _ (h.rd.drewN k) h.byt h.len
  rcases numR_ways (b := 33) (sg := true) h.le with ⟨n, q, hr, h1, h2, h3⟩ | ⟨n, f, e, hr, h1, h2, h3, h4⟩
  · rw [h3]
    rw [hr] at HC
    simp only at HC
    clear h hr h3
    go_enter Tryz.func95, Tryz.ntmps95
    go_wp2_with fail
    go_quiet ((go_at_call 84; exact q0_same HC.out))
    go_wp2_with fail
    go_ret
    exact ⟨rfl, ((Turn.refl _ _).drewN _).set (Or.inl (by simp)) _, (H.out.grew ((Grew.refl w).drewN _)).set1 h2⟩
  · rw [h4]
    rw [hr] at HC
    simp only at HC
    have he : ((e : Int) != 0) = true := by
      rcases h3 with rfl | rfl <;> rfl
    clear h hr h4 h3
    go_enter Tryz.func95, Tryz.ntmps95
    go_wp2_with fail
    go_quiet ((go_at_call 84; exact q0_same HC.out))
    go_wp2_with fail
    refine (giveUp_any _ _ _).mono ?_
    rintro en w1 ⟨rfl, h1⟩
    obtain rfl := h1.symm
    go_wp2_with fail
    exact ⟨rfl, rfl, (Turn.refl _ _).drewN _⟩
set_option maxRecDepth 100000 in
set_option maxHeartbeats 1000000 in
theorem numW_any {w : World} {b : Nat} {v : Value} {l : List Int} {p : Nat} (h : CU w b v l p) :
    Calls Tryz.prog 67 #[.pointer (some ⟨b, 0, none⟩), .func (.func 68) #[] #[]] w (Ans (fun n => .int .u64 n) b v l w (numR 64 false l p)) := by
  have c0 := h.c0
  have c1 := h.c1
  have z1 := h.z1
  obtain ⟨a, cap, rfl⟩ := h.rd.len
  have H : Hid (CU w b (.slice a l.length cap) l p) := h
  have hl := h.len
  have HC : Hid (∀ k, Calls Tryz.prog 68 #[.slice a l.length cap, .int .i64 (p : Int), .int .i64 (l.length : Int)] (w.drewN k) fun e w' => e = .returned (.tuple #[.int .u64 (rd 64 false l p l.length).1, .int .i64 (rd 64 false l p l.length).2.1, .int .i64 (rd 64 false l p l.length).2.2]) ∧ w' = w.drewN k) := fun k => u64_any _ l p l.length _ (h.rd.drewN k) h.byt h.len
  rcases numR_ways (b := 64) (sg := false) h.le with ⟨n, q, hr, h1, h2, h3⟩ | ⟨n, f, e, hr, h1, h2, h3, h4⟩
  · rw [h3]
    rw [hr] at HC
    simp only at HC
    clear h hr h3
    go_enter Tryz.func67, Tryz.ntmps67
    go_wp2_with fail
    go_quiet ((go_at_call 68; exact q0_same HC.out))
    go_wp2_with fail
    go_ret
    exact ⟨rfl, ((Turn.refl _ _).drewN _).set (Or.inl (by simp)) _, (H.out.grew ((Grew.refl w).drewN _)).set1 h2⟩
  · rw [h4]
    rw [hr] at HC
    simp only at HC
    have he : ((e : Int) != 0) = true := by
      rcases h3 with rfl | rfl <;> rfl
    clear h hr h4 h3
    go_enter Tryz.func67, Tryz.ntmps67
    go_wp2_with fail
    go_quiet ((go_at_call 68; exact q0_same HC.out))
    go_wp2_with fail
    refine (giveUp_any _ _ _).mono ?_
    rintro en w1 ⟨rfl, h1⟩
    obtain rfl := h1.symm
    go_wp2_with fail
    exact ⟨rfl, rfl, (Turn.refl _ _).drewN _⟩
set_option maxRecDepth 100000 in
set_option maxHeartbeats 1000000 in
theorem typeS_any {w : World} {b : Nat} {v : Value} {l : List Int} {p : Nat} (h : CU w b v l p) :
    Calls Tryz.prog 83 #[.pointer (some ⟨b, 0, none⟩), .func (.func 84) #[] #[]] w (Ans (fun n => .int .i64 n) b v l w (tyS l p)) := by
  have c1 := h.c1
  have C := numS_any h
  clear h
  unfold tyS
  cases hx : numR 33 true l p with
  | error y =>
    obtain ⟨f, e⟩ := y
    rw [hx] at C
    simp only
    clear hx
    go_enter Tryz.func83, Tryz.ntmps83
    go_wp2_with fail
    refine C.mono ?_
    rintro en w1 ⟨rfl, t1⟩
    go_wp2_with fail
    exact ⟨rfl, rfl, t1⟩
  | ok y =>
    obtain ⟨n, q⟩ := y
    rw [hx] at C
    simp only
    clear hx
    by_cases h0 : sg64 n < 0
    · rw [if_pos h0]
      have d0 : decide (sg64 n < 0) = true := by simpa using h0
      go_enter Tryz.func83, Tryz.ntmps83
      go_wp2_with fail
      refine C.mono ?_
      rintro en w1 ⟨rfl, t1, u1⟩
      have T1 : Hid (Turn [b] w w1) := t1
      clear C t1 u1
      go_wp2_with fail
      refine (giveUp_any _ 4 _).mono ?_
      rintro en w2 ⟨rfl, h2⟩
      obtain rfl := h2.symm
      go_wp2_with fail
      exact ⟨rfl, rfl, T1.out⟩
    · rw [if_neg h0]
      have d0 : decide (sg64 n < 0) = false := by simpa using h0
      by_cases h3 : 2147483647 < sg64 n
      · rw [if_pos h3]
        have d3 : decide (2147483647 < sg64 n) = true := by simpa using h3
        go_enter Tryz.func83, Tryz.ntmps83
        go_wp2_with fail
        refine C.mono ?_
        rintro en w1 ⟨rfl, t1, u1⟩
        have T1 : Hid (Turn [b] w w1) := t1
        clear C t1 u1
        go_wp2_with fail
        refine (giveUp_any _ 2 _).mono ?_
        rintro en w2 ⟨rfl, h2⟩
        obtain rfl := h2.symm
        go_wp2_with fail
        exact ⟨rfl, rfl, T1.out⟩
      · rw [if_neg h3]
        have d3 : decide (2147483647 < sg64 n) = false := by simpa using h3
        go_enter Tryz.func83, Tryz.ntmps83
        go_wp2_with fail
        refine C.mono ?_
        rintro en w1 ⟨rfl, t1, u1⟩
        have T1 : Hid (Turn [b] w w1) := t1
        have U1 : Hid (CU w1 b v l q) := u1
        clear C t1 u1
        go_wp2_with fail
        go_ret
        exact ⟨rfl, T1.out, U1.out⟩
set_option maxRecDepth 100000 in
set_option maxHeartbeats 1000000 in
theorem typeU_any {w : World} {b : Nat} {v : Value} {l : List Int} {p : Nat} (h : CU w b v l p) :
    Calls Tryz.prog 73 #[.pointer (some ⟨b, 0, none⟩), .func (.func 63) #[] #[]] w (Ans (fun n => .int .i64 n) b v l w (tyU l p)) := by
  have c1 := h.c1
  have C := numU_any h
  have HB : Hid (Byt l) := h.byt
  have hp := h.le
  clear h
  unfold tyU
  rcases numR_ways (b := 32) (sg := false) hp with ⟨n, q, hr, h1, h2, hx⟩ | ⟨n, f, e, hr, h1, h2, h3, hx⟩
  · have hb := rd_32 HB.out hr
    rw [hx] at C ⊢
    unfold limR
    simp only
    clear hx hr
    have d0 : decide (n < 0) = false := by simp; omega
    by_cases h3 : 2147483647 < n
    · rw [if_pos h3]
      have d3 : decide (2147483647 < n) = true := by simpa using h3
      go_enter Tryz.func73, Tryz.ntmps73
      go_wp2_with fail
      refine C.mono ?_
      rintro en w1 ⟨rfl, t1, u1⟩
      have T1 : Hid (Turn [b] w w1) := t1
      clear C t1 u1
      go_wp2_with fail
      refine (giveUp_any _ 2 _).mono ?_
      rintro en w2 ⟨rfl, h2⟩
      obtain rfl := h2.symm
      go_wp2_with fail
      exact ⟨rfl, rfl, T1.out⟩
    · rw [if_neg h3]
      have d3 : decide (2147483647 < n) = false := by simpa using h3
      go_enter Tryz.func73, Tryz.ntmps73
      go_wp2_with fail
      refine C.mono ?_
      rintro en w1 ⟨rfl, t1, u1⟩
      have T1 : Hid (Turn [b] w w1) := t1
      have U1 : Hid (CU w1 b v l q) := u1
      clear C t1 u1
      go_wp2_with fail
      go_ret
      exact ⟨by simp, T1.out, U1.out⟩
  · rw [hx] at C ⊢
    unfold limR
    simp only
    clear hx hr
    go_enter Tryz.func73, Tryz.ntmps73
    go_wp2_with fail
    refine C.mono ?_
    rintro en w1 ⟨rfl, t1⟩
    go_wp2_with fail
    exact ⟨rfl, rfl, t1⟩
theorem Calls.ans {α : Type} {enc : α → Value} {b : Nat} {v : Value} {l : List Int} {w : World} {r : RS α} {f : FuncId} {args : Array Value} {Q : Ending → World → Prop} (h : Calls Tryz.prog f args w (Ans enc b v l w r))
    (hok : ∀ x q w', r = .ok (x, q) → Turn [b] w w' → CU w' b v l q → Q (.returned (enc x)) w') (her : ∀ p e w', r = .error (p, e) → Turn [b] w w' → Q (.panicked (flt p e)) w') : Calls Tryz.prog f args w Q := by
  refine h.mono ?_
  intro en w' ha
  cases r with
  | error y => obtain ⟨p, e⟩ := y; obtain ⟨rfl, t⟩ := ha; exact her p e w' rfl t
  | ok y => obtain ⟨x, q⟩ := y; obtain ⟨rfl, t, u⟩ := ha; exact hok x q w' rfl t u
set_option maxRecDepth 100000 in
theorem index_any {w : World} {b : Nat} {v : Value} {l : List Int} {p : Nat} (h : CU w b v l p) :
    Calls Tryz.prog 54 #[.pointer (some ⟨b, 0, none⟩)] w (Ans (fun n => .int .i64 n) b v l w (tyU l p)) := by
  have C := typeU_any h
  clear h
  cases hx : tyU l p with
  | error y =>
    obtain ⟨f, e⟩ := y
    rw [hx] at C
    go_enter Tryz.func54, Tryz.ntmps54
    go_wp2_with fail
    refine C.mono ?_
    rintro en w1 ⟨rfl, t1⟩
    go_wp2_with fail
    exact ⟨rfl, rfl, t1⟩
  | ok y =>
    obtain ⟨n, q⟩ := y
    rw [hx] at C
    go_enter Tryz.func54, Tryz.ntmps54
    go_wp2_with fail
    refine C.mono ?_
    rintro en w1 ⟨rfl, t1, u1⟩
    have T1 : Hid (Turn [b] w w1) := t1
    have U1 : Hid (CU w1 b v l q) := u1
    clear C t1 u1
    go_wp2_with fail
    go_ret
    exact ⟨rfl, T1.out, U1.out⟩
end Go.Proofs.YtemaeigfhmnapaaGreatDoor
