/-
  The reader of instructions: more numbers; no statement is proved here.
-/
import Derived.Test.YtohapnninjdlfaaGreatDoorInN
namespace Go.Proofs.YtohapnninjdlfaaGreatDoor
open Go.RowKit
set_option linter.unusedVariables false
set_option linter.unusedSimpArgs false
set_option linter.constructorNameAsVariable false

def encW (n : Int) : Int := n
set_option maxRecDepth 100000 in
theorem cloW {w : World} {v : Value} {l : List Int} (p : Nat) (g : Nat) (hR : Reads w v l) (hb : Byt l) (hl : l.length ≤ 140737488351232) (hg : w.cell? ⟨g, 0, none⟩ = some (.func (.func 76) #[] #[])) :
    Calls Tryz.prog 103 #[v, .int .i64 (p : Int), .pointer (some ⟨g, 0, none⟩)] w fun en w' => en = .returned (.tuple #[.int .u64 (encW (rd 64 false l p l.length).1), .int .i64 (rd 64 false l p l.length).2.1, .int .i64 (rd 64 false l p l.length).2.2]) ∧ w' = w := by
  have HC := u64_any v l (p : Int) (l.length : Int) w hR hb hl
  obtain ⟨a, cap, rfl⟩ := hR.len
  clear hR hb
  go_enter Tryz.func103, Tryz.ntmps103
  go_wp2_with fail
  refine HC.mono ?_
  rintro en w1 ⟨rfl, h1⟩
  obtain rfl := h1.symm
  go_wp2_with fail
  go_ret3
  exact ⟨rfl, rfl⟩
set_option maxRecDepth 100000 in
set_option maxHeartbeats 2000000 in
theorem typedW {w : World} {b : Nat} {v : Value} {l : List Int} {st : Except (Nat × Nat) Nat} (h : DI w b v l st) (g : Nat) (hgb : g ≠ b) {gt : TypeId} (hg : w.heap[g]? = some (.cells #[.func (.func 76) #[] #[]] gt (0, 0))) :
    Calls Tryz.prog 102 #[.pointer (some ⟨b, 0, none⟩), .func (.func 103) #[] #[.pointer (some ⟨g, 0, none⟩)]] w (AnI (fun n => .int .u64 (encW n)) b v l w (runI (numR 64 false l) st)) := by
  have H : Hid (DI w b v l st) := h
  have hb : b < w.heap.size := h.lt
  have hl := h.len
  cases st with
  | error x =>
    obtain ⟨f, e⟩ := x
    have c2 := cell_of h.st.1 2
    simp at c2
    have de : ((e : Int) == 0) = false := by have := h.st.2; simp; exact this
    clear h
    go_enter Tryz.func102, Tryz.ntmps102
    go_wp2_with fail
    go_ret
    exact ⟨⟨0, by first | (simp [encW]; done) | (simp [encW]; unfold wrap32; omega) | (simp [encW]; unfold wrap64; omega) | (simp [encW, wrap32, wrap64]; done)⟩, Turn.refl _ _, H.out⟩
  | ok p =>
    have c0 := cell_of h.st.1 0
    have c1 := cell_of h.st.1 1
    have c2 := cell_of h.st.1 2
    have z1 := free_of h.st.1 1
    have z2 := free_of h.st.1 2
    have hle := h.st.2
    simp at c0 c1 c2
    show Calls _ _ _ _ (AnI _ _ _ _ _ (numR 64 false l p))
    obtain ⟨a, cap, rfl⟩ := h.rd.len
    have HC : Hid (∀ w1, Grew w w1 → Calls Tryz.prog 103 #[.slice a l.length cap, .int .i64 (p : Int), .pointer (some ⟨g, 0, none⟩)] w1 fun en w' => en = .returned (.tuple #[.int .u64 (encW (rd 64 false l p l.length).1), .int .i64 (rd 64 false l p l.length).2.1, .int .i64 (rd 64 false l p l.length).2.2]) ∧ w' = w1) := fun w1 gw => cloW p g (gw.reads h.rd) h.byt h.len (by have := cell_of ((gw.turn []).other hg (by simp)) 0; simpa using this)
    have GG : Hid (g ≠ b) := hgb
    rcases numR_ways (b := 64) (sg := false) hle with ⟨n, q, hr, h1, h2, h3⟩ | ⟨n, f, e, hr, h1, h2, h3, h4⟩
    · rw [h3]
      rw [hr] at HC
      simp only at HC
      clear h hr h3 hg hgb
      obtain ⟨N, hen⟩ : ∃ N, encW n = N := ⟨_, rfl⟩
      rw [hen] at HC
      have HN : Hid (encW n = N) := hen
      clear hen
      go_enter Tryz.func102, Tryz.ntmps102
      go_wp2_with fail
      go_region_with (first
        | (go_at_call 103
           refine (HC.out _ (by first | exact Grew.refl _ | exact (Grew.refl _).drew | exact (Grew.refl _).drewN _)).mono ?_
           rintro en w3 ⟨rfl, h3⟩
           obtain rfl := h3.symm))
      all_goals
        go_wp2_with fail
        go_ret
        refine ⟨?_, ?_⟩
        · show _ = Ending.returned (.int .u64 (encW n))
          rw [HN.out]
          rfl
        · have t := (((Turn.refl [b] w).drew).set (p := ⟨b, 1, none⟩) (Or.inl (by simp)) (.int .i64 (q : Int))).set (p := ⟨b, 2, none⟩) (Or.inl (by simp)) (.int .i64 0)
          refine ⟨t, H.out.of t ⟨?_, h2⟩⟩
          show ((w.setCell ⟨b, 1, none⟩ (.int .i64 (q : Int))).setCell ⟨b, 2, none⟩ (.int .i64 0)).heap[b]? = _
          rw [heap_set (heap_set H.out.st.1 1 _) 2 _]
          simp [rdI]
    · rw [h4]
      rw [hr] at HC
      simp only at HC
      have he0 : e ≠ 0 := by omega
      clear h hr h3 h4 hg hgb
      obtain ⟨N, hen⟩ : ∃ N, encW n = N := ⟨_, rfl⟩
      rw [hen] at HC
      have HN : Hid (encW n = N) := hen
      clear hen
      go_enter Tryz.func102, Tryz.ntmps102
      go_wp2_with fail
      go_region_with (first
        | (go_at_call 103
           refine (HC.out _ (by first | exact Grew.refl _ | exact (Grew.refl _).drew | exact (Grew.refl _).drewN _)).mono ?_
           rintro en w3 ⟨rfl, h3⟩
           obtain rfl := h3.symm))
      all_goals
        go_wp2_with fail
        go_ret
        refine ⟨⟨n, ?_⟩, ?_⟩
        · show _ = Ending.returned (.int .u64 (encW n))
          rw [HN.out]
          rfl
        · have t := (((Turn.refl [b] w).drew).set (p := ⟨b, 1, none⟩) (Or.inl (by simp)) (.int .i64 (f : Int))).set (p := ⟨b, 2, none⟩) (Or.inl (by simp)) (.int .i64 (e : Int))
          refine ⟨t, H.out.of t ⟨?_, he0⟩⟩
          show ((w.setCell ⟨b, 1, none⟩ (.int .i64 (f : Int))).setCell ⟨b, 2, none⟩ (.int .i64 (e : Int))).heap[b]? = _
          rw [heap_set (heap_set H.out.st.1 1 _) 2 _]
          simp [rdI]
set_option maxRecDepth 100000 in
theorem numWI {w : World} {b : Nat} {v : Value} {l : List Int} {st : Except (Nat × Nat) Nat} (h : DI w b v l st) :
    Calls Tryz.prog 75 #[.pointer (some ⟨b, 0, none⟩), .func (.func 76) #[] #[]] w (AnI (fun n => .int .u64 (encW n)) b v l w (runI (numR 64 false l) st)) := by
  have hmf : ∀ (fn : Fn) (first cap : Array Value) (w : World), (Instr.makeFunc fn first cap).run Tryz.prog w = .ok (.func fn first cap) w := fun _ _ _ _ => rfl
  have hb : b < w.heap.size := h.lt
  have C := typedW (h.grew ((Grew.refl w).alloc (.cells #[.func (.func 76) #[] #[]] 123))) w.heap.size (by omega) (heap_alloc_last _ _)
  have T0 : Hid (Turn [b] w (w.alloc (.cells #[.func (.func 76) #[] #[]] 123))) := (Turn.refl [b] w).alloc _
  clear h
  generalize runI (numR 64 false l) st = X at *
  go_enter Tryz.func75, Tryz.ntmps75
  go_wp2_with fail
  refine C.mono ?_
  intro en w1 ha
  clear C
  cases X with
  | error y =>
    obtain ⟨f, e⟩ := y
    obtain ⟨⟨y, rfl⟩, t1, s1⟩ := ha
    have F1 : Hid (FinI b v l w w1 (.error (f, e))) := ⟨T0.out.trans t1, s1⟩
    clear t1 s1
    go_wp2_with fail
    go_ret
    exact ⟨⟨y, rfl⟩, F1.out⟩
  | ok y =>
    obtain ⟨n, q⟩ := y
    obtain ⟨rfl, t1, s1⟩ := ha
    have F1 : Hid (FinI b v l w w1 (.ok q)) := ⟨T0.out.trans t1, s1⟩
    clear t1 s1
    go_wp2_with fail
    go_ret
    exact ⟨rfl, F1.out⟩
def encI (n : Int) : Int := (wrap32 n)
set_option maxRecDepth 100000 in
theorem cloI {w : World} {v : Value} {l : List Int} (p : Nat) (g : Nat) (hR : Reads w v l) (hb : Byt l) (hl : l.length ≤ 140737488351232) (hg : w.cell? ⟨g, 0, none⟩ = some (.func (.func 78) #[] #[])) :
    Calls Tryz.prog 106 #[v, .int .i64 (p : Int), .pointer (some ⟨g, 0, none⟩)] w fun en w' => en = .returned (.tuple #[.int .i32 (encI (rd 32 true l p l.length).1), .int .i64 (rd 32 true l p l.length).2.1, .int .i64 (rd 32 true l p l.length).2.2]) ∧ w' = w := by
  have HC := s32_any v l (p : Int) (l.length : Int) w hR hb hl
  obtain ⟨a, cap, rfl⟩ := hR.len
  clear hR hb
  go_enter Tryz.func106, Tryz.ntmps106
  go_wp2_with fail
  refine HC.mono ?_
  rintro en w1 ⟨rfl, h1⟩
  obtain rfl := h1.symm
  go_wp2_with fail
  go_ret3
  exact ⟨rfl, rfl⟩
set_option maxRecDepth 100000 in
set_option maxHeartbeats 2000000 in
theorem typedI {w : World} {b : Nat} {v : Value} {l : List Int} {st : Except (Nat × Nat) Nat} (h : DI w b v l st) (g : Nat) (hgb : g ≠ b) {gt : TypeId} (hg : w.heap[g]? = some (.cells #[.func (.func 78) #[] #[]] gt (0, 0))) :
    Calls Tryz.prog 105 #[.pointer (some ⟨b, 0, none⟩), .func (.func 106) #[] #[.pointer (some ⟨g, 0, none⟩)]] w (AnI (fun n => .int .i32 (encI n)) b v l w (runI (numR 32 true l) st)) := by
  have H : Hid (DI w b v l st) := h
  have hb : b < w.heap.size := h.lt
  have hl := h.len
  cases st with
  | error x =>
    obtain ⟨f, e⟩ := x
    have c2 := cell_of h.st.1 2
    simp at c2
    have de : ((e : Int) == 0) = false := by have := h.st.2; simp; exact this
    clear h
    go_enter Tryz.func105, Tryz.ntmps105
    go_wp2_with fail
    go_ret
    exact ⟨⟨0, by first | (simp [encI]; done) | (simp [encI]; unfold wrap32; omega) | (simp [encI]; unfold wrap64; omega) | (simp [encI, wrap32, wrap64]; done)⟩, Turn.refl _ _, H.out⟩
  | ok p =>
    have c0 := cell_of h.st.1 0
    have c1 := cell_of h.st.1 1
    have c2 := cell_of h.st.1 2
    have z1 := free_of h.st.1 1
    have z2 := free_of h.st.1 2
    have hle := h.st.2
    simp at c0 c1 c2
    show Calls _ _ _ _ (AnI _ _ _ _ _ (numR 32 true l p))
    obtain ⟨a, cap, rfl⟩ := h.rd.len
    have HC : Hid (∀ w1, Grew w w1 → Calls Tryz.prog 106 #[.slice a l.length cap, .int .i64 (p : Int), .pointer (some ⟨g, 0, none⟩)] w1 fun en w' => en = .returned (.tuple #[.int .i32 (encI (rd 32 true l p l.length).1), .int .i64 (rd 32 true l p l.length).2.1, .int .i64 (rd 32 true l p l.length).2.2]) ∧ w' = w1) := fun w1 gw => cloI p g (gw.reads h.rd) h.byt h.len (by have := cell_of ((gw.turn []).other hg (by simp)) 0; simpa using this)
    have GG : Hid (g ≠ b) := hgb
    rcases numR_ways (b := 32) (sg := true) hle with ⟨n, q, hr, h1, h2, h3⟩ | ⟨n, f, e, hr, h1, h2, h3, h4⟩
    · rw [h3]
      rw [hr] at HC
      simp only at HC
      clear h hr h3 hg hgb
      obtain ⟨N, hen⟩ : ∃ N, encI n = N := ⟨_, rfl⟩
      rw [hen] at HC
      have HN : Hid (encI n = N) := hen
      clear hen
      go_enter Tryz.func105, Tryz.ntmps105
      go_wp2_with fail
      go_region_with (first
        | (go_at_call 106
           refine (HC.out _ (by first | exact Grew.refl _ | exact (Grew.refl _).drew | exact (Grew.refl _).drewN _)).mono ?_
           rintro en w3 ⟨rfl, h3⟩
           obtain rfl := h3.symm))
      all_goals
        go_wp2_with fail
        go_ret
        refine ⟨?_, ?_⟩
        · show _ = Ending.returned (.int .i32 (encI n))
          rw [HN.out]
          rfl
        · have t := (((Turn.refl [b] w).drew).set (p := ⟨b, 1, none⟩) (Or.inl (by simp)) (.int .i64 (q : Int))).set (p := ⟨b, 2, none⟩) (Or.inl (by simp)) (.int .i64 0)
          refine ⟨t, H.out.of t ⟨?_, h2⟩⟩
          show ((w.setCell ⟨b, 1, none⟩ (.int .i64 (q : Int))).setCell ⟨b, 2, none⟩ (.int .i64 0)).heap[b]? = _
          rw [heap_set (heap_set H.out.st.1 1 _) 2 _]
          simp [rdI]
    · rw [h4]
      rw [hr] at HC
      simp only at HC
      have he0 : e ≠ 0 := by omega
      clear h hr h3 h4 hg hgb
      obtain ⟨N, hen⟩ : ∃ N, encI n = N := ⟨_, rfl⟩
      rw [hen] at HC
      have HN : Hid (encI n = N) := hen
      clear hen
      go_enter Tryz.func105, Tryz.ntmps105
      go_wp2_with fail
      go_region_with (first
        | (go_at_call 106
           refine (HC.out _ (by first | exact Grew.refl _ | exact (Grew.refl _).drew | exact (Grew.refl _).drewN _)).mono ?_
           rintro en w3 ⟨rfl, h3⟩
           obtain rfl := h3.symm))
      all_goals
        go_wp2_with fail
        go_ret
        refine ⟨⟨n, ?_⟩, ?_⟩
        · show _ = Ending.returned (.int .i32 (encI n))
          rw [HN.out]
          rfl
        · have t := (((Turn.refl [b] w).drew).set (p := ⟨b, 1, none⟩) (Or.inl (by simp)) (.int .i64 (f : Int))).set (p := ⟨b, 2, none⟩) (Or.inl (by simp)) (.int .i64 (e : Int))
          refine ⟨t, H.out.of t ⟨?_, he0⟩⟩
          show ((w.setCell ⟨b, 1, none⟩ (.int .i64 (f : Int))).setCell ⟨b, 2, none⟩ (.int .i64 (e : Int))).heap[b]? = _
          rw [heap_set (heap_set H.out.st.1 1 _) 2 _]
          simp [rdI]
set_option maxRecDepth 100000 in
theorem numII {w : World} {b : Nat} {v : Value} {l : List Int} {st : Except (Nat × Nat) Nat} (h : DI w b v l st) :
    Calls Tryz.prog 77 #[.pointer (some ⟨b, 0, none⟩), .func (.func 78) #[] #[]] w (AnI (fun n => .int .i32 (encI n)) b v l w (runI (numR 32 true l) st)) := by
  have hmf : ∀ (fn : Fn) (first cap : Array Value) (w : World), (Instr.makeFunc fn first cap).run Tryz.prog w = .ok (.func fn first cap) w := fun _ _ _ _ => rfl
  have hb : b < w.heap.size := h.lt
  have C := typedI (h.grew ((Grew.refl w).alloc (.cells #[.func (.func 78) #[] #[]] 125))) w.heap.size (by omega) (heap_alloc_last _ _)
  have T0 : Hid (Turn [b] w (w.alloc (.cells #[.func (.func 78) #[] #[]] 125))) := (Turn.refl [b] w).alloc _
  clear h
  generalize runI (numR 32 true l) st = X at *
  go_enter Tryz.func77, Tryz.ntmps77
  go_wp2_with fail
  refine C.mono ?_
  intro en w1 ha
  clear C
  cases X with
  | error y =>
    obtain ⟨f, e⟩ := y
    obtain ⟨⟨y, rfl⟩, t1, s1⟩ := ha
    have F1 : Hid (FinI b v l w w1 (.error (f, e))) := ⟨T0.out.trans t1, s1⟩
    clear t1 s1
    go_wp2_with fail
    go_ret
    exact ⟨⟨y, rfl⟩, F1.out⟩
  | ok y =>
    obtain ⟨n, q⟩ := y
    obtain ⟨rfl, t1, s1⟩ := ha
    have F1 : Hid (FinI b v l w w1 (.ok q)) := ⟨T0.out.trans t1, s1⟩
    clear t1 s1
    go_wp2_with fail
    go_ret
    exact ⟨rfl, F1.out⟩
def encL (n : Int) : Int := (wrap64 n)
set_option maxRecDepth 100000 in
theorem cloL {w : World} {v : Value} {l : List Int} (p : Nat) (g : Nat) (hR : Reads w v l) (hb : Byt l) (hl : l.length ≤ 140737488351232) (hg : w.cell? ⟨g, 0, none⟩ = some (.func (.func 80) #[] #[])) :
    Calls Tryz.prog 109 #[v, .int .i64 (p : Int), .pointer (some ⟨g, 0, none⟩)] w fun en w' => en = .returned (.tuple #[.int .i64 (encL (rd 64 true l p l.length).1), .int .i64 (rd 64 true l p l.length).2.1, .int .i64 (rd 64 true l p l.length).2.2]) ∧ w' = w := by
  have HC := s64_any v l (p : Int) (l.length : Int) w hR hb hl
  obtain ⟨a, cap, rfl⟩ := hR.len
  clear hR hb
  go_enter Tryz.func109, Tryz.ntmps109
  go_wp2_with fail
  refine HC.mono ?_
  rintro en w1 ⟨rfl, h1⟩
  obtain rfl := h1.symm
  go_wp2_with fail
  go_ret3
  exact ⟨rfl, rfl⟩
set_option maxRecDepth 100000 in
set_option maxHeartbeats 2000000 in
theorem typedL {w : World} {b : Nat} {v : Value} {l : List Int} {st : Except (Nat × Nat) Nat} (h : DI w b v l st) (g : Nat) (hgb : g ≠ b) {gt : TypeId} (hg : w.heap[g]? = some (.cells #[.func (.func 80) #[] #[]] gt (0, 0))) :
    Calls Tryz.prog 108 #[.pointer (some ⟨b, 0, none⟩), .func (.func 109) #[] #[.pointer (some ⟨g, 0, none⟩)]] w (AnI (fun n => .int .i64 (encL n)) b v l w (runI (numR 64 true l) st)) := by
  have H : Hid (DI w b v l st) := h
  have hb : b < w.heap.size := h.lt
  have hl := h.len
  cases st with
  | error x =>
    obtain ⟨f, e⟩ := x
    have c2 := cell_of h.st.1 2
    simp at c2
    have de : ((e : Int) == 0) = false := by have := h.st.2; simp; exact this
    clear h
    go_enter Tryz.func108, Tryz.ntmps108
    go_wp2_with fail
    go_ret
    exact ⟨⟨0, by first | (simp [encL]; done) | (simp [encL]; unfold wrap32; omega) | (simp [encL]; unfold wrap64; omega) | (simp [encL, wrap32, wrap64]; done)⟩, Turn.refl _ _, H.out⟩
  | ok p =>
    have c0 := cell_of h.st.1 0
    have c1 := cell_of h.st.1 1
    have c2 := cell_of h.st.1 2
    have z1 := free_of h.st.1 1
    have z2 := free_of h.st.1 2
    have hle := h.st.2
    simp at c0 c1 c2
    show Calls _ _ _ _ (AnI _ _ _ _ _ (numR 64 true l p))
    obtain ⟨a, cap, rfl⟩ := h.rd.len
    have HC : Hid (∀ w1, Grew w w1 → Calls Tryz.prog 109 #[.slice a l.length cap, .int .i64 (p : Int), .pointer (some ⟨g, 0, none⟩)] w1 fun en w' => en = .returned (.tuple #[.int .i64 (encL (rd 64 true l p l.length).1), .int .i64 (rd 64 true l p l.length).2.1, .int .i64 (rd 64 true l p l.length).2.2]) ∧ w' = w1) := fun w1 gw => cloL p g (gw.reads h.rd) h.byt h.len (by have := cell_of ((gw.turn []).other hg (by simp)) 0; simpa using this)
    have GG : Hid (g ≠ b) := hgb
    rcases numR_ways (b := 64) (sg := true) hle with ⟨n, q, hr, h1, h2, h3⟩ | ⟨n, f, e, hr, h1, h2, h3, h4⟩
    · rw [h3]
      rw [hr] at HC
      simp only at HC
      clear h hr h3 hg hgb
      obtain ⟨N, hen⟩ : ∃ N, encL n = N := ⟨_, rfl⟩
      rw [hen] at HC
      have HN : Hid (encL n = N) := hen
      clear hen
      go_enter Tryz.func108, Tryz.ntmps108
      go_wp2_with fail
      go_region_with (first
        | (go_at_call 109
           refine (HC.out _ (by first | exact Grew.refl _ | exact (Grew.refl _).drew | exact (Grew.refl _).drewN _)).mono ?_
           rintro en w3 ⟨rfl, h3⟩
           obtain rfl := h3.symm))
      all_goals
        go_wp2_with fail
        go_ret
        refine ⟨?_, ?_⟩
        · show _ = Ending.returned (.int .i64 (encL n))
          rw [HN.out]
          rfl
        · have t := (((Turn.refl [b] w).drew).set (p := ⟨b, 1, none⟩) (Or.inl (by simp)) (.int .i64 (q : Int))).set (p := ⟨b, 2, none⟩) (Or.inl (by simp)) (.int .i64 0)
          refine ⟨t, H.out.of t ⟨?_, h2⟩⟩
          show ((w.setCell ⟨b, 1, none⟩ (.int .i64 (q : Int))).setCell ⟨b, 2, none⟩ (.int .i64 0)).heap[b]? = _
          rw [heap_set (heap_set H.out.st.1 1 _) 2 _]
          simp [rdI]
    · rw [h4]
      rw [hr] at HC
      simp only at HC
      have he0 : e ≠ 0 := by omega
      clear h hr h3 h4 hg hgb
      obtain ⟨N, hen⟩ : ∃ N, encL n = N := ⟨_, rfl⟩
      rw [hen] at HC
      have HN : Hid (encL n = N) := hen
      clear hen
      go_enter Tryz.func108, Tryz.ntmps108
      go_wp2_with fail
      go_region_with (first
        | (go_at_call 109
           refine (HC.out _ (by first | exact Grew.refl _ | exact (Grew.refl _).drew | exact (Grew.refl _).drewN _)).mono ?_
           rintro en w3 ⟨rfl, h3⟩
           obtain rfl := h3.symm))
      all_goals
        go_wp2_with fail
        go_ret
        refine ⟨⟨n, ?_⟩, ?_⟩
        · show _ = Ending.returned (.int .i64 (encL n))
          rw [HN.out]
          rfl
        · have t := (((Turn.refl [b] w).drew).set (p := ⟨b, 1, none⟩) (Or.inl (by simp)) (.int .i64 (f : Int))).set (p := ⟨b, 2, none⟩) (Or.inl (by simp)) (.int .i64 (e : Int))
          refine ⟨t, H.out.of t ⟨?_, he0⟩⟩
          show ((w.setCell ⟨b, 1, none⟩ (.int .i64 (f : Int))).setCell ⟨b, 2, none⟩ (.int .i64 (e : Int))).heap[b]? = _
          rw [heap_set (heap_set H.out.st.1 1 _) 2 _]
          simp [rdI]
set_option maxRecDepth 100000 in
theorem numLI {w : World} {b : Nat} {v : Value} {l : List Int} {st : Except (Nat × Nat) Nat} (h : DI w b v l st) :
    Calls Tryz.prog 79 #[.pointer (some ⟨b, 0, none⟩), .func (.func 80) #[] #[]] w (AnI (fun n => .int .i64 (encL n)) b v l w (runI (numR 64 true l) st)) := by
  have hmf : ∀ (fn : Fn) (first cap : Array Value) (w : World), (Instr.makeFunc fn first cap).run Tryz.prog w = .ok (.func fn first cap) w := fun _ _ _ _ => rfl
  have hb : b < w.heap.size := h.lt
  have C := typedL (h.grew ((Grew.refl w).alloc (.cells #[.func (.func 80) #[] #[]] 127))) w.heap.size (by omega) (heap_alloc_last _ _)
  have T0 : Hid (Turn [b] w (w.alloc (.cells #[.func (.func 80) #[] #[]] 127))) := (Turn.refl [b] w).alloc _
  clear h
  generalize runI (numR 64 true l) st = X at *
  go_enter Tryz.func79, Tryz.ntmps79
  go_wp2_with fail
  refine C.mono ?_
  intro en w1 ha
  clear C
  cases X with
  | error y =>
    obtain ⟨f, e⟩ := y
    obtain ⟨⟨y, rfl⟩, t1, s1⟩ := ha
    have F1 : Hid (FinI b v l w w1 (.error (f, e))) := ⟨T0.out.trans t1, s1⟩
    clear t1 s1
    go_wp2_with fail
    go_ret
    exact ⟨⟨y, rfl⟩, F1.out⟩
  | ok y =>
    obtain ⟨n, q⟩ := y
    obtain ⟨rfl, t1, s1⟩ := ha
    have F1 : Hid (FinI b v l w w1 (.ok q)) := ⟨T0.out.trans t1, s1⟩
    clear t1 s1
    go_wp2_with fail
    go_ret
    exact ⟨rfl, F1.out⟩
def encF (n : Int) : Int := n
set_option maxRecDepth 100000 in
theorem cloF {w : World} {v : Value} {l : List Int} (p : Nat) (g : Nat) (hR : Reads w v l) (hb : Byt l) (hl : l.length ≤ 140737488351232) (hg : w.cell? ⟨g, 0, none⟩ = some (.func (.func 81) #[] #[])) :
    Calls Tryz.prog 96 #[v, .int .i64 (p : Int), .pointer (some ⟨g, 0, none⟩)] w fun en w' => en = .returned (.tuple #[.int .u32 (encF (fx 4 l p l.length).1), .int .i64 (fx 4 l p l.length).2.1, .int .i64 (fx 4 l p l.length).2.2]) ∧ w' = w := by
  have HC := f32_any v l (p : Int) (l.length : Int) w hR hb hl
  obtain ⟨a, cap, rfl⟩ := hR.len
  clear hR hb
  go_enter Tryz.func96, Tryz.ntmps96
  go_wp2_with fail
  refine HC.mono ?_
  rintro en w1 ⟨rfl, h1⟩
  obtain rfl := h1.symm
  go_wp2_with fail
  go_ret3
  exact ⟨rfl, rfl⟩
set_option maxRecDepth 100000 in
set_option maxHeartbeats 2000000 in
theorem typedF {w : World} {b : Nat} {v : Value} {l : List Int} {st : Except (Nat × Nat) Nat} (h : DI w b v l st) (g : Nat) (hgb : g ≠ b) {gt : TypeId} (hg : w.heap[g]? = some (.cells #[.func (.func 81) #[] #[]] gt (0, 0))) :
    Calls Tryz.prog 95 #[.pointer (some ⟨b, 0, none⟩), .func (.func 96) #[] #[.pointer (some ⟨g, 0, none⟩)]] w (AnI (fun n => .int .u32 (encF n)) b v l w (runI (fixR 4 l) st)) := by
  have H : Hid (DI w b v l st) := h
  have hb : b < w.heap.size := h.lt
  have hl := h.len
  cases st with
  | error x =>
    obtain ⟨f, e⟩ := x
    have c2 := cell_of h.st.1 2
    simp at c2
    have de : ((e : Int) == 0) = false := by have := h.st.2; simp; exact this
    clear h
    go_enter Tryz.func95, Tryz.ntmps95
    go_wp2_with fail
    go_ret
    exact ⟨⟨0, by first | rfl | (simp [encF]; done) | (simp [encF]; unfold wrap32; omega) | (simp [encF]; unfold wrap64; omega) | (simp [encF, wrap32, wrap64]; done)⟩, Turn.refl _ _, H.out⟩
  | ok p =>
    have c0 := cell_of h.st.1 0
    have c1 := cell_of h.st.1 1
    have c2 := cell_of h.st.1 2
    have z1 := free_of h.st.1 1
    have z2 := free_of h.st.1 2
    have hle := h.st.2
    simp at c0 c1 c2
    show Calls _ _ _ _ (AnI _ _ _ _ _ (fixR 4 l p))
    obtain ⟨a, cap, rfl⟩ := h.rd.len
    have HC : Hid (∀ w1, Grew w w1 → Calls Tryz.prog 96 #[.slice a l.length cap, .int .i64 (p : Int), .pointer (some ⟨g, 0, none⟩)] w1 fun en w' => en = .returned (.tuple #[.int .u32 (encF (fx 4 l p l.length).1), .int .i64 (fx 4 l p l.length).2.1, .int .i64 (fx 4 l p l.length).2.2]) ∧ w' = w1) := fun w1 gw => cloF p g (gw.reads h.rd) h.byt h.len (by have := cell_of ((gw.turn []).other hg (by simp)) 0; simpa using this)
    have GG : Hid (g ≠ b) := hgb
    rcases fixR_ways (k := 4) hle with ⟨n, q, hr, h1, h2, h3⟩ | ⟨n, f, e, hr, h1, h2, h3, h4⟩
    · rw [h3]
      rw [hr] at HC
      simp only at HC
      clear h hr h3 hg hgb
      obtain ⟨N, hen⟩ : ∃ N, encF n = N := ⟨_, rfl⟩
      rw [hen] at HC
      have HN : Hid (encF n = N) := hen
      clear hen
      go_enter Tryz.func95, Tryz.ntmps95
      go_wp2_with fail
      go_region_with (first
        | (go_at_call 96
           refine (HC.out _ (by first | exact Grew.refl _ | exact (Grew.refl _).drew | exact (Grew.refl _).drewN _)).mono ?_
           rintro en w3 ⟨rfl, h3⟩
           obtain rfl := h3.symm))
      all_goals
        go_wp2_with fail
        go_ret
        refine ⟨?_, ?_⟩
        · show _ = Ending.returned (.int .u32 (encF n))
          rw [HN.out]
          rfl
        · have t := (((Turn.refl [b] w).drew).set (p := ⟨b, 1, none⟩) (Or.inl (by simp)) (.int .i64 (q : Int))).set (p := ⟨b, 2, none⟩) (Or.inl (by simp)) (.int .i64 0)
          refine ⟨t, H.out.of t ⟨?_, h2⟩⟩
          show ((w.setCell ⟨b, 1, none⟩ (.int .i64 (q : Int))).setCell ⟨b, 2, none⟩ (.int .i64 0)).heap[b]? = _
          rw [heap_set (heap_set H.out.st.1 1 _) 2 _]
          simp [rdI]
    · rw [h4]
      rw [hr] at HC
      simp only at HC
      have he0 : e ≠ 0 := by omega
      clear h hr h3 h4 hg hgb
      obtain ⟨N, hen⟩ : ∃ N, encF n = N := ⟨_, rfl⟩
      rw [hen] at HC
      have HN : Hid (encF n = N) := hen
      clear hen
      go_enter Tryz.func95, Tryz.ntmps95
      go_wp2_with fail
      go_region_with (first
        | (go_at_call 96
           refine (HC.out _ (by first | exact Grew.refl _ | exact (Grew.refl _).drew | exact (Grew.refl _).drewN _)).mono ?_
           rintro en w3 ⟨rfl, h3⟩
           obtain rfl := h3.symm))
      all_goals
        go_wp2_with fail
        go_ret
        refine ⟨⟨n, ?_⟩, ?_⟩
        · show _ = Ending.returned (.int .u32 (encF n))
          rw [HN.out]
          rfl
        · have t := (((Turn.refl [b] w).drew).set (p := ⟨b, 1, none⟩) (Or.inl (by simp)) (.int .i64 (f : Int))).set (p := ⟨b, 2, none⟩) (Or.inl (by simp)) (.int .i64 (e : Int))
          refine ⟨t, H.out.of t ⟨?_, he0⟩⟩
          show ((w.setCell ⟨b, 1, none⟩ (.int .i64 (f : Int))).setCell ⟨b, 2, none⟩ (.int .i64 (e : Int))).heap[b]? = _
          rw [heap_set (heap_set H.out.st.1 1 _) 2 _]
          simp [rdI]
set_option maxRecDepth 100000 in
theorem numFI {w : World} {b : Nat} {v : Value} {l : List Int} {st : Except (Nat × Nat) Nat} (h : DI w b v l st) :
    Calls Tryz.prog 66 #[.pointer (some ⟨b, 0, none⟩), .func (.func 81) #[] #[]] w (AnI (fun n => .int .u32 (encF n)) b v l w (runI (fixR 4 l) st)) := by
  have hmf : ∀ (fn : Fn) (first cap : Array Value) (w : World), (Instr.makeFunc fn first cap).run Tryz.prog w = .ok (.func fn first cap) w := fun _ _ _ _ => rfl
  have hb : b < w.heap.size := h.lt
  have C := typedF (h.grew ((Grew.refl w).alloc (.cells #[.func (.func 81) #[] #[]] 112))) w.heap.size (by omega) (heap_alloc_last _ _)
  have T0 : Hid (Turn [b] w (w.alloc (.cells #[.func (.func 81) #[] #[]] 112))) := (Turn.refl [b] w).alloc _
  clear h
  generalize runI (fixR 4 l) st = X at *
  go_enter Tryz.func66, Tryz.ntmps66
  go_wp2_with fail
  refine C.mono ?_
  intro en w1 ha
  clear C
  cases X with
  | error y =>
    obtain ⟨f, e⟩ := y
    obtain ⟨⟨y, rfl⟩, t1, s1⟩ := ha
    have F1 : Hid (FinI b v l w w1 (.error (f, e))) := ⟨T0.out.trans t1, s1⟩
    clear t1 s1
    go_wp2_with fail
    go_ret
    exact ⟨⟨y, rfl⟩, F1.out⟩
  | ok y =>
    obtain ⟨n, q⟩ := y
    obtain ⟨rfl, t1, s1⟩ := ha
    have F1 : Hid (FinI b v l w w1 (.ok q)) := ⟨T0.out.trans t1, s1⟩
    clear t1 s1
    go_wp2_with fail
    go_ret
    exact ⟨rfl, F1.out⟩
def encG (n : Int) : Int := n
set_option maxRecDepth 100000 in
theorem cloG {w : World} {v : Value} {l : List Int} (p : Nat) (g : Nat) (hR : Reads w v l) (hb : Byt l) (hl : l.length ≤ 140737488351232) (hg : w.cell? ⟨g, 0, none⟩ = some (.func (.func 82) #[] #[])) :
    Calls Tryz.prog 103 #[v, .int .i64 (p : Int), .pointer (some ⟨g, 0, none⟩)] w fun en w' => en = .returned (.tuple #[.int .u64 (encG (fx 8 l p l.length).1), .int .i64 (fx 8 l p l.length).2.1, .int .i64 (fx 8 l p l.length).2.2]) ∧ w' = w := by
  have HC := f64_any v l (p : Int) (l.length : Int) w hR hb hl
  obtain ⟨a, cap, rfl⟩ := hR.len
  clear hR hb
  go_enter Tryz.func103, Tryz.ntmps103
  go_wp2_with fail
  refine HC.mono ?_
  rintro en w1 ⟨rfl, h1⟩
  obtain rfl := h1.symm
  go_wp2_with fail
  go_ret3
  exact ⟨rfl, rfl⟩
set_option maxRecDepth 100000 in
set_option maxHeartbeats 2000000 in
theorem typedG {w : World} {b : Nat} {v : Value} {l : List Int} {st : Except (Nat × Nat) Nat} (h : DI w b v l st) (g : Nat) (hgb : g ≠ b) {gt : TypeId} (hg : w.heap[g]? = some (.cells #[.func (.func 82) #[] #[]] gt (0, 0))) :
    Calls Tryz.prog 102 #[.pointer (some ⟨b, 0, none⟩), .func (.func 103) #[] #[.pointer (some ⟨g, 0, none⟩)]] w (AnI (fun n => .int .u64 (encG n)) b v l w (runI (fixR 8 l) st)) := by
  have H : Hid (DI w b v l st) := h
  have hb : b < w.heap.size := h.lt
  have hl := h.len
  cases st with
  | error x =>
    obtain ⟨f, e⟩ := x
    have c2 := cell_of h.st.1 2
    simp at c2
    have de : ((e : Int) == 0) = false := by have := h.st.2; simp; exact this
    clear h
    go_enter Tryz.func102, Tryz.ntmps102
    go_wp2_with fail
    go_ret
    exact ⟨⟨0, by first | rfl | (simp [encG]; done) | (simp [encG]; unfold wrap32; omega) | (simp [encG]; unfold wrap64; omega) | (simp [encG, wrap32, wrap64]; done)⟩, Turn.refl _ _, H.out⟩
  | ok p =>
    have c0 := cell_of h.st.1 0
    have c1 := cell_of h.st.1 1
    have c2 := cell_of h.st.1 2
    have z1 := free_of h.st.1 1
    have z2 := free_of h.st.1 2
    have hle := h.st.2
    simp at c0 c1 c2
    show Calls _ _ _ _ (AnI _ _ _ _ _ (fixR 8 l p))
    obtain ⟨a, cap, rfl⟩ := h.rd.len
    have HC : Hid (∀ w1, Grew w w1 → Calls Tryz.prog 103 #[.slice a l.length cap, .int .i64 (p : Int), .pointer (some ⟨g, 0, none⟩)] w1 fun en w' => en = .returned (.tuple #[.int .u64 (encG (fx 8 l p l.length).1), .int .i64 (fx 8 l p l.length).2.1, .int .i64 (fx 8 l p l.length).2.2]) ∧ w' = w1) := fun w1 gw => cloG p g (gw.reads h.rd) h.byt h.len (by have := cell_of ((gw.turn []).other hg (by simp)) 0; simpa using this)
    have GG : Hid (g ≠ b) := hgb
    rcases fixR_ways (k := 8) hle with ⟨n, q, hr, h1, h2, h3⟩ | ⟨n, f, e, hr, h1, h2, h3, h4⟩
    · rw [h3]
      rw [hr] at HC
      simp only at HC
      clear h hr h3 hg hgb
      obtain ⟨N, hen⟩ : ∃ N, encG n = N := ⟨_, rfl⟩
      rw [hen] at HC
      have HN : Hid (encG n = N) := hen
      clear hen
      go_enter Tryz.func102, Tryz.ntmps102
      go_wp2_with fail
      go_region_with (first
        | (go_at_call 103
           refine (HC.out _ (by first | exact Grew.refl _ | exact (Grew.refl _).drew | exact (Grew.refl _).drewN _)).mono ?_
           rintro en w3 ⟨rfl, h3⟩
           obtain rfl := h3.symm))
      all_goals
        go_wp2_with fail
        go_ret
        refine ⟨?_, ?_⟩
        · show _ = Ending.returned (.int .u64 (encG n))
          rw [HN.out]
          rfl
        · have t := (((Turn.refl [b] w).drew).set (p := ⟨b, 1, none⟩) (Or.inl (by simp)) (.int .i64 (q : Int))).set (p := ⟨b, 2, none⟩) (Or.inl (by simp)) (.int .i64 0)
          refine ⟨t, H.out.of t ⟨?_, h2⟩⟩
          show ((w.setCell ⟨b, 1, none⟩ (.int .i64 (q : Int))).setCell ⟨b, 2, none⟩ (.int .i64 0)).heap[b]? = _
          rw [heap_set (heap_set H.out.st.1 1 _) 2 _]
          simp [rdI]
    · rw [h4]
      rw [hr] at HC
      simp only at HC
      have he0 : e ≠ 0 := by omega
      clear h hr h3 h4 hg hgb
      obtain ⟨N, hen⟩ : ∃ N, encG n = N := ⟨_, rfl⟩
      rw [hen] at HC
      have HN : Hid (encG n = N) := hen
      clear hen
      go_enter Tryz.func102, Tryz.ntmps102
      go_wp2_with fail
      go_region_with (first
        | (go_at_call 103
           refine (HC.out _ (by first | exact Grew.refl _ | exact (Grew.refl _).drew | exact (Grew.refl _).drewN _)).mono ?_
           rintro en w3 ⟨rfl, h3⟩
           obtain rfl := h3.symm))
      all_goals
        go_wp2_with fail
        go_ret
        refine ⟨⟨n, ?_⟩, ?_⟩
        · show _ = Ending.returned (.int .u64 (encG n))
          rw [HN.out]
          rfl
        · have t := (((Turn.refl [b] w).drew).set (p := ⟨b, 1, none⟩) (Or.inl (by simp)) (.int .i64 (f : Int))).set (p := ⟨b, 2, none⟩) (Or.inl (by simp)) (.int .i64 (e : Int))
          refine ⟨t, H.out.of t ⟨?_, he0⟩⟩
          show ((w.setCell ⟨b, 1, none⟩ (.int .i64 (f : Int))).setCell ⟨b, 2, none⟩ (.int .i64 (e : Int))).heap[b]? = _
          rw [heap_set (heap_set H.out.st.1 1 _) 2 _]
          simp [rdI]
set_option maxRecDepth 100000 in
theorem numGI {w : World} {b : Nat} {v : Value} {l : List Int} {st : Except (Nat × Nat) Nat} (h : DI w b v l st) :
    Calls Tryz.prog 75 #[.pointer (some ⟨b, 0, none⟩), .func (.func 82) #[] #[]] w (AnI (fun n => .int .u64 (encG n)) b v l w (runI (fixR 8 l) st)) := by
  have hmf : ∀ (fn : Fn) (first cap : Array Value) (w : World), (Instr.makeFunc fn first cap).run Tryz.prog w = .ok (.func fn first cap) w := fun _ _ _ _ => rfl
  have hb : b < w.heap.size := h.lt
  have C := typedG (h.grew ((Grew.refl w).alloc (.cells #[.func (.func 82) #[] #[]] 123))) w.heap.size (by omega) (heap_alloc_last _ _)
  have T0 : Hid (Turn [b] w (w.alloc (.cells #[.func (.func 82) #[] #[]] 123))) := (Turn.refl [b] w).alloc _
  clear h
  generalize runI (fixR 8 l) st = X at *
  go_enter Tryz.func75, Tryz.ntmps75
  go_wp2_with fail
  refine C.mono ?_
  intro en w1 ha
  clear C
  cases X with
  | error y =>
    obtain ⟨f, e⟩ := y
    obtain ⟨⟨y, rfl⟩, t1, s1⟩ := ha
    have F1 : Hid (FinI b v l w w1 (.error (f, e))) := ⟨T0.out.trans t1, s1⟩
    clear t1 s1
    go_wp2_with fail
    go_ret
    exact ⟨⟨y, rfl⟩, F1.out⟩
  | ok y =>
    obtain ⟨n, q⟩ := y
    obtain ⟨rfl, t1, s1⟩ := ha
    have F1 : Hid (FinI b v l w w1 (.ok q)) := ⟨T0.out.trans t1, s1⟩
    clear t1 s1
    go_wp2_with fail
    go_ret
    exact ⟨rfl, F1.out⟩
end Go.Proofs.YtohapnninjdlfaaGreatDoor
