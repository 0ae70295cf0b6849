/-
  The reader of instructions: numbers; no statement is proved here.
-/
import Derived.Test.YtohapnninjdlfaaGreatDoorInB
namespace Go.Proofs.YtohapnninjdlfaaGreatDoor
open Go.RowKit
set_option linter.unusedVariables false
set_option linter.unusedSimpArgs false
set_option linter.constructorNameAsVariable false

def encU (n : Int) : Int := (n % 4294967296)
set_option maxRecDepth 100000 in
theorem cloU {w : World} {v : Value} {l : List Int} (p : Nat) (g : Nat) (hR : Reads w v l) (hb : Byt l) (hl : l.length ≤ 140737488351232) (hg : w.cell? ⟨g, 0, none⟩ = some (.func (.func 67) #[] #[])) :
    Calls Tryz.prog 96 #[v, .int .i64 (p : Int), .pointer (some ⟨g, 0, none⟩)] w fun en w' => en = .returned (.tuple #[.int .u32 (encU (rd 32 false l p l.length).1), .int .i64 (rd 32 false l p l.length).2.1, .int .i64 (rd 32 false l p l.length).2.2]) ∧ w' = w := by
  have HC := u32_any v l (p : Int) (l.length : Int) w hR hb hl
  obtain ⟨a, cap, rfl⟩ := hR.len
  clear hR hb
  go_enter Tryz.func96, Tryz.ntmps96
  go_wp2_with fail
  refine HC.mono ?_
  rintro en w1 ⟨rfl, h1⟩
  obtain rfl := h1.symm
  go_wp2_with fail
  go_ret3
  exact ⟨rfl, rfl⟩
set_option maxRecDepth 100000 in
set_option maxHeartbeats 2000000 in
theorem typedU {w : World} {b : Nat} {v : Value} {l : List Int} {st : Except (Nat × Nat) Nat} (h : DI w b v l st) (g : Nat) (hgb : g ≠ b) {gt : TypeId} (hg : w.heap[g]? = some (.cells #[.func (.func 67) #[] #[]] gt (0, 0))) :
    Calls Tryz.prog 95 #[.pointer (some ⟨b, 0, none⟩), .func (.func 96) #[] #[.pointer (some ⟨g, 0, none⟩)]] w (AnI (fun n => .int .u32 (encU n)) b v l w (runI (numR 32 false l) st)) := by
  have H : Hid (DI w b v l st) := h
  have hb : b < w.heap.size := h.lt
  have hl := h.len
  cases st with
  | error x =>
    obtain ⟨f, e⟩ := x
    have c2 := cell_of h.st.1 2
    simp at c2
    have de : ((e : Int) == 0) = false := by have := h.st.2; simp; exact this
    clear h
    go_enter Tryz.func95, Tryz.ntmps95
    go_wp2_with fail
    go_ret
    exact ⟨⟨0, by first | (simp [encU]; done) | (simp [encU]; unfold wrap32; omega) | (simp [encU]; unfold wrap64; omega) | (simp [encU, wrap32, wrap64]; done)⟩, Turn.refl _ _, H.out⟩
  | ok p =>
    have c0 := cell_of h.st.1 0
    have c1 := cell_of h.st.1 1
    have c2 := cell_of h.st.1 2
    have z1 := free_of h.st.1 1
    have z2 := free_of h.st.1 2
    have hle := h.st.2
    simp at c0 c1 c2
    show Calls _ _ _ _ (AnI _ _ _ _ _ (numR 32 false l p))
    obtain ⟨a, cap, rfl⟩ := h.rd.len
    have HC : Hid (∀ w1, Grew w w1 → Calls Tryz.prog 96 #[.slice a l.length cap, .int .i64 (p : Int), .pointer (some ⟨g, 0, none⟩)] w1 fun en w' => en = .returned (.tuple #[.int .u32 (encU (rd 32 false l p l.length).1), .int .i64 (rd 32 false l p l.length).2.1, .int .i64 (rd 32 false l p l.length).2.2]) ∧ w' = w1) := fun w1 gw => cloU p g (gw.reads h.rd) h.byt h.len (by have := cell_of ((gw.turn []).other hg (by simp)) 0; simpa using this)
    have GG : Hid (g ≠ b) := hgb
    rcases numR_ways (b := 32) (sg := false) hle with ⟨n, q, hr, h1, h2, h3⟩ | ⟨n, f, e, hr, h1, h2, h3, h4⟩
    · rw [h3]
      rw [hr] at HC
      simp only at HC
      clear h hr h3 hg hgb
      obtain ⟨N, hen⟩ : ∃ N, encU n = N := ⟨_, rfl⟩
      rw [hen] at HC
      have HN : Hid (encU n = N) := hen
      clear hen
      go_enter Tryz.func95, Tryz.ntmps95
      go_wp2_with fail
      go_region_with (first
        | (go_at_call 96
           refine (HC.out _ (by first | exact Grew.refl _ | exact (Grew.refl _).drew | exact (Grew.refl _).drewN _)).mono ?_
           rintro en w3 ⟨rfl, h3⟩
           obtain rfl := h3.symm))
      all_goals
        go_wp2_with fail
        go_ret
        refine ⟨?_, ?_⟩
        · show _ = Ending.returned (.int .u32 (encU n))
          rw [HN.out]
          rfl
        · have t := (((Turn.refl [b] w).drew).set (p := ⟨b, 1, none⟩) (Or.inl (by simp)) (.int .i64 (q : Int))).set (p := ⟨b, 2, none⟩) (Or.inl (by simp)) (.int .i64 0)
          refine ⟨t, H.out.of t ⟨?_, h2⟩⟩
          show ((w.setCell ⟨b, 1, none⟩ (.int .i64 (q : Int))).setCell ⟨b, 2, none⟩ (.int .i64 0)).heap[b]? = _
          rw [heap_set (heap_set H.out.st.1 1 _) 2 _]
          simp [rdI]
    · rw [h4]
      rw [hr] at HC
      simp only at HC
      have he0 : e ≠ 0 := by omega
      clear h hr h3 h4 hg hgb
      obtain ⟨N, hen⟩ : ∃ N, encU n = N := ⟨_, rfl⟩
      rw [hen] at HC
      have HN : Hid (encU n = N) := hen
      clear hen
      go_enter Tryz.func95, Tryz.ntmps95
      go_wp2_with fail
      go_region_with (first
        | (go_at_call 96
           refine (HC.out _ (by first | exact Grew.refl _ | exact (Grew.refl _).drew | exact (Grew.refl _).drewN _)).mono ?_
           rintro en w3 ⟨rfl, h3⟩
           obtain rfl := h3.symm))
      all_goals
        go_wp2_with fail
        go_ret
        refine ⟨⟨n, ?_⟩, ?_⟩
        · show _ = Ending.returned (.int .u32 (encU n))
          rw [HN.out]
          rfl
        · have t := (((Turn.refl [b] w).drew).set (p := ⟨b, 1, none⟩) (Or.inl (by simp)) (.int .i64 (f : Int))).set (p := ⟨b, 2, none⟩) (Or.inl (by simp)) (.int .i64 (e : Int))
          refine ⟨t, H.out.of t ⟨?_, he0⟩⟩
          show ((w.setCell ⟨b, 1, none⟩ (.int .i64 (f : Int))).setCell ⟨b, 2, none⟩ (.int .i64 (e : Int))).heap[b]? = _
          rw [heap_set (heap_set H.out.st.1 1 _) 2 _]
          simp [rdI]
set_option maxRecDepth 100000 in
theorem numUI {w : World} {b : Nat} {v : Value} {l : List Int} {st : Except (Nat × Nat) Nat} (h : DI w b v l st) :
    Calls Tryz.prog 66 #[.pointer (some ⟨b, 0, none⟩), .func (.func 67) #[] #[]] w (AnI (fun n => .int .u32 (encU n)) b v l w (runI (numR 32 false l) st)) := by
  have hmf : ∀ (fn : Fn) (first cap : Array Value) (w : World), (Instr.makeFunc fn first cap).run Tryz.prog w = .ok (.func fn first cap) w := fun _ _ _ _ => rfl
  have hb : b < w.heap.size := h.lt
  have C := typedU (h.grew ((Grew.refl w).alloc (.cells #[.func (.func 67) #[] #[]] 112))) w.heap.size (by omega) (heap_alloc_last _ _)
  have T0 : Hid (Turn [b] w (w.alloc (.cells #[.func (.func 67) #[] #[]] 112))) := (Turn.refl [b] w).alloc _
  clear h
  generalize runI (numR 32 false l) st = X at *
  go_enter Tryz.func66, Tryz.ntmps66
  go_wp2_with fail
  refine C.mono ?_
  intro en w1 ha
  clear C
  cases X with
  | error y =>
    obtain ⟨f, e⟩ := y
    obtain ⟨⟨y, rfl⟩, t1, s1⟩ := ha
    have F1 : Hid (FinI b v l w w1 (.error (f, e))) := ⟨T0.out.trans t1, s1⟩
    clear t1 s1
    go_wp2_with fail
    go_ret
    exact ⟨⟨y, rfl⟩, F1.out⟩
  | ok y =>
    obtain ⟨n, q⟩ := y
    obtain ⟨rfl, t1, s1⟩ := ha
    have F1 : Hid (FinI b v l w w1 (.ok q)) := ⟨T0.out.trans t1, s1⟩
    clear t1 s1
    go_wp2_with fail
    go_ret
    exact ⟨rfl, F1.out⟩
set_option maxRecDepth 100000 in
theorem iindex_any {w : World} {b : Nat} {v : Value} {l : List Int} {st : Except (Nat × Nat) Nat} (h : DI w b v l st) :
    Calls Tryz.prog 40 #[.pointer (some ⟨b, 0, none⟩)] w (AnI (fun n => .int .u32 (encU n)) b v l w (runI (u32R l) st)) := by
  have C := numUI h
  rw [show numR 32 false l = u32R l from rfl] at C
  clear h
  generalize runI (u32R l) st = X at *
  go_enter Tryz.func40, Tryz.ntmps40
  go_wp2_with fail
  refine C.mono ?_
  intro en w1 ha
  clear C
  cases X with
  | error y =>
    obtain ⟨f, e⟩ := y
    obtain ⟨⟨y, rfl⟩, F1⟩ := ha
    have F1 : Hid (FinI b v l w w1 (.error (f, e))) := F1
    go_wp2_with fail
    go_ret
    exact ⟨⟨y, rfl⟩, F1.out⟩
  | ok y =>
    obtain ⟨n, q⟩ := y
    obtain ⟨rfl, F1⟩ := ha
    have F1 : Hid (FinI b v l w w1 (.ok q)) := F1
    go_wp2_with fail
    go_ret
    exact ⟨rfl, F1.out⟩
end Go.Proofs.YtohapnninjdlfaaGreatDoor
